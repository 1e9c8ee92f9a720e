/- Package journal: the laws' wakes. -/
import Derived.Test.YtnjpdchmdimaaaaGreatQJnc
import Derived.Test.YtnjpdchmdimaaaaGreatQJns
import Derived.Test.YtnjpdchmdimaaaaGreatQJoa
namespace Go.Proofs.YtnjpdchmdimaaaaGreat
open Go.ChangeShapes Go.WideShapes Go.ChangeAt Go.RowKit Go.Shelf

def JcB (W : World) (g : Nat) (a b c d e f m : Value) (j : Jn) : Prop := Cs W g 40 #[a, b, c, d, e, f, m] ∧ WoR W a b c j.p.w ∧ AxR W d e f j.p.x ∧ Pos W m j.m
theorem JcB.ext {W W' : World} {g : Nat} {a b c d e f m : Value} {j : Jn} (h : JcB W g a b c d e f m j) (he : Ext W W') : JcB W' g a b c d e f m j := ⟨Cs.ext h.1 he, h.2.1.ext he, h.2.2.1.ext he, h.2.2.2.ext he⟩
theorem RetJn.parts {lo : Nat} {W : World} {a b c d e f m : Value} {j : Jn} (h : RetJn lo W (.agg #[a, b, c, d, e, f, m]) j) : WoR W a b c j.p.w ∧ AxR W d e f j.p.x ∧ Pos W m j.m := by
 obtain ⟨a', b', c', d', e', f', m', q, h1, h2, h3⟩ := h
 obtain ⟨rfl, rfl, rfl, rfl, rfl, rfl, rfl⟩ : a = a' ∧ b = b' ∧ c = c' ∧ d = d' ∧ e = e' ∧ f = f' ∧ m = m' := by simpa using q
 exact ⟨h1.wor, h2.axr, h3.sl⟩
def wjL : List Pe := [⟨3, 0, 0⟩, ⟨1, 0, 0⟩]
def wjX : Ax := ⟨[⟨1, 0, 0⟩, ⟨3, 0, 0⟩], [], []⟩
def wjA : Jn := ⟨⟨richO 5, wjX⟩, []⟩
def wjB : Jn := ⟨⟨richO 5, wjX⟩, [⟨richO 5, wjX⟩]⟩
def wjC : Jn := ⟨⟨richO 7, wjX⟩, [⟨richO 5, wjX⟩]⟩
theorem wj_row {w : World} {g : Nat} (h : w.heap[g]? = some (.cells #[.int .u64 3, .int .u64 1] 45 (0, 0))) : XA w (.slice (some ⟨g, 0, none⟩) 2 2) wjL := by
 have ho : AzO w 0 (.slice (some ⟨g, 0, none⟩) 2 2) [3, 1] := own_row (l := [3, 1]) h (Nat.zero_le _) (by unfold maxLen; decide)
 have : OwnA w 0 (.slice (some ⟨g, 0, none⟩) 2 2) wjL := ⟨ho, fun p hp => by
  simp only [wjL, List.mem_cons, List.not_mem_nil, or_false] at hp
  rcases hp with rfl | rfl <;> exact ⟨by decide, rfl, rfl⟩⟩
 exact this.xs
theorem wj_sz (n : Nat) : SzW (richO n) := by show 1 ≤ 100000; decide
theorem wj5 : rightWo (richO 5) = true := by decide +kernel
theorem wj7 : rightWo (richO 7) = true := by decide +kernel
theorem wj_x : rightX wjX = true := by decide +kernel
theorem wj_right (o q : Wo) (m : List Po) (ho : rightWo o = true) (hm : ∀ p ∈ m, p = ⟨q, wjX⟩) (hq : rightWo q = true) (hl : m.length ≤ 16) : rightJn ⟨⟨o, wjX⟩, m⟩ = true :=
 rightJn_of hl (by unfold rightPo; simp only [ho, wj_x, Bool.and_self]) (fun p hp => by rw [hm p hp]; unfold rightPo; simp only [hq, wj_x, Bool.and_self])
theorem wj_new : newJ (richO 5) wjL = (wjA, 0) := by
 have h1 : newX wjL = (wjX, 0) := by decide +kernel
 have h2 : rightJn jn0 = true := by decide +kernel
 unfold newJ newE
 rw [h1, wj5]
 exact jchg_yes h2
theorem wj_mark : markJ wjA = (wjB, 0, 0) := by
 have hr : rightJn wjA = true := wj_right _ (richO 5) _ wj5 (fun p hp => nomatch hp) wj5 (Nat.zero_le _)
 have h : mkR wjA = (wjB, 0) := by
  unfold mkR
  exact jchg_yes hr
 unfold markJ
 rw [h]
 rfl
theorem wjB_right : rightJn wjB = true := wj_right _ (richO 5) _ wj5 (fun p hp => List.mem_singleton.1 hp) wj5 (by decide)
theorem wjC_right : rightJn wjC = true := wj_right _ (richO 5) _ wj7 (fun p hp => List.mem_singleton.1 hp) wj5 (by decide)
theorem wj_lay : layJ wjB (richO 7) = (wjC, 0) := layJ_yes wjB_right wj7
theorem wj_back : backJ wjC 0 = (wjA, 0) := by
 unfold backJ endJ endE
 exact jchg_yes wjC_right
theorem wj_same : sameWo wjA.p.w (richO 5) = true := sameWo_iff.2 rfl
theorem wjB_szj : SzJ wjB := ⟨wj_sz 5, fun p hp => by rw [List.mem_singleton.1 hp]; exact wj_sz 5⟩
theorem wjC_szj : SzJ wjC := ⟨wj_sz 7, fun p hp => by rw [List.mem_singleton.1 hp]; exact wj_sz 5⟩
theorem wjA_szj : SzJ wjA := ⟨wj_sz 5, fun _p hp => nomatch hp⟩
set_option maxRecDepth 100000 in
theorem wjNew_any (u v z : Value) (w : World) (g : Nat) (h : w.heap[g]? = some (.cells #[.int .u64 3, .int .u64 1] 45 (0, 0))) (ho : WoR w u v z (richO 5)) : Calls Tryz.prog 18 #[.agg #[u, v, z], .slice (some ⟨g, 0, none⟩) 2 2] w fun e w' => ∃ v', e = .returned (.tuple #[v', .int .i64 0]) ∧ RetJn w.heap.size w' v' wjA ∧ Ext w w' := by
 have := newJ_any u v z _ (richO 5) wjL w ho (wj_sz 5) (wj_row h) (by decide)
 rw [wj_new] at this
 exact this
set_option maxRecDepth 100000 in
theorem wjMark_any (a b c d e f : Value) (AM : Option Addr) (c0 : Nat) (w : World) (hx : WoR w a b c wjA.p.w ∧ AxR w d e f wjA.p.x ∧ Pos w (.slice AM wjA.m.length c0) wjA.m) :
  Calls Tryz.prog 26 #[.agg #[a, b, c, d, e, f, .slice AM wjA.m.length c0]] w fun e w' => ∃ v', e = .returned (.tuple #[v', .int .i64 0, .int .i64 0]) ∧ RetJn w.heap.size w' v' wjB ∧ Ext w w' := by
 have := markJ_any a b c d e f AM c0 wjA w hx wjA_szj
 rw [wj_mark] at this
 exact this
set_option maxRecDepth 100000 in
theorem wjLay_any (a b c d e f m u v z : Value) (w : World) (hx : WoR w a b c wjB.p.w ∧ AxR w d e f wjB.p.x ∧ Pos w m wjB.m) (ho : WoR w u v z (richO 7)) :
  Calls Tryz.prog 30 #[.agg #[a, b, c, d, e, f, m], .agg #[u, v, z]] w fun e w' => ∃ v', e = .returned (.tuple #[v', .int .i64 0]) ∧ RetJn w.heap.size w' v' wjC ∧ Ext w w' := by
 have := layJ_any a b c d e f m u v z wjB (richO 7) w hx wjB_szj ho (wj_sz 7)
 rw [wj_lay] at this
 exact this
set_option maxRecDepth 100000 in
theorem wjBack_any (a b c d e f : Value) (AM : Option Addr) (c0 : Nat) (w : World) (hx : WoR w a b c wjC.p.w ∧ AxR w d e f wjC.p.x ∧ Pos w (.slice AM wjC.m.length c0) wjC.m) :
  Calls Tryz.prog 28 #[.agg #[a, b, c, d, e, f, .slice AM wjC.m.length c0], .int .i64 0] w fun e w' => ∃ v', e = .returned (.tuple #[v', .int .i64 0]) ∧ RetJn w.heap.size w' v' wjA ∧ Ext w w' := by
 have := backJ_any a b c d e f AM c0 wjC 0 w hx wjC_szj
 rw [wj_back] at this
 exact this
def LyW (lo : Nat) (u : Value) (j : Jn) (W : World) : Prop := ∃ t, u = .tuple #[t, .int .i64 0] ∧ RetJn lo W t j
theorem LyW.ext {lo : Nat} {u : Value} {j : Jn} {W W' : World} (h : LyW lo u j W) (he : Ext W W') : LyW lo u j W' := by
 obtain ⟨t, h1, h2⟩ := h
 exact ⟨t, h1, h2.ext he⟩
def LyG (u q : Value) (j : Jn) (W : World) : Prop := ∃ t g lo Wc, u = .tuple #[t, .int .i64 0] ∧ q = .pointer (some ⟨g, 0, none⟩) ∧ RetJn lo Wc t j ∧ Ext Wc W ∧ (g < lo ∨ Wc.heap.size ≤ g)
theorem LyG.ext {u q : Value} {j : Jn} {W W' : World} (h : LyG u q j W) (he : Ext W W') : LyG u q j W' := by
 obtain ⟨t, g, lo, Wc, h1, h2, h3, h4, h5⟩ := h
 exact ⟨t, g, lo, Wc, h1, h2, h3, h4.trans he, h5⟩
def Z7 (lo : Nat) (q : Value) (W : World) : Prop := ∃ g, q = .pointer (some ⟨g, 0, none⟩) ∧ Cs W g 40 #[.slice none 0 0, .slice none 0 0, .slice none 0 0, .slice none 0 0, .slice none 0 0, .slice none 0 0, .slice none 0 0] ∧ lo ≤ g
theorem Z7.ext {lo : Nat} {q : Value} {W W' : World} (h : Z7 lo q W) (he : Ext W W') : Z7 lo q W' := by
 obtain ⟨g, h1, h2, h3⟩ := h
 exact ⟨g, h1, Cs.ext h2 he, h3⟩
def LyK (q : Value) (j : Jn) (w W : World) : Prop := ∃ g a b c d e f m, q = .pointer (some ⟨g, 0, none⟩) ∧ JcB W g a b c d e f m j ∧ Ext w W
theorem LyK.ext {q : Value} {j : Jn} {w W W' : World} (h : LyK q j w W) (he : Ext W W') : LyK q j w W' := by
 obtain ⟨g, a, b, c, d, e, f, m, h1, h2, h3⟩ := h
 exact ⟨g, a, b, c, d, e, f, m, h1, h2.ext he, h3.trans he⟩
set_option maxRecDepth 100000 in
theorem wjSame_any (a b c u v z : Value) (w : World) (h1 : WoR w a b c wjA.p.w) (h2 : WoR w u v z (richO 5)) : Calls Tryz.prog 16 #[.agg #[a, b, c], .agg #[u, v, z]] w fun e w' => e = .returned (.bool true) ∧ Ext w w' := by
 have := sameWo_any a b c u v z _ _ w h1 h2
 rw [wj_same] at this
 exact this
set_option maxRecDepth 100000 in
set_option maxHeartbeats 8000000 in
theorem wakesJ_any (w : World) : Calls Tryz.prog 7 #[] w fun e w' => e = .returned (.bool true) ∧ Ext w w' := by
 go_enter Tryz.func7, Tryz.ntmps7
 go_wp2_with fail
 refine (rich5_any _).mono ?_
 rintro e w0 ⟨v0, rfl, ho, he⟩
 obtain ⟨u0, x0, y0, rfl, ho⟩ := retWo_shp ho
 have HO0 := Lib.hid ho.wor
 have HE0 := Lib.hid he
 have HN := Lib.hid (wjNew_any u0 x0 y0 (w0.alloc (.cells #[.int .u64 3, .int .u64 1] 45)) w0.heap.size (heap_alloc_new _ _) (ho.wor.ext ((Ext.refl w0).alloc _)))
 clear ho he
 go_wp2_with fail
 refine HN.out.mono ?_
 rintro e w1 ⟨v1, rfl, hr, he⟩
 have HE1 := Lib.hid (HE0.out.trans (((Ext.refl w0).alloc _).trans he))
 obtain ⟨a1, b1, c1, d1, x1, y1, m1, rfl, hr⟩ := retJn_shp hr
 obtain ⟨hp1, hp2, hp3⟩ := hr.parts
 obtain ⟨A1, n1, rfl, _, _⟩ := hp3.len
 have HR1 := Lib.hid hr
 have HP1 := Lib.hid (And.intro hp1 (And.intro hp2 hp3))
 clear hr he hp1 hp2 hp3 HN
 go_wp2_with (first
  | ((with_reducible refine wpList_storeJn ?_ ?_ (.tmp 1) (.tmp 13) ?_ w1.heap.size (.slice none 0 0) (.slice none 0 0) (.slice none 0 0) (.slice none 0 0) (.slice none 0 0) (.slice none 0 0) (.slice none 0 0) a1 b1 c1 d1 x1 y1 (.slice A1 wjA.m.length n1) ?_ ?_ HR1.out.one ?_ ?_); (exact rfl); (exact rfl); (exact rfl); (exact rfl); (exact rfl); (exact (Cs.new _ _ _ _ rfl)); intro w2 k2 g2; have K2 := Lib.hid k2; have RG2 := Lib.hid (Cs.rg k2); have E2 := Lib.hid (((Ext.refl w1).alloc _).grown g2 (Nat.le_refl _)); clear k2 g2)
  | ((with_reducible refine wpList_loadJn ?_ (.tmp 1) ?_ w1.heap.size 0 a1 b1 c1 d1 x1 y1 (.slice A1 wjA.m.length n1) ?_ RG2.out ?_); (exact rfl); (exact rfl); (exact rfl)))
 refine (wjMark_any _ _ _ _ _ _ A1 n1 _ ⟨HP1.out.1.ext E2.out, HP1.out.2.1.ext E2.out, HP1.out.2.2.ext E2.out⟩).mono ?_
 rintro e w4 ⟨v4, rfl, hr, he⟩
 have HE4 := Lib.hid ((HE1.out.trans E2.out).trans he)
 have K4 := Lib.hid (Cs.ext K2.out he)
 have HL4 := Lib.hid (show w1.heap.size < w2.heap.size ∧ w.heap.size ≤ w1.heap.size from ⟨K2.out.lt, HE1.out.size⟩)
 obtain ⟨a4, b4, c4, d4, x4, y4, m4, rfl, hr⟩ := retJn_shp hr
 have HR4 := Lib.hid hr
 clear hr he K2 RG2 HP1
 go_upto_region 3 with ((with_reducible refine wpList_storeJn ?_ ?_ (.tmp 1) (.tmp 18) ?_ w1.heap.size a1 b1 c1 d1 x1 y1 (.slice A1 wjA.m.length n1) a4 b4 c4 d4 x4 y4 m4 ?_ ?_ HR4.out.one K4.out ?_); (exact rfl); (exact rfl); (exact rfl); (exact rfl); (exact rfl); intro w3 k3 g3; have K3 := Lib.hid k3; have R3 := Lib.hid ((HR4.out.old g3 HL4.out.1).parts); have E3 := Lib.hid (HE4.out.grown g3 HL4.out.2); clear k3 g3)
 have HJB : Hid (JcB w3 w1.heap.size a4 b4 c4 d4 x4 y4 m4 wjB) := Lib.hid ⟨K3.out, R3.out.1, R3.out.2.1, R3.out.2.2⟩
 clear K4 HR4 HR1 HO0 HE0 HE1 E2 HE4 R3 K3
 refine wp_named fun a0 ha0 => ?_
 obtain ⟨fr, hfr⟩ : ∃ fr : (Nat → Value) → Act, ∀ V, fr V = ((((((((a0.put (some 22) (V 0)).put (some 23) (V 1)).put (some 24) (V 2)).put (some 21) (V 3)).put (some 25) (V 4)).put (some 26) (V 5)).put (some 5) (V 6)).put (some 6) (V 8)) := ⟨_, fun _ => rfl⟩
 rw [ha0] at hfr
 simp only [Act.put, List.setIfInBounds_toArray, List.set_cons_zero, List.set_cons_succ] at hfr
 have HFR := Lib.hid hfr
 clear hfr
 refine wp_region_inv (by kernel_rfl) (by kernel_rfl) (fun L A W => ∃ V : Nat → Value, A = fr V ∧ Vals (fun j => ([some (.agg #[a4, b4, c4, d4, x4, y4, m4]), none, none, none, none, some (.int .i64 0), none, none, some (.int .i64 0)] : List (Option Value)).getD j none) L V ∧ (L 7 = false → Ext w3 W) ∧ (L 7 = true → LyK (V 6) wjC w3 W) ∧ (L 7 = false → L 1 = true → RetWo 0 W (V 1) (richO 7)) ∧ (L 2 = true → (∃ t, (V 2) = .tuple #[t, .int .i64 0])) ∧ (L 3 = true → ((V 3) = V 2 ∧ ∃ t, (V 3) = .tuple #[t, .int .i64 0])) ∧ (L 4 = true → (∃ t, V 2 = .tuple #[t, .int .i64 0] ∧ (V 4) = t)) ∧ (L 7 = false → L 6 = true → Z7 w3.heap.size (V 6) W) ∧ (L 7 = false → L 2 = true → L 6 = false → LyW 0 (V 2) wjC W) ∧ (L 7 = false → L 2 = true → L 6 = true → LyG (V 2) (V 6) wjC W)) ?_ ⟨?_, ?_, ?_, ?_, ?_, ?_, ?_, ?_, ?_, trivial⟩ ?_
 ·refine ⟨fun j => a0.tmps.getD (([22, 23, 24, 21, 25, 26, 5, 0, 6] : List Nat).getD j 0) undef, ?_, Vals.no _ _ _ (far_none _ _ rfl), fun _ => (Ext.refl _).drew, fun h0 => absurd h0 (by decide), fun h0 h1 => absurd h1 (by decide), fun h0 => absurd h0 (by decide), fun h0 => absurd h0 (by decide), fun h0 => absurd h0 (by decide), fun h0 h1 => absurd h1 (by decide), fun h0 h1 h2 => absurd h1 (by decide), fun h0 h1 h2 => absurd h1 (by decide)⟩
  rw [HFR.out, ha0]
  rfl
 all_goals clear ha0
 ·rintro L A W K hL hC hW ⟨V, rfl, HV, s0, s1, f1, f2, f3, f4, f6, x0, x1⟩ hK
  have hB := s0 (hC.no (hC.no (hC.no (hC.no hL 2 _ rfl rfl) 3 _ rfl rfl) 4 _ rfl rfl) 7 _ rfl rfl)
  have H := Lib.hid (show ∀ W', Ext W W' → K (fr (upd V 0 (.agg #[a4, b4, c4, d4, x4, y4, m4]))) W' from fun W' he => hK _ _ ⟨_, rfl, HV.us 0 _ rfl, fun h0 => Ext.trans (s0 (mnf h0 rfl)) he, fun h0 => LyK.ext (s1 (more_ne h0 rfl)) he, fun h0 h1 => RetWo.ext (f1 (mnf h0 rfl) (more_ne h1 rfl)) he, fun h0 => keepQJ (f2 (more_ne h0 rfl)) he, fun h0 => keepQJ (f3 (more_ne h0 rfl)) he, fun h0 => keepQJ (f4 (more_ne h0 rfl)) he, fun h0 h1 => Z7.ext (f6 (mnf h0 rfl) (more_ne h1 rfl)) he, fun h0 h1 h2 => LyW.ext (x0 (mnf h0 rfl) (more_ne h1 rfl) (mnf h2 rfl)) he, fun h0 h1 h2 => LyG.ext (x1 (mnf h0 rfl) (more_ne h1 rfl) (more_ne h2 rfl)) he⟩)
  clear hK hC hW hL HV s0 s1 f1 f2 f3 f4 f6 x0 x1
  rw [HFR.out]
  have HRG := Lib.hid (Cs.rg (HJB.out.1.ext hB))
  clear hB
  refine wpList_loadJn rfl (.tmp 1) rfl w1.heap.size 0 a4 b4 c4 d4 x4 y4 m4 rfl HRG.out ?_
  show K _ _; have := H.out _ (Ext.refl _); rw [HFR.out] at this
  exact this
 ·rintro L A W K hL hC hW ⟨V, rfl, HV, s0, s1, f1, f2, f3, f4, f6, x0, x1⟩ hK
  have hB := s0 (hC.no (hC.no (hC.no (hC.no hL 2 _ rfl rfl) 3 _ rfl rfl) 4 _ rfl rfl) 7 _ rfl rfl)
  have H := Lib.hid (show ∀ v W', Ext W W' → (RetWo 0 W' v (richO 7)) → K (fr (upd V 1 v)) W' from fun v W' he hp => hK _ _ ⟨_, rfl, HV.un 1 _ rfl, fun h0 => Ext.trans (s0 (mnf h0 rfl)) he, fun h0 => LyK.ext (s1 (more_ne h0 rfl)) he, fun h0 h1 => hp, fun h0 => keepQJ (f2 (more_ne h0 rfl)) he, fun h0 => keepQJ (f3 (more_ne h0 rfl)) he, fun h0 => keepQJ (f4 (more_ne h0 rfl)) he, fun h0 h1 => Z7.ext (f6 (mnf h0 rfl) (more_ne h1 rfl)) he, fun h0 h1 h2 => LyW.ext (x0 (mnf h0 rfl) (more_ne h1 rfl) (mnf h2 rfl)) he, fun h0 h1 h2 => LyG.ext (x1 (mnf h0 rfl) (more_ne h1 rfl) (more_ne h2 rfl)) he⟩)
  clear hK hC hW hL HV s0 s1 f1 f2 f3 f4 f6 x0 x1
  rw [HFR.out]
  clear hB
  go_wp2_with fail
  refine (rich7_any _).mono ?_
  rintro e wx ⟨vx, rfl, ho, he⟩
  have := H.out _ _ he (ho.low (Nat.zero_le _))
  clear H
  go_wp2_with fail
  show K _ _
  rw [HFR.out] at this
  exact this
 ·rintro L A W K hL hC hW ⟨V, rfl, HV, s0, s1, f1, f2, f3, f4, f6, x0, x1⟩ hK
  have e0 := HV 0 _ rfl (hW 0 rfl)
  have hB := s0 (hC.no (hC.no (hC.no hL 3 _ rfl rfl) 4 _ rfl rfl) 7 _ rfl rfl)
  have q1 := f1 (hC.no (hC.no (hC.no hL 3 _ rfl rfl) 4 _ rfl rfl) 7 _ rfl rfl) (hW 1 rfl)
  obtain ⟨a1, b1, c1, e1, z1⟩ := retWo_shp q1
  have H := Lib.hid (show ∀ v W', Ext W W' → ((∃ t, v = .tuple #[t, .int .i64 0])) → (LyW W.heap.size v wjC W') → K (fr (upd V 2 v)) W' from fun v W' he hp hx => hK _ _ ⟨_, rfl, HV.un 2 _ rfl, fun h0 => Ext.trans (s0 (mnf h0 rfl)) he, fun h0 => LyK.ext (s1 (more_ne h0 rfl)) he, fun h0 h1 => RetWo.ext (f1 (mnf h0 rfl) (more_ne h1 rfl)) he, fun h0 => hp, fun h0 => mtf (hC.no hL 3 _ rfl rfl) (more_ne h0 rfl), fun h0 => mtf (hC.no (hC.no hL 3 _ rfl rfl) 4 _ rfl rfl) (more_ne h0 rfl), fun h0 h1 => Z7.ext (f6 (mnf h0 rfl) (more_ne h1 rfl)) he, fun h0 h1 h2 => hx.imp (fun t h => ⟨h.1, h.2.low (Nat.zero_le _)⟩), fun h0 h1 h2 => (by obtain ⟨t, q1, q2⟩ := hx; obtain ⟨g, k1, k2, _⟩ := (f6 (mnf h0 rfl) (more_ne h2 rfl)); exact ⟨t, g, _, _, q1, k1, q2, Ext.refl _, .inl k2.lt⟩)⟩)
  have HU := Lib.hid (show ∀ v, (upd V 2 v) 0 = .agg #[a4, b4, c4, d4, x4, y4, m4] ∧ (upd V 2 v) 1 = .agg #[a1, b1, c1] from fun v => ⟨e0, e1⟩)
  clear hK hC hW hL HV s0 s1 f1 f2 f3 f4 f6 x0 x1
  rw [HFR.out, e0, e1]
  clear e0 e1
  have HB := Lib.hid hB
  have HZW := Lib.hid z1.wor
  clear hB
  go_wp2_with fail
  refine (wjLay_any _ _ _ _ _ _ _ _ _ _ _ ⟨HJB.out.2.1.ext HB.out, HJB.out.2.2.1.ext HB.out, HJB.out.2.2.2.ext HB.out⟩ HZW.out).mono ?_
  rintro e wx ⟨vx, rfl, ho, he⟩
  have := H.out _ _ he (⟨_, rfl⟩) (⟨_, rfl, ho⟩)
  clear H
  go_wp2_with fail
  show K _ _
  rw [HFR.out] at this
  obtain ⟨u0, u1⟩ := HU.out _
  rw [u0, u1] at this
  exact this
 ·rintro L A W K hL hC hW ⟨V, rfl, HV, s0, s1, f1, f2, f3, f4, f6, x0, x1⟩ hK
  have q2 := f2 (hW 2 rfl)
  obtain ⟨t2, e2⟩ := q2
  have H := Lib.hid (show ∀ v W', Ext W W' → ((v = V 2 ∧ ∃ t, v = .tuple #[t, .int .i64 0])) → K (fr (upd V 3 v)) W' from fun v W' he hp => hK _ _ ⟨_, rfl, HV.un 3 _ rfl, fun h0 => Ext.trans (s0 (mnf h0 rfl)) he, fun h0 => LyK.ext (s1 (more_ne h0 rfl)) he, fun h0 h1 => RetWo.ext (f1 (mnf h0 rfl) (more_ne h1 rfl)) he, fun h0 => keepQJ (f2 (more_ne h0 rfl)) he, fun h0 => hp, fun h0 => keepQJ (f4 (more_ne h0 rfl)) he, fun h0 h1 => Z7.ext (f6 (mnf h0 rfl) (more_ne h1 rfl)) he, fun h0 h1 h2 => LyW.ext (x0 (mnf h0 rfl) (more_ne h1 rfl) (mnf h2 rfl)) he, fun h0 h1 h2 => LyG.ext (x1 (mnf h0 rfl) (more_ne h1 rfl) (more_ne h2 rfl)) he⟩)
  have HU := Lib.hid (show ∀ v, (upd V 3 v) 2 = .tuple #[t2, .int .i64 0] from fun v => e2)
  clear hK hC hW hL HV s0 s1 f1 f2 f3 f4 f6 x0 x1
  rw [HFR.out, e2]
  clear e2
  go_wp2_with fail
  show K _ _; have := H.out (.tuple #[t2, .int .i64 0]) _ (Ext.refl _) (⟨(HU.out undef).symm, _, rfl⟩); rw [HFR.out] at this
  obtain u2 := HU.out _
  rw [u2] at this
  exact this
 ·rintro L A W K hL hC hW ⟨V, rfl, HV, s0, s1, f1, f2, f3, f4, f6, x0, x1⟩ hK
  have q3 := f3 (hW 3 rfl)
  obtain ⟨k3, t3, e3⟩ := q3
  have H := Lib.hid (show ∀ v W', Ext W W' → ((∃ t, V 2 = .tuple #[t, .int .i64 0] ∧ v = t)) → K (fr (upd V 4 v)) W' from fun v W' he hp => hK _ _ ⟨_, rfl, HV.un 4 _ rfl, fun h0 => Ext.trans (s0 (mnf h0 rfl)) he, fun h0 => LyK.ext (s1 (more_ne h0 rfl)) he, fun h0 h1 => RetWo.ext (f1 (mnf h0 rfl) (more_ne h1 rfl)) he, fun h0 => keepQJ (f2 (more_ne h0 rfl)) he, fun h0 => keepQJ (f3 (more_ne h0 rfl)) he, fun h0 => hp, fun h0 h1 => Z7.ext (f6 (mnf h0 rfl) (more_ne h1 rfl)) he, fun h0 h1 h2 => LyW.ext (x0 (mnf h0 rfl) (more_ne h1 rfl) (mnf h2 rfl)) he, fun h0 h1 h2 => LyG.ext (x1 (mnf h0 rfl) (more_ne h1 rfl) (more_ne h2 rfl)) he⟩)
  have HU := Lib.hid (show ∀ v, (upd V 4 v) 3 = .tuple #[t3, .int .i64 0] from fun v => e3)
  clear hK hC hW hL HV s0 s1 f1 f2 f3 f4 f6 x0 x1
  rw [HFR.out, e3]
  clear e3
  go_wp2_with fail
  show K _ _; have := H.out (t3) _ (Ext.refl _) (⟨t3, k3.symm.trans (HU.out undef), rfl⟩); rw [HFR.out] at this
  obtain u3 := HU.out _
  rw [u3] at this
  exact this
 ·rintro L A W K hL hC hW ⟨V, rfl, HV, s0, s1, f1, f2, f3, f4, f6, x0, x1⟩ hK
  have q3 := f3 (hW 3 rfl)
  obtain ⟨k3, t3, e3⟩ := q3
  have H := Lib.hid (show ∀ W', Ext W W' → K (fr (upd V 5 (.int .i64 0))) W' from fun W' he => hK _ _ ⟨_, rfl, HV.us 5 _ rfl, fun h0 => Ext.trans (s0 (mnf h0 rfl)) he, fun h0 => LyK.ext (s1 (more_ne h0 rfl)) he, fun h0 h1 => RetWo.ext (f1 (mnf h0 rfl) (more_ne h1 rfl)) he, fun h0 => keepQJ (f2 (more_ne h0 rfl)) he, fun h0 => keepQJ (f3 (more_ne h0 rfl)) he, fun h0 => keepQJ (f4 (more_ne h0 rfl)) he, fun h0 h1 => Z7.ext (f6 (mnf h0 rfl) (more_ne h1 rfl)) he, fun h0 h1 h2 => LyW.ext (x0 (mnf h0 rfl) (more_ne h1 rfl) (mnf h2 rfl)) he, fun h0 h1 h2 => LyG.ext (x1 (mnf h0 rfl) (more_ne h1 rfl) (more_ne h2 rfl)) he⟩)
  have HU := Lib.hid (show (upd V 5 (.int .i64 0)) 3 = .tuple #[t3, .int .i64 0] from e3)
  clear hK hC hW hL HV s0 s1 f1 f2 f3 f4 f6 x0 x1
  rw [HFR.out, e3]
  clear e3
  go_wp2_with fail
  show K _ _; have := H.out _ (Ext.refl _); rw [HFR.out] at this
  obtain u3 := HU.out
  rw [u3] at this
  exact this
 ·rintro L A W K hL hC hW ⟨V, rfl, HV, s0, s1, f1, f2, f3, f4, f6, x0, x1⟩ hK
  have hB := s0 (hC.no hL 7 _ rfl rfl)
  have H := Lib.hid (show ∀ v W', Ext W W' → (Z7 w3.heap.size v W') → (v = .pointer (some ⟨W.heap.size, 0, none⟩)) → K (fr (upd V 6 v)) W' from fun v W' he hp hx => hK _ _ ⟨_, rfl, HV.un 6 _ rfl, fun h0 => Ext.trans (s0 (mnf h0 rfl)) he, fun h0 => mtf (hC.no hL 7 _ rfl rfl) (more_ne h0 rfl), fun h0 h1 => RetWo.ext (f1 (mnf h0 rfl) (more_ne h1 rfl)) he, fun h0 => keepQJ (f2 (more_ne h0 rfl)) he, fun h0 => keepQJ (f3 (more_ne h0 rfl)) he, fun h0 => keepQJ (f4 (more_ne h0 rfl)) he, fun h0 h1 => hp, fun h0 h1 h2 => msf h2, fun h0 h1 h2 => (by obtain ⟨t, q1, q2⟩ := (x0 (mnf h0 rfl) (more_ne h1 rfl) hL); exact ⟨t, _, 0, W, q1, hx, q2, he, .inr (Nat.le_refl _)⟩)⟩)
  clear hK hC hW hL HV s0 s1 f1 f2 f3 f4 f6 x0 x1
  rw [HFR.out]
  have HSZ := Lib.hid hB.size
  clear hB
  go_wp2_with fail
  show K _ _; have := H.out (.pointer (some ⟨W.heap.size, 0, none⟩)) _ ((Ext.refl W).alloc (.cells #[.slice none 0 0, .slice none 0 0, .slice none 0 0, .slice none 0 0, .slice none 0 0, .slice none 0 0, .slice none 0 0] 40)) (⟨_, rfl, Cs.new _ _ _ _ rfl, HSZ.out⟩) (rfl); rw [HFR.out] at this
  exact this
 ·rintro L A W K hL hC hW ⟨V, rfl, HV, s0, s1, f1, f2, f3, f4, f6, x0, x1⟩ hK
  have hB := s0 hL
  have hx1 := x1 hL (hW 2 rfl) (hW 6 rfl)
  have q6 := f6 hL (hW 6 rfl)
  obtain ⟨g6, e6, z6, o6⟩ := q6
  have q4 := f4 (hW 4 rfl)
  obtain ⟨t4, k4, e4⟩ := q4
  have H := Lib.hid (show ∀ W', (LyK (V 6) wjC w3 W') → K (fr (V)) W' from fun W' hA => hK _ _ ⟨V, rfl, HV.st 7 rfl, fun h0 => msf h0, fun h0 => hA, fun h0 h1 => msf h0, fun h0 => (f2 (more_ne h0 rfl)), fun h0 => (f3 (more_ne h0 rfl)), fun h0 => (f4 (more_ne h0 rfl)), fun h0 h1 => msf h0, fun h0 h1 h2 => msf h0, fun h0 h1 h2 => msf h0⟩)
  have HU := Lib.hid (show (V) 6 = .pointer (some ⟨g6, 0, none⟩) ∧ (V) 4 = t4 from ⟨e6, e4⟩)
  clear hK hC hW hL HV s0 s1 f1 f2 f3 f4 f6 x0 x1
  rw [HFR.out, e6, e4]
  clear e6 e4
  have HB := Lib.hid hB
  have HZ := Lib.hid z6
  have HO5 := Lib.hid o6
  obtain ⟨t, g, lo, Wc, h1, h2, h3, h4, h5⟩ := hx1
  obtain rfl : t = t4 := by have := h1.symm.trans k4; simpa using this
  obtain rfl : g = g6 := by have := h2.symm.trans HU.out.1; simpa using this
  obtain ⟨xa, xb, xc, xd, xe, xf, xm, e7, h3⟩ := retJn_shp h3
  have HE7 := Lib.hid e7
  have H3 := Lib.hid h3
  have H4 := Lib.hid h4
  have H5 := Lib.hid h5
  clear hB z6 o6 h1 h2 h3 h4 h5 k4 e7
  refine wpList_storeJn rfl rfl (.tmp 5) (.tmp 25) rfl g (.slice none 0 0) (.slice none 0 0) (.slice none 0 0) (.slice none 0 0) (.slice none 0 0) (.slice none 0 0) (.slice none 0 0) xa xb xc xd xe xf xm rfl HE7.out H3.out.one HZ.out ?_
  intro w' kk gg
  have HEX := Lib.hid (show Ext w3 w' from HB.out.grown gg HO5.out)
  have HP := Lib.hid (show WoR w' xa xb xc wjC.p.w ∧ AxR w' xd xe xf wjC.p.x ∧ Pos w' xm wjC.m from by rcases H5.out with h | h; exact ((H3.out.ext H4.out).old gg h).parts; have he := H4.out.grown gg h; exact ⟨H3.out.parts.1.ext he, H3.out.parts.2.1.ext he, H3.out.parts.2.2.ext he⟩)
  have HA := Lib.hid (show LyK (V 6) wjC w3 w' from ⟨_, _, _, _, _, _, _, _, HU.out.1, ⟨kk, HP.out.1, HP.out.2.1, HP.out.2.2⟩, HEX.out⟩)
  clear kk gg
  show K _ _; have := H.out _ HA.out; rw [HFR.out] at this
  obtain ⟨u6, u4⟩ := HU.out
  rw [u6, u4] at this
  exact this
 ·rintro L A W K hL hC hW ⟨V, rfl, HV, s0, s1, f1, f2, f3, f4, f6, x0, x1⟩ hK
  have e5 := HV 5 _ rfl (hW 5 rfl)
  have H := Lib.hid (show ∀ W', Ext W W' → K (fr (upd V 8 (.int .i64 0))) W' from fun W' he => hK _ _ ⟨_, rfl, HV.us 8 _ rfl, fun h0 => Ext.trans (s0 (mnf h0 rfl)) he, fun h0 => LyK.ext (s1 (more_ne h0 rfl)) he, fun h0 h1 => RetWo.ext (f1 (mnf h0 rfl) (more_ne h1 rfl)) he, fun h0 => keepQJ (f2 (more_ne h0 rfl)) he, fun h0 => keepQJ (f3 (more_ne h0 rfl)) he, fun h0 => keepQJ (f4 (more_ne h0 rfl)) he, fun h0 h1 => Z7.ext (f6 (mnf h0 rfl) (more_ne h1 rfl)) he, fun h0 h1 h2 => LyW.ext (x0 (mnf h0 rfl) (more_ne h1 rfl) (mnf h2 rfl)) he, fun h0 h1 h2 => LyG.ext (x1 (mnf h0 rfl) (more_ne h1 rfl) (more_ne h2 rfl)) he⟩)
  have HU := Lib.hid (show (upd V 8 (.int .i64 0)) 5 = .int .i64 0 from e5)
  clear hK hC hW hL HV s0 s1 f1 f2 f3 f4 f6 x0 x1
  rw [HFR.out, e5]
  clear e5
  go_wp2_with fail
  show K _ _; have := H.out _ (Ext.refl _); rw [HFR.out] at this
  obtain u5 := HU.out
  rw [u5] at this
  exact this
 ·rintro L A W hL ⟨V, rfl, HV, s0, s1, f1, f2, f3, f4, f6, x0, x1⟩
  have e0 := HV 0 _ rfl (hL 0 (by simp))
  have e5 := HV 5 _ rfl (hL 5 (by simp))
  have e8 := HV 8 _ rfl (hL 8 (by simp))
  have hA := s1 (hL 7 (by simp))
  have p24 := f2 (hL 2 (by simp))
  have p21 := f3 (hL 3 (by simp))
  have p25 := f4 (hL 4 (by simp))
  rw [HFR.out, e0, e5, e8]
  clear hL HV HFR e0 e5 e8 s0 s1 f1 f2 f3 f4 f6 x0 x1
  obtain ⟨g5, a5, b5, c5, d5, x5, y5, m5, hV5, hJC, hE5⟩ := hA
  rw [hV5]
  obtain ⟨_, _, hp3⟩ := hJC.2
  obtain ⟨A5, n5, rfl, _, _⟩ := hp3.len
  have HJC := Lib.hid hJC
  have RG5 := Lib.hid (Cs.rg hJC.1)
  have HE5 := Lib.hid (E3.out.trans hE5)
  clear hJC hp3 hE5
  go_wp2_with ((with_reducible refine wpList_loadJn ?_ (.tmp 5) ?_ g5 0 a5 b5 c5 d5 x5 y5 (.slice A5 wjC.m.length n5) ?_ RG5.out ?_); (exact rfl); (exact rfl); (exact rfl))
  refine (wjBack_any _ _ _ _ _ _ A5 n5 _ ⟨HJC.out.2.1, HJC.out.2.2.1, HJC.out.2.2.2⟩).mono ?_
  rintro e w6 ⟨v6, rfl, hr, he⟩
  obtain ⟨a6, b6, c6, d6, x6, y6, m6, rfl, hr⟩ := retJn_shp hr
  obtain ⟨hp1, hp2, hp3⟩ := hr.parts
  obtain ⟨A6, n6, rfl, _, _⟩ := hp3.len
  obtain ⟨AB, nB, rfl, _, _⟩ := hp2.1.len
  have HR6 := Lib.hid hr
  have HP6 := Lib.hid (And.intro hp1 (And.intro hp2 hp3))
  have HE6 := Lib.hid (HE5.out.trans he)
  have HJ6 := Lib.hid (HJC.out.ext he)
  obtain ⟨AC, nC, rfl, _, _⟩ := HJ6.out.2.1.1.len
  clear hr he hp1 hp2 hp3 HJC RG5
  obtain ⟨bb, oo, uu, vv, hA0, hrg, _⟩ := HJ6.out.2.1.1.at 0 (by decide)
  subst hA0
  have HRG := Lib.hid hrg
  clear hrg
  have HON6 := Lib.hid HR6.out.one
  go_upto_region 5 with ((with_reducible refine wpList_storeJn ?_ ?_ (.tmp 7) (.tmp 31) ?_ w6.heap.size (.slice none 0 0) (.slice none 0 0) (.slice none 0 0) (.slice none 0 0) (.slice none 0 0) (.slice none 0 0) (.slice none 0 0) a6 b6 c6 (.slice AB wjA.p.x.a.length nB) x6 y6 (.slice A6 wjA.m.length n6) ?_ ?_ HON6.out ?_ ?_); (exact rfl); (exact rfl); (exact rfl); (exact rfl); (exact rfl); (exact (Cs.new _ _ _ _ rfl)); intro w7 k7 g7; have K7 := Lib.hid k7; have E7 := Lib.hid (((Ext.refl w6).alloc (.cells #[.slice none 0 0, .slice none 0 0, .slice none 0 0, .slice none 0 0, .slice none 0 0, .slice none 0 0, .slice none 0 0] 40)).grown g7 (Nat.le_refl _)); clear k7 g7)
  have RG7 : Hid (w7.rangeAt w6.heap.size 0 [a6, b6, c6]) := Lib.hid (rg_part (cs := [a6, b6, c6, .slice AB wjA.p.x.a.length nB, x6, y6, .slice A6 wjA.m.length n6]) (ds := [a6, b6, c6]) 0 (Cs.rg K7.out) (fun j y hy => by rcases j with _ | _ | _ | j; all_goals first | exact hy | (simp at hy)))
  have HE7 := Lib.hid (HE6.out.trans E7.out)
  clear HE5 HE6 E3 HJB HON6 HR6 p24 p21 p25 hV5
  refine wp_named fun a0 ha0 => ?_
  obtain ⟨fr, hfr⟩ : ∃ fr : (Nat → Value) → Act, ∀ V, fr V = (((((((((((((((((((((((((((((((((((((((((((((((((((((((((((((((((((a0.put (some 33) (V 0)).put (some 34) (V 1)).put (some 35) (V 2)).put (some 36) (V 3)).put (some 37) (V 4)).put (some 38) (V 5)).put (some 39) (V 6)).put (some 40) (V 7)).put (some 41) (V 8)).put (some 42) (V 9)).put (some 43) (V 10)).put (some 44) (V 11)).put (some 45) (V 12)).put (some 46) (V 13)).put (some 47) (V 14)).put (some 48) (V 15)).put (some 49) (V 16)).put (some 50) (V 17)).put (some 51) (V 18)).put (some 52) (V 19)).put (some 53) (V 20)).put (some 54) (V 21)).put (some 55) (V 22)).put (some 56) (V 23)).put (some 57) (V 24)).put (some 58) (V 25)).put (some 59) (V 26)).put (some 60) (V 27)).put (some 61) (V 28)).put (some 62) (V 29)).put (some 63) (V 30)).put (some 64) (V 31)).put (some 65) (V 32)).put (some 66) (V 33)).put (some 67) (V 34)).put (some 68) (V 35)).put (some 69) (V 36)).put (some 70) (V 37)).put (some 71) (V 38)).put (some 72) (V 39)).put (some 73) (V 40)).put (some 74) (V 41)).put (some 75) (V 42)).put (some 76) (V 43)).put (some 77) (V 44)).put (some 78) (V 45)).put (some 79) (V 46)).put (some 80) (V 47)).put (some 81) (V 48)).put (some 82) (V 49)).put (some 83) (V 50)).put (some 84) (V 51)).put (some 85) (V 52)).put (some 86) (V 53)).put (some 87) (V 54)).put (some 88) (V 55)).put (some 89) (V 56)).put (some 90) (V 57)).put (some 91) (V 58)).put (some 92) (V 59)).put (some 93) (V 60)).put (some 94) (V 61)).put (some 95) (V 62)).put (some 96) (V 63)).put (some 97) (V 64)).put (some 98) (V 65)).put (some 0) (V 66)) := ⟨_, fun _ => rfl⟩
  rw [ha0] at hfr
  simp only [Act.put, List.setIfInBounds_toArray, List.set_cons_zero, List.set_cons_succ] at hfr
  have HFR := Lib.hid hfr
  clear hfr
  refine wp_region_inv (by kernel_rfl) (by kernel_rfl) (fun L A W => ∃ V : Nat → Value, A = fr V ∧ Vals (fun j => ([some (.int .i64 0), some (.bool true), some (.bool true), some (.int .i64 0), some (.bool true), some (.bool true), some (.bool true), some (.int .i64 0), some (.bool true), some (.bool true), some (.bool true), some (.int .i64 0), some (.bool true), some (.bool true), some (.bool true), some (.int .i64 0), some (.bool true), some (.bool true), some (.bool true), some (.pointer (some ⟨g5, 6, none⟩)), some (.slice A5 wjC.m.length n5), some (.int .i64 (wjC.m.length : Nat)), some (.bool true), some (.bool true), some (.bool true), some (.pointer (some ⟨g5, 0, none⟩)), some (.pointer (some ⟨g5, 0, none⟩)), some (.pointer (some ⟨g5, 0, none⟩)), some (.pointer (some ⟨g5, 0, none⟩)), some (.slice (some ⟨bb, oo, none⟩) wjC.p.w.s.length nC), some (.int .i64 (wjC.p.w.s.length : Nat)), some (.bool true), some (.bool true), some (.bool true), some (.pointer (some ⟨g5, 0, none⟩)), some (.pointer (some ⟨g5, 0, none⟩)), some (.pointer (some ⟨g5, 0, none⟩)), some (.pointer (some ⟨g5, 0, none⟩)), some (.slice (some ⟨bb, oo, none⟩) wjC.p.w.s.length nC), some (.pointer (some ⟨bb, oo, none⟩)), some (.pointer (some ⟨bb, oo + 1, none⟩)), some (.pointer (some ⟨bb, oo + 1, none⟩)), some (.int .u64 7), some (.bool true), some (.bool true), some (.bool true), some (.pointer (some ⟨w6.heap.size, 6, none⟩)), some (.slice A6 wjA.m.length n6), some (.int .i64 (wjA.m.length : Nat)), some (.bool true), some (.bool true), some (.bool true), some (.pointer (some ⟨w6.heap.size, 0, none⟩)), some (.pointer (some ⟨w6.heap.size, 3, none⟩)), some (.pointer (some ⟨w6.heap.size, 3, none⟩)), some (.slice AB wjA.p.x.a.length nB), some (.int .i64 (wjA.p.x.a.length : Nat)), some (.bool true), some (.bool true), some (.bool true), some (.pointer (some ⟨w6.heap.size, 0, none⟩)), some (.pointer (some ⟨w6.heap.size, 0, none⟩)), some (.agg #[a6, b6, c6]), none, some (.bool true), some (.bool true), some (.bool true)] : List (Option Value)).getD j none) L V ∧ (Ext w7 W) ∧ (L 63 = true → RetWo 0 W (V 63) (richO 5))) ?_ ⟨?_, ?_, ?_, ?_, ?_, ?_, ?_, ?_, ?_, ?_, ?_, ?_, ?_, ?_, ?_, ?_, ?_, ?_, ?_, ?_, ?_, ?_, ?_, ?_, ?_, ?_, ?_, ?_, ?_, ?_, ?_, ?_, ?_, ?_, ?_, ?_, ?_, ?_, ?_, ?_, ?_, ?_, ?_, ?_, ?_, ?_, ?_, ?_, ?_, ?_, ?_, ?_, ?_, ?_, ?_, ?_, ?_, ?_, ?_, ?_, ?_, ?_, ?_, ?_, ?_, ?_, ?_, trivial⟩ ?_
  ·refine ⟨fun j => a0.tmps.getD (([33, 34, 35, 36, 37, 38, 39, 40, 41, 42, 43, 44, 45, 46, 47, 48, 49, 50, 51, 52, 53, 54, 55, 56, 57, 58, 59, 60, 61, 62, 63, 64, 65, 66, 67, 68, 69, 70, 71, 72, 73, 74, 75, 76, 77, 78, 79, 80, 81, 82, 83, 84, 85, 86, 87, 88, 89, 90, 91, 92, 93, 94, 95, 96, 97, 98, 0] : List Nat).getD j 0) undef, ?_, Vals.no _ _ _ (far_none _ _ rfl), (Ext.refl _).drew, fun h0 => absurd h0 (by decide)⟩
   rw [HFR.out, ha0]
   rfl
  all_goals clear ha0
  ·rintro L A W K hL hC hW ⟨V, rfl, HV, s0, f63⟩ hK
   have H := Lib.hid (show ∀ W', Ext W W' → K (fr (upd V 0 (.int .i64 0))) W' from fun W' he => hK _ _ ⟨_, rfl, HV.us 0 _ rfl, Ext.trans s0 he, fun h0 => RetWo.ext (f63 (more_ne h0 rfl)) he⟩)
   clear hK hC hW hL HV s0 f63
   rw [HFR.out]
   go_wp2_with fail
   show K _ _; have := H.out _ (Ext.refl _); rw [HFR.out] at this
   exact this
  ·rintro L A W K hL hC hW ⟨V, rfl, HV, s0, f63⟩ hK
   have e0 := HV 0 _ rfl (hW 0 rfl)
   have H := Lib.hid (show ∀ W', Ext W W' → K (fr (upd V 1 (.bool true))) W' from fun W' he => hK _ _ ⟨_, rfl, HV.us 1 _ rfl, Ext.trans s0 he, fun h0 => RetWo.ext (f63 (more_ne h0 rfl)) he⟩)
   have HU := Lib.hid (show (upd V 1 (.bool true)) 0 = .int .i64 0 from e0)
   clear hK hC hW hL HV s0 f63
   rw [HFR.out, e0]
   clear e0
   go_wp2_with fail
   show K _ _; have := H.out _ (Ext.refl _); rw [HFR.out] at this
   obtain u0 := HU.out
   rw [u0] at this
   exact this
  ·rintro L A W K hL hC hW ⟨V, rfl, HV, s0, f63⟩ hK
   have e1 := HV 1 _ rfl (hW 1 rfl)
   have H := Lib.hid (show ∀ W', Ext W W' → K (fr (upd V 2 (.bool true))) W' from fun W' he => hK _ _ ⟨_, rfl, HV.us 2 _ rfl, Ext.trans s0 he, fun h0 => RetWo.ext (f63 (more_ne h0 rfl)) he⟩)
   have HU := Lib.hid (show (upd V 2 (.bool true)) 1 = .bool true from e1)
   clear hK hC hW hL HV s0 f63
   rw [HFR.out, e1]
   clear e1
   go_wp2_with fail
   show K _ _; have := H.out _ (Ext.refl _); rw [HFR.out] at this
   obtain u1 := HU.out
   rw [u1] at this
   exact this
  ·rintro L A W K hL hC hW ⟨V, rfl, HV, s0, f63⟩ hK
   have e2 := HV 2 _ rfl (hW 2 rfl)
   have H := Lib.hid (show ∀ W', Ext W W' → K (fr (upd V 3 (.int .i64 0))) W' from fun W' he => hK _ _ ⟨_, rfl, HV.us 3 _ rfl, Ext.trans s0 he, fun h0 => RetWo.ext (f63 (more_ne h0 rfl)) he⟩)
   have HU := Lib.hid (show (upd V 3 (.int .i64 0)) 2 = .bool true from e2)
   clear hK hC hW hL HV s0 f63
   rw [HFR.out, e2]
   clear e2
   go_wp2_with fail
   show K _ _; have := H.out _ (Ext.refl _); rw [HFR.out] at this
   obtain u2 := HU.out
   rw [u2] at this
   exact this
  ·rintro L A W K hL hC hW ⟨V, rfl, HV, s0, f63⟩ hK
   have e2 := HV 2 _ rfl (hW 2 rfl)
   have e3 := HV 3 _ rfl (hW 3 rfl)
   have H := Lib.hid (show ∀ W', Ext W W' → K (fr (upd V 4 (.bool true))) W' from fun W' he => hK _ _ ⟨_, rfl, HV.us 4 _ rfl, Ext.trans s0 he, fun h0 => RetWo.ext (f63 (more_ne h0 rfl)) he⟩)
   have HU := Lib.hid (show (upd V 4 (.bool true)) 2 = .bool true ∧ (upd V 4 (.bool true)) 3 = .int .i64 0 from ⟨e2, e3⟩)
   clear hK hC hW hL HV s0 f63
   rw [HFR.out, e2, e3]
   clear e2 e3
   go_wp2_with fail
   show K _ _; have := H.out _ (Ext.refl _); rw [HFR.out] at this
   obtain ⟨u2, u3⟩ := HU.out
   rw [u2, u3] at this
   exact this
  ·rintro L A W K hL hC hW ⟨V, rfl, HV, s0, f63⟩ hK
   have e2 := HV 2 _ rfl (hW 2 rfl)
   have e4 := HV 4 _ rfl (hW 4 rfl)
   have H := Lib.hid (show ∀ W', Ext W W' → K (fr (upd V 5 (.bool true))) W' from fun W' he => hK _ _ ⟨_, rfl, HV.us 5 _ rfl, Ext.trans s0 he, fun h0 => RetWo.ext (f63 (more_ne h0 rfl)) he⟩)
   have HU := Lib.hid (show (upd V 5 (.bool true)) 2 = .bool true ∧ (upd V 5 (.bool true)) 4 = .bool true from ⟨e2, e4⟩)
   clear hK hC hW hL HV s0 f63
   rw [HFR.out, e2, e4]
   clear e2 e4
   go_wp2_with fail
   show K _ _; have := H.out _ (Ext.refl _); rw [HFR.out] at this
   obtain ⟨u2, u4⟩ := HU.out
   rw [u2, u4] at this
   exact this
  ·rintro L A W K hL hC hW ⟨V, rfl, HV, s0, f63⟩ hK
   have e5 := HV 5 _ rfl (hW 5 rfl)
   have H := Lib.hid (show ∀ W', Ext W W' → K (fr (upd V 6 (.bool true))) W' from fun W' he => hK _ _ ⟨_, rfl, HV.us 6 _ rfl, Ext.trans s0 he, fun h0 => mtf (hC.no (hC.no (hC.no (hC.no (hC.no (hC.no (hC.no (hC.no (hC.no (hC.no (hC.no (hC.no (hC.no (hC.no (hC.no (hC.no (hC.no hL 9 _ rfl rfl) 10 _ rfl rfl) 13 _ rfl rfl) 14 _ rfl rfl) 17 _ rfl rfl) 18 _ rfl rfl) 23 _ rfl rfl) 24 _ rfl rfl) 32 _ rfl rfl) 33 _ rfl rfl) 44 _ rfl rfl) 45 _ rfl rfl) 50 _ rfl rfl) 51 _ rfl rfl) 58 _ rfl rfl) 59 _ rfl rfl) 63 _ rfl rfl) (more_ne h0 rfl)⟩)
   have HU := Lib.hid (show (upd V 6 (.bool true)) 5 = .bool true from e5)
   clear hK hC hW hL HV s0 f63
   rw [HFR.out, e5]
   clear e5
   go_wp2_with fail
   show K _ _; have := H.out _ (Ext.refl _); rw [HFR.out] at this
   obtain u5 := HU.out
   rw [u5] at this
   exact this
  ·rintro L A W K hL hC hW ⟨V, rfl, HV, s0, f63⟩ hK
   have e6 := HV 6 _ rfl (hW 6 rfl)
   have H := Lib.hid (show ∀ W', Ext W W' → K (fr (upd V 7 (.int .i64 0))) W' from fun W' he => hK _ _ ⟨_, rfl, HV.us 7 _ rfl, Ext.trans s0 he, fun h0 => RetWo.ext (f63 (more_ne h0 rfl)) he⟩)
   have HU := Lib.hid (show (upd V 7 (.int .i64 0)) 6 = .bool true from e6)
   clear hK hC hW hL HV s0 f63
   rw [HFR.out, e6]
   clear e6
   go_wp2_with fail
   show K _ _; have := H.out _ (Ext.refl _); rw [HFR.out] at this
   obtain u6 := HU.out
   rw [u6] at this
   exact this
  ·rintro L A W K hL hC hW ⟨V, rfl, HV, s0, f63⟩ hK
   have e6 := HV 6 _ rfl (hW 6 rfl)
   have e7 := HV 7 _ rfl (hW 7 rfl)
   have H := Lib.hid (show ∀ W', Ext W W' → K (fr (upd V 8 (.bool true))) W' from fun W' he => hK _ _ ⟨_, rfl, HV.us 8 _ rfl, Ext.trans s0 he, fun h0 => RetWo.ext (f63 (more_ne h0 rfl)) he⟩)
   have HU := Lib.hid (show (upd V 8 (.bool true)) 6 = .bool true ∧ (upd V 8 (.bool true)) 7 = .int .i64 0 from ⟨e6, e7⟩)
   clear hK hC hW hL HV s0 f63
   rw [HFR.out, e6, e7]
   clear e6 e7
   go_wp2_with fail
   show K _ _; have := H.out _ (Ext.refl _); rw [HFR.out] at this
   obtain ⟨u6, u7⟩ := HU.out
   rw [u6, u7] at this
   exact this
  ·rintro L A W K hL hC hW ⟨V, rfl, HV, s0, f63⟩ hK
   have e6 := HV 6 _ rfl (hW 6 rfl)
   have e8 := HV 8 _ rfl (hW 8 rfl)
   have H := Lib.hid (show ∀ W', Ext W W' → K (fr (upd V 9 (.bool true))) W' from fun W' he => hK _ _ ⟨_, rfl, HV.us 9 _ rfl, Ext.trans s0 he, fun h0 => RetWo.ext (f63 (more_ne h0 rfl)) he⟩)
   have HU := Lib.hid (show (upd V 9 (.bool true)) 6 = .bool true ∧ (upd V 9 (.bool true)) 8 = .bool true from ⟨e6, e8⟩)
   clear hK hC hW hL HV s0 f63
   rw [HFR.out, e6, e8]
   clear e6 e8
   go_wp2_with fail
   show K _ _; have := H.out _ (Ext.refl _); rw [HFR.out] at this
   obtain ⟨u6, u8⟩ := HU.out
   rw [u6, u8] at this
   exact this
  ·rintro L A W K hL hC hW ⟨V, rfl, HV, s0, f63⟩ hK
   have e9 := HV 9 _ rfl (hW 9 rfl)
   have H := Lib.hid (show ∀ W', Ext W W' → K (fr (upd V 10 (.bool true))) W' from fun W' he => hK _ _ ⟨_, rfl, HV.us 10 _ rfl, Ext.trans s0 he, fun h0 => RetWo.ext (f63 (more_ne h0 rfl)) he⟩)
   have HU := Lib.hid (show (upd V 10 (.bool true)) 9 = .bool true from e9)
   clear hK hC hW hL HV s0 f63
   rw [HFR.out, e9]
   clear e9
   go_wp2_with fail
   show K _ _; have := H.out _ (Ext.refl _); rw [HFR.out] at this
   obtain u9 := HU.out
   rw [u9] at this
   exact this
  ·rintro L A W K hL hC hW ⟨V, rfl, HV, s0, f63⟩ hK
   have e10 := HV 10 _ rfl (hW 10 rfl)
   have H := Lib.hid (show ∀ W', Ext W W' → K (fr (upd V 11 (.int .i64 0))) W' from fun W' he => hK _ _ ⟨_, rfl, HV.us 11 _ rfl, Ext.trans s0 he, fun h0 => RetWo.ext (f63 (more_ne h0 rfl)) he⟩)
   have HU := Lib.hid (show (upd V 11 (.int .i64 0)) 10 = .bool true from e10)
   clear hK hC hW hL HV s0 f63
   rw [HFR.out, e10]
   clear e10
   go_wp2_with fail
   show K _ _; have := H.out _ (Ext.refl _); rw [HFR.out] at this
   obtain u10 := HU.out
   rw [u10] at this
   exact this
  ·rintro L A W K hL hC hW ⟨V, rfl, HV, s0, f63⟩ hK
   have e10 := HV 10 _ rfl (hW 10 rfl)
   have e11 := HV 11 _ rfl (hW 11 rfl)
   have H := Lib.hid (show ∀ W', Ext W W' → K (fr (upd V 12 (.bool true))) W' from fun W' he => hK _ _ ⟨_, rfl, HV.us 12 _ rfl, Ext.trans s0 he, fun h0 => RetWo.ext (f63 (more_ne h0 rfl)) he⟩)
   have HU := Lib.hid (show (upd V 12 (.bool true)) 10 = .bool true ∧ (upd V 12 (.bool true)) 11 = .int .i64 0 from ⟨e10, e11⟩)
   clear hK hC hW hL HV s0 f63
   rw [HFR.out, e10, e11]
   clear e10 e11
   go_wp2_with fail
   show K _ _; have := H.out _ (Ext.refl _); rw [HFR.out] at this
   obtain ⟨u10, u11⟩ := HU.out
   rw [u10, u11] at this
   exact this
  ·rintro L A W K hL hC hW ⟨V, rfl, HV, s0, f63⟩ hK
   have e10 := HV 10 _ rfl (hW 10 rfl)
   have e12 := HV 12 _ rfl (hW 12 rfl)
   have H := Lib.hid (show ∀ W', Ext W W' → K (fr (upd V 13 (.bool true))) W' from fun W' he => hK _ _ ⟨_, rfl, HV.us 13 _ rfl, Ext.trans s0 he, fun h0 => RetWo.ext (f63 (more_ne h0 rfl)) he⟩)
   have HU := Lib.hid (show (upd V 13 (.bool true)) 10 = .bool true ∧ (upd V 13 (.bool true)) 12 = .bool true from ⟨e10, e12⟩)
   clear hK hC hW hL HV s0 f63
   rw [HFR.out, e10, e12]
   clear e10 e12
   go_wp2_with fail
   show K _ _; have := H.out _ (Ext.refl _); rw [HFR.out] at this
   obtain ⟨u10, u12⟩ := HU.out
   rw [u10, u12] at this
   exact this
  ·rintro L A W K hL hC hW ⟨V, rfl, HV, s0, f63⟩ hK
   have e13 := HV 13 _ rfl (hW 13 rfl)
   have H := Lib.hid (show ∀ W', Ext W W' → K (fr (upd V 14 (.bool true))) W' from fun W' he => hK _ _ ⟨_, rfl, HV.us 14 _ rfl, Ext.trans s0 he, fun h0 => RetWo.ext (f63 (more_ne h0 rfl)) he⟩)
   have HU := Lib.hid (show (upd V 14 (.bool true)) 13 = .bool true from e13)
   clear hK hC hW hL HV s0 f63
   rw [HFR.out, e13]
   clear e13
   go_wp2_with fail
   show K _ _; have := H.out _ (Ext.refl _); rw [HFR.out] at this
   obtain u13 := HU.out
   rw [u13] at this
   exact this
  ·rintro L A W K hL hC hW ⟨V, rfl, HV, s0, f63⟩ hK
   have e14 := HV 14 _ rfl (hW 14 rfl)
   have H := Lib.hid (show ∀ W', Ext W W' → K (fr (upd V 15 (.int .i64 0))) W' from fun W' he => hK _ _ ⟨_, rfl, HV.us 15 _ rfl, Ext.trans s0 he, fun h0 => RetWo.ext (f63 (more_ne h0 rfl)) he⟩)
   have HU := Lib.hid (show (upd V 15 (.int .i64 0)) 14 = .bool true from e14)
   clear hK hC hW hL HV s0 f63
   rw [HFR.out, e14]
   clear e14
   go_wp2_with fail
   show K _ _; have := H.out _ (Ext.refl _); rw [HFR.out] at this
   obtain u14 := HU.out
   rw [u14] at this
   exact this
  ·rintro L A W K hL hC hW ⟨V, rfl, HV, s0, f63⟩ hK
   have e14 := HV 14 _ rfl (hW 14 rfl)
   have e15 := HV 15 _ rfl (hW 15 rfl)
   have H := Lib.hid (show ∀ W', Ext W W' → K (fr (upd V 16 (.bool true))) W' from fun W' he => hK _ _ ⟨_, rfl, HV.us 16 _ rfl, Ext.trans s0 he, fun h0 => RetWo.ext (f63 (more_ne h0 rfl)) he⟩)
   have HU := Lib.hid (show (upd V 16 (.bool true)) 14 = .bool true ∧ (upd V 16 (.bool true)) 15 = .int .i64 0 from ⟨e14, e15⟩)
   clear hK hC hW hL HV s0 f63
   rw [HFR.out, e14, e15]
   clear e14 e15
   go_wp2_with fail
   show K _ _; have := H.out _ (Ext.refl _); rw [HFR.out] at this
   obtain ⟨u14, u15⟩ := HU.out
   rw [u14, u15] at this
   exact this
  ·rintro L A W K hL hC hW ⟨V, rfl, HV, s0, f63⟩ hK
   have e14 := HV 14 _ rfl (hW 14 rfl)
   have e16 := HV 16 _ rfl (hW 16 rfl)
   have H := Lib.hid (show ∀ W', Ext W W' → K (fr (upd V 17 (.bool true))) W' from fun W' he => hK _ _ ⟨_, rfl, HV.us 17 _ rfl, Ext.trans s0 he, fun h0 => RetWo.ext (f63 (more_ne h0 rfl)) he⟩)
   have HU := Lib.hid (show (upd V 17 (.bool true)) 14 = .bool true ∧ (upd V 17 (.bool true)) 16 = .bool true from ⟨e14, e16⟩)
   clear hK hC hW hL HV s0 f63
   rw [HFR.out, e14, e16]
   clear e14 e16
   go_wp2_with fail
   show K _ _; have := H.out _ (Ext.refl _); rw [HFR.out] at this
   obtain ⟨u14, u16⟩ := HU.out
   rw [u14, u16] at this
   exact this
  ·rintro L A W K hL hC hW ⟨V, rfl, HV, s0, f63⟩ hK
   have e17 := HV 17 _ rfl (hW 17 rfl)
   have H := Lib.hid (show ∀ W', Ext W W' → K (fr (upd V 18 (.bool true))) W' from fun W' he => hK _ _ ⟨_, rfl, HV.us 18 _ rfl, Ext.trans s0 he, fun h0 => RetWo.ext (f63 (more_ne h0 rfl)) he⟩)
   have HU := Lib.hid (show (upd V 18 (.bool true)) 17 = .bool true from e17)
   clear hK hC hW hL HV s0 f63
   rw [HFR.out, e17]
   clear e17
   go_wp2_with fail
   show K _ _; have := H.out _ (Ext.refl _); rw [HFR.out] at this
   obtain u17 := HU.out
   rw [u17] at this
   exact this
  ·rintro L A W K hL hC hW ⟨V, rfl, HV, s0, f63⟩ hK
   have e18 := HV 18 _ rfl (hW 18 rfl)
   have H := Lib.hid (show ∀ W', Ext W W' → K (fr (upd V 19 (.pointer (some ⟨g5, 6, none⟩)))) W' from fun W' he => hK _ _ ⟨_, rfl, HV.us 19 _ rfl, Ext.trans s0 he, fun h0 => RetWo.ext (f63 (more_ne h0 rfl)) he⟩)
   have HU := Lib.hid (show (upd V 19 (.pointer (some ⟨g5, 6, none⟩))) 18 = .bool true from e18)
   clear hK hC hW hL HV s0 f63
   rw [HFR.out, e18]
   clear e18
   go_wp2_with fail
   show K _ _; have := H.out _ (Ext.refl _); rw [HFR.out] at this
   obtain u18 := HU.out
   rw [u18] at this
   exact this
  ·rintro L A W K hL hC hW ⟨V, rfl, HV, s0, f63⟩ hK
   have e18 := HV 18 _ rfl (hW 18 rfl)
   have e19 := HV 19 _ rfl (hW 19 rfl)
   have hB := s0
   have H := Lib.hid (show ∀ W', Ext W W' → K (fr (upd V 20 (.slice A5 wjC.m.length n5))) W' from fun W' he => hK _ _ ⟨_, rfl, HV.us 20 _ rfl, Ext.trans s0 he, fun h0 => RetWo.ext (f63 (more_ne h0 rfl)) he⟩)
   have HU := Lib.hid (show (upd V 20 (.slice A5 wjC.m.length n5)) 18 = .bool true ∧ (upd V 20 (.slice A5 wjC.m.length n5)) 19 = .pointer (some ⟨g5, 6, none⟩) from ⟨e18, e19⟩)
   clear hK hC hW hL HV s0 f63
   rw [HFR.out, e18, e19]
   clear e18 e19
   have hcl := (HJ6.out.ext (E7.out.trans hB)).1.cell 6 _ rfl
   clear hB
   go_wp2_with fail
   show K _ _; have := H.out _ (Ext.refl _); rw [HFR.out] at this
   obtain ⟨u18, u19⟩ := HU.out
   rw [u18, u19] at this
   exact this
  ·rintro L A W K hL hC hW ⟨V, rfl, HV, s0, f63⟩ hK
   have e18 := HV 18 _ rfl (hW 18 rfl)
   have e20 := HV 20 _ rfl (hW 20 rfl)
   have H := Lib.hid (show ∀ W', Ext W W' → K (fr (upd V 21 (.int .i64 (wjC.m.length : Nat)))) W' from fun W' he => hK _ _ ⟨_, rfl, HV.us 21 _ rfl, Ext.trans s0 he, fun h0 => RetWo.ext (f63 (more_ne h0 rfl)) he⟩)
   have HU := Lib.hid (show (upd V 21 (.int .i64 (wjC.m.length : Nat))) 18 = .bool true ∧ (upd V 21 (.int .i64 (wjC.m.length : Nat))) 20 = .slice A5 wjC.m.length n5 from ⟨e18, e20⟩)
   clear hK hC hW hL HV s0 f63
   rw [HFR.out, e18, e20]
   clear e18 e20
   go_wp2_with fail
   show K _ _; have := H.out _ (Ext.refl _); rw [HFR.out] at this
   obtain ⟨u18, u20⟩ := HU.out
   rw [u18, u20] at this
   exact this
  ·rintro L A W K hL hC hW ⟨V, rfl, HV, s0, f63⟩ hK
   have e18 := HV 18 _ rfl (hW 18 rfl)
   have e21 := HV 21 _ rfl (hW 21 rfl)
   have H := Lib.hid (show ∀ W', Ext W W' → K (fr (upd V 22 (.bool true))) W' from fun W' he => hK _ _ ⟨_, rfl, HV.us 22 _ rfl, Ext.trans s0 he, fun h0 => RetWo.ext (f63 (more_ne h0 rfl)) he⟩)
   have HU := Lib.hid (show (upd V 22 (.bool true)) 18 = .bool true ∧ (upd V 22 (.bool true)) 21 = .int .i64 (wjC.m.length : Nat) from ⟨e18, e21⟩)
   clear hK hC hW hL HV s0 f63
   rw [HFR.out, e18, e21]
   clear e18 e21
   go_wp2_with fail
   show K _ _; have := H.out _ (Ext.refl _); rw [HFR.out] at this
   obtain ⟨u18, u21⟩ := HU.out
   rw [u18, u21] at this
   exact this
  ·rintro L A W K hL hC hW ⟨V, rfl, HV, s0, f63⟩ hK
   have e18 := HV 18 _ rfl (hW 18 rfl)
   have e22 := HV 22 _ rfl (hW 22 rfl)
   have H := Lib.hid (show ∀ W', Ext W W' → K (fr (upd V 23 (.bool true))) W' from fun W' he => hK _ _ ⟨_, rfl, HV.us 23 _ rfl, Ext.trans s0 he, fun h0 => RetWo.ext (f63 (more_ne h0 rfl)) he⟩)
   have HU := Lib.hid (show (upd V 23 (.bool true)) 18 = .bool true ∧ (upd V 23 (.bool true)) 22 = .bool true from ⟨e18, e22⟩)
   clear hK hC hW hL HV s0 f63
   rw [HFR.out, e18, e22]
   clear e18 e22
   go_wp2_with fail
   show K _ _; have := H.out _ (Ext.refl _); rw [HFR.out] at this
   obtain ⟨u18, u22⟩ := HU.out
   rw [u18, u22] at this
   exact this
  ·rintro L A W K hL hC hW ⟨V, rfl, HV, s0, f63⟩ hK
   have e23 := HV 23 _ rfl (hW 23 rfl)
   have H := Lib.hid (show ∀ W', Ext W W' → K (fr (upd V 24 (.bool true))) W' from fun W' he => hK _ _ ⟨_, rfl, HV.us 24 _ rfl, Ext.trans s0 he, fun h0 => RetWo.ext (f63 (more_ne h0 rfl)) he⟩)
   have HU := Lib.hid (show (upd V 24 (.bool true)) 23 = .bool true from e23)
   clear hK hC hW hL HV s0 f63
   rw [HFR.out, e23]
   clear e23
   go_wp2_with fail
   show K _ _; have := H.out _ (Ext.refl _); rw [HFR.out] at this
   obtain u23 := HU.out
   rw [u23] at this
   exact this
  ·rintro L A W K hL hC hW ⟨V, rfl, HV, s0, f63⟩ hK
   have e24 := HV 24 _ rfl (hW 24 rfl)
   have H := Lib.hid (show ∀ W', Ext W W' → K (fr (upd V 25 (.pointer (some ⟨g5, 0, none⟩)))) W' from fun W' he => hK _ _ ⟨_, rfl, HV.us 25 _ rfl, Ext.trans s0 he, fun h0 => RetWo.ext (f63 (more_ne h0 rfl)) he⟩)
   have HU := Lib.hid (show (upd V 25 (.pointer (some ⟨g5, 0, none⟩))) 24 = .bool true from e24)
   clear hK hC hW hL HV s0 f63
   rw [HFR.out, e24]
   clear e24
   go_wp2_with fail
   show K _ _; have := H.out _ (Ext.refl _); rw [HFR.out] at this
   obtain u24 := HU.out
   rw [u24] at this
   exact this
  ·rintro L A W K hL hC hW ⟨V, rfl, HV, s0, f63⟩ hK
   have e24 := HV 24 _ rfl (hW 24 rfl)
   have e25 := HV 25 _ rfl (hW 25 rfl)
   have H := Lib.hid (show ∀ W', Ext W W' → K (fr (upd V 26 (.pointer (some ⟨g5, 0, none⟩)))) W' from fun W' he => hK _ _ ⟨_, rfl, HV.us 26 _ rfl, Ext.trans s0 he, fun h0 => RetWo.ext (f63 (more_ne h0 rfl)) he⟩)
   have HU := Lib.hid (show (upd V 26 (.pointer (some ⟨g5, 0, none⟩))) 24 = .bool true ∧ (upd V 26 (.pointer (some ⟨g5, 0, none⟩))) 25 = .pointer (some ⟨g5, 0, none⟩) from ⟨e24, e25⟩)
   clear hK hC hW hL HV s0 f63
   rw [HFR.out, e24, e25]
   clear e24 e25
   go_wp2_with fail
   show K _ _; have := H.out _ (Ext.refl _); rw [HFR.out] at this
   obtain ⟨u24, u25⟩ := HU.out
   rw [u24, u25] at this
   exact this
  ·rintro L A W K hL hC hW ⟨V, rfl, HV, s0, f63⟩ hK
   have e24 := HV 24 _ rfl (hW 24 rfl)
   have e26 := HV 26 _ rfl (hW 26 rfl)
   have H := Lib.hid (show ∀ W', Ext W W' → K (fr (upd V 27 (.pointer (some ⟨g5, 0, none⟩)))) W' from fun W' he => hK _ _ ⟨_, rfl, HV.us 27 _ rfl, Ext.trans s0 he, fun h0 => RetWo.ext (f63 (more_ne h0 rfl)) he⟩)
   have HU := Lib.hid (show (upd V 27 (.pointer (some ⟨g5, 0, none⟩))) 24 = .bool true ∧ (upd V 27 (.pointer (some ⟨g5, 0, none⟩))) 26 = .pointer (some ⟨g5, 0, none⟩) from ⟨e24, e26⟩)
   clear hK hC hW hL HV s0 f63
   rw [HFR.out, e24, e26]
   clear e24 e26
   go_wp2_with fail
   show K _ _; have := H.out _ (Ext.refl _); rw [HFR.out] at this
   obtain ⟨u24, u26⟩ := HU.out
   rw [u24, u26] at this
   exact this
  ·rintro L A W K hL hC hW ⟨V, rfl, HV, s0, f63⟩ hK
   have e24 := HV 24 _ rfl (hW 24 rfl)
   have e27 := HV 27 _ rfl (hW 27 rfl)
   have H := Lib.hid (show ∀ W', Ext W W' → K (fr (upd V 28 (.pointer (some ⟨g5, 0, none⟩)))) W' from fun W' he => hK _ _ ⟨_, rfl, HV.us 28 _ rfl, Ext.trans s0 he, fun h0 => RetWo.ext (f63 (more_ne h0 rfl)) he⟩)
   have HU := Lib.hid (show (upd V 28 (.pointer (some ⟨g5, 0, none⟩))) 24 = .bool true ∧ (upd V 28 (.pointer (some ⟨g5, 0, none⟩))) 27 = .pointer (some ⟨g5, 0, none⟩) from ⟨e24, e27⟩)
   clear hK hC hW hL HV s0 f63
   rw [HFR.out, e24, e27]
   clear e24 e27
   go_wp2_with fail
   show K _ _; have := H.out _ (Ext.refl _); rw [HFR.out] at this
   obtain ⟨u24, u27⟩ := HU.out
   rw [u24, u27] at this
   exact this
  ·rintro L A W K hL hC hW ⟨V, rfl, HV, s0, f63⟩ hK
   have e24 := HV 24 _ rfl (hW 24 rfl)
   have e28 := HV 28 _ rfl (hW 28 rfl)
   have hB := s0
   have H := Lib.hid (show ∀ W', Ext W W' → K (fr (upd V 29 (.slice (some ⟨bb, oo, none⟩) wjC.p.w.s.length nC))) W' from fun W' he => hK _ _ ⟨_, rfl, HV.us 29 _ rfl, Ext.trans s0 he, fun h0 => RetWo.ext (f63 (more_ne h0 rfl)) he⟩)
   have HU := Lib.hid (show (upd V 29 (.slice (some ⟨bb, oo, none⟩) wjC.p.w.s.length nC)) 24 = .bool true ∧ (upd V 29 (.slice (some ⟨bb, oo, none⟩) wjC.p.w.s.length nC)) 28 = .pointer (some ⟨g5, 0, none⟩) from ⟨e24, e28⟩)
   clear hK hC hW hL HV s0 f63
   rw [HFR.out, e24, e28]
   clear e24 e28
   have hcl := (HJ6.out.ext (E7.out.trans hB)).1.cell 0 _ rfl
   clear hB
   go_wp2_with fail
   show K _ _; have := H.out _ (Ext.refl _); rw [HFR.out] at this
   obtain ⟨u24, u28⟩ := HU.out
   rw [u24, u28] at this
   exact this
  ·rintro L A W K hL hC hW ⟨V, rfl, HV, s0, f63⟩ hK
   have e24 := HV 24 _ rfl (hW 24 rfl)
   have e29 := HV 29 _ rfl (hW 29 rfl)
   have H := Lib.hid (show ∀ W', Ext W W' → K (fr (upd V 30 (.int .i64 (wjC.p.w.s.length : Nat)))) W' from fun W' he => hK _ _ ⟨_, rfl, HV.us 30 _ rfl, Ext.trans s0 he, fun h0 => RetWo.ext (f63 (more_ne h0 rfl)) he⟩)
   have HU := Lib.hid (show (upd V 30 (.int .i64 (wjC.p.w.s.length : Nat))) 24 = .bool true ∧ (upd V 30 (.int .i64 (wjC.p.w.s.length : Nat))) 29 = .slice (some ⟨bb, oo, none⟩) wjC.p.w.s.length nC from ⟨e24, e29⟩)
   clear hK hC hW hL HV s0 f63
   rw [HFR.out, e24, e29]
   clear e24 e29
   go_wp2_with fail
   show K _ _; have := H.out _ (Ext.refl _); rw [HFR.out] at this
   obtain ⟨u24, u29⟩ := HU.out
   rw [u24, u29] at this
   exact this
  ·rintro L A W K hL hC hW ⟨V, rfl, HV, s0, f63⟩ hK
   have e24 := HV 24 _ rfl (hW 24 rfl)
   have e30 := HV 30 _ rfl (hW 30 rfl)
   have H := Lib.hid (show ∀ W', Ext W W' → K (fr (upd V 31 (.bool true))) W' from fun W' he => hK _ _ ⟨_, rfl, HV.us 31 _ rfl, Ext.trans s0 he, fun h0 => RetWo.ext (f63 (more_ne h0 rfl)) he⟩)
   have HU := Lib.hid (show (upd V 31 (.bool true)) 24 = .bool true ∧ (upd V 31 (.bool true)) 30 = .int .i64 (wjC.p.w.s.length : Nat) from ⟨e24, e30⟩)
   clear hK hC hW hL HV s0 f63
   rw [HFR.out, e24, e30]
   clear e24 e30
   go_wp2_with fail
   show K _ _; have := H.out _ (Ext.refl _); rw [HFR.out] at this
   obtain ⟨u24, u30⟩ := HU.out
   rw [u24, u30] at this
   exact this
  ·rintro L A W K hL hC hW ⟨V, rfl, HV, s0, f63⟩ hK
   have e24 := HV 24 _ rfl (hW 24 rfl)
   have e31 := HV 31 _ rfl (hW 31 rfl)
   have H := Lib.hid (show ∀ W', Ext W W' → K (fr (upd V 32 (.bool true))) W' from fun W' he => hK _ _ ⟨_, rfl, HV.us 32 _ rfl, Ext.trans s0 he, fun h0 => RetWo.ext (f63 (more_ne h0 rfl)) he⟩)
   have HU := Lib.hid (show (upd V 32 (.bool true)) 24 = .bool true ∧ (upd V 32 (.bool true)) 31 = .bool true from ⟨e24, e31⟩)
   clear hK hC hW hL HV s0 f63
   rw [HFR.out, e24, e31]
   clear e24 e31
   go_wp2_with fail
   show K _ _; have := H.out _ (Ext.refl _); rw [HFR.out] at this
   obtain ⟨u24, u31⟩ := HU.out
   rw [u24, u31] at this
   exact this
  ·rintro L A W K hL hC hW ⟨V, rfl, HV, s0, f63⟩ hK
   have e32 := HV 32 _ rfl (hW 32 rfl)
   have H := Lib.hid (show ∀ W', Ext W W' → K (fr (upd V 33 (.bool true))) W' from fun W' he => hK _ _ ⟨_, rfl, HV.us 33 _ rfl, Ext.trans s0 he, fun h0 => RetWo.ext (f63 (more_ne h0 rfl)) he⟩)
   have HU := Lib.hid (show (upd V 33 (.bool true)) 32 = .bool true from e32)
   clear hK hC hW hL HV s0 f63
   rw [HFR.out, e32]
   clear e32
   go_wp2_with fail
   show K _ _; have := H.out _ (Ext.refl _); rw [HFR.out] at this
   obtain u32 := HU.out
   rw [u32] at this
   exact this
  ·rintro L A W K hL hC hW ⟨V, rfl, HV, s0, f63⟩ hK
   have e33 := HV 33 _ rfl (hW 33 rfl)
   have H := Lib.hid (show ∀ W', Ext W W' → K (fr (upd V 34 (.pointer (some ⟨g5, 0, none⟩)))) W' from fun W' he => hK _ _ ⟨_, rfl, HV.us 34 _ rfl, Ext.trans s0 he, fun h0 => RetWo.ext (f63 (more_ne h0 rfl)) he⟩)
   have HU := Lib.hid (show (upd V 34 (.pointer (some ⟨g5, 0, none⟩))) 33 = .bool true from e33)
   clear hK hC hW hL HV s0 f63
   rw [HFR.out, e33]
   clear e33
   go_wp2_with fail
   show K _ _; have := H.out _ (Ext.refl _); rw [HFR.out] at this
   obtain u33 := HU.out
   rw [u33] at this
   exact this
  ·rintro L A W K hL hC hW ⟨V, rfl, HV, s0, f63⟩ hK
   have e33 := HV 33 _ rfl (hW 33 rfl)
   have e34 := HV 34 _ rfl (hW 34 rfl)
   have H := Lib.hid (show ∀ W', Ext W W' → K (fr (upd V 35 (.pointer (some ⟨g5, 0, none⟩)))) W' from fun W' he => hK _ _ ⟨_, rfl, HV.us 35 _ rfl, Ext.trans s0 he, fun h0 => RetWo.ext (f63 (more_ne h0 rfl)) he⟩)
   have HU := Lib.hid (show (upd V 35 (.pointer (some ⟨g5, 0, none⟩))) 33 = .bool true ∧ (upd V 35 (.pointer (some ⟨g5, 0, none⟩))) 34 = .pointer (some ⟨g5, 0, none⟩) from ⟨e33, e34⟩)
   clear hK hC hW hL HV s0 f63
   rw [HFR.out, e33, e34]
   clear e33 e34
   go_wp2_with fail
   show K _ _; have := H.out _ (Ext.refl _); rw [HFR.out] at this
   obtain ⟨u33, u34⟩ := HU.out
   rw [u33, u34] at this
   exact this
  ·rintro L A W K hL hC hW ⟨V, rfl, HV, s0, f63⟩ hK
   have e33 := HV 33 _ rfl (hW 33 rfl)
   have e35 := HV 35 _ rfl (hW 35 rfl)
   have H := Lib.hid (show ∀ W', Ext W W' → K (fr (upd V 36 (.pointer (some ⟨g5, 0, none⟩)))) W' from fun W' he => hK _ _ ⟨_, rfl, HV.us 36 _ rfl, Ext.trans s0 he, fun h0 => RetWo.ext (f63 (more_ne h0 rfl)) he⟩)
   have HU := Lib.hid (show (upd V 36 (.pointer (some ⟨g5, 0, none⟩))) 33 = .bool true ∧ (upd V 36 (.pointer (some ⟨g5, 0, none⟩))) 35 = .pointer (some ⟨g5, 0, none⟩) from ⟨e33, e35⟩)
   clear hK hC hW hL HV s0 f63
   rw [HFR.out, e33, e35]
   clear e33 e35
   go_wp2_with fail
   show K _ _; have := H.out _ (Ext.refl _); rw [HFR.out] at this
   obtain ⟨u33, u35⟩ := HU.out
   rw [u33, u35] at this
   exact this
  ·rintro L A W K hL hC hW ⟨V, rfl, HV, s0, f63⟩ hK
   have e33 := HV 33 _ rfl (hW 33 rfl)
   have e36 := HV 36 _ rfl (hW 36 rfl)
   have H := Lib.hid (show ∀ W', Ext W W' → K (fr (upd V 37 (.pointer (some ⟨g5, 0, none⟩)))) W' from fun W' he => hK _ _ ⟨_, rfl, HV.us 37 _ rfl, Ext.trans s0 he, fun h0 => RetWo.ext (f63 (more_ne h0 rfl)) he⟩)
   have HU := Lib.hid (show (upd V 37 (.pointer (some ⟨g5, 0, none⟩))) 33 = .bool true ∧ (upd V 37 (.pointer (some ⟨g5, 0, none⟩))) 36 = .pointer (some ⟨g5, 0, none⟩) from ⟨e33, e36⟩)
   clear hK hC hW hL HV s0 f63
   rw [HFR.out, e33, e36]
   clear e33 e36
   go_wp2_with fail
   show K _ _; have := H.out _ (Ext.refl _); rw [HFR.out] at this
   obtain ⟨u33, u36⟩ := HU.out
   rw [u33, u36] at this
   exact this
  ·rintro L A W K hL hC hW ⟨V, rfl, HV, s0, f63⟩ hK
   have e33 := HV 33 _ rfl (hW 33 rfl)
   have e37 := HV 37 _ rfl (hW 37 rfl)
   have hB := s0
   have H := Lib.hid (show ∀ W', Ext W W' → K (fr (upd V 38 (.slice (some ⟨bb, oo, none⟩) wjC.p.w.s.length nC))) W' from fun W' he => hK _ _ ⟨_, rfl, HV.us 38 _ rfl, Ext.trans s0 he, fun h0 => RetWo.ext (f63 (more_ne h0 rfl)) he⟩)
   have HU := Lib.hid (show (upd V 38 (.slice (some ⟨bb, oo, none⟩) wjC.p.w.s.length nC)) 33 = .bool true ∧ (upd V 38 (.slice (some ⟨bb, oo, none⟩) wjC.p.w.s.length nC)) 37 = .pointer (some ⟨g5, 0, none⟩) from ⟨e33, e37⟩)
   clear hK hC hW hL HV s0 f63
   rw [HFR.out, e33, e37]
   clear e33 e37
   have hcl := (HJ6.out.ext (E7.out.trans hB)).1.cell 0 _ rfl
   clear hB
   go_wp2_with fail
   show K _ _; have := H.out _ (Ext.refl _); rw [HFR.out] at this
   obtain ⟨u33, u37⟩ := HU.out
   rw [u33, u37] at this
   exact this
  ·rintro L A W K hL hC hW ⟨V, rfl, HV, s0, f63⟩ hK
   have e33 := HV 33 _ rfl (hW 33 rfl)
   have e38 := HV 38 _ rfl (hW 38 rfl)
   have hB := s0
   have H := Lib.hid (show ∀ W', Ext W W' → K (fr (upd V 39 (.pointer (some ⟨bb, oo, none⟩)))) W' from fun W' he => hK _ _ ⟨_, rfl, HV.us 39 _ rfl, Ext.trans s0 he, fun h0 => RetWo.ext (f63 (more_ne h0 rfl)) he⟩)
   have HU := Lib.hid (show (upd V 39 (.pointer (some ⟨bb, oo, none⟩))) 33 = .bool true ∧ (upd V 39 (.pointer (some ⟨bb, oo, none⟩))) 38 = .slice (some ⟨bb, oo, none⟩) wjC.p.w.s.length nC from ⟨e33, e38⟩)
   clear hK hC hW hL HV s0 f63
   rw [HFR.out, e33, e38]
   clear e33 e38
   have hlt : decide ((0 : Int) < ((wjC.p.w.s.length : Nat) : Int)) = true := rfl
   have hlt2 : decide (0 < wjC.p.w.s.length) = true := rfl
   clear hB
   go_wp2_with fail
   show K _ _; have := H.out _ (Ext.refl _); rw [HFR.out] at this
   obtain ⟨u33, u38⟩ := HU.out
   rw [u33, u38] at this
   exact this
  ·rintro L A W K hL hC hW ⟨V, rfl, HV, s0, f63⟩ hK
   have e33 := HV 33 _ rfl (hW 33 rfl)
   have e39 := HV 39 _ rfl (hW 39 rfl)
   have H := Lib.hid (show ∀ W', Ext W W' → K (fr (upd V 40 (.pointer (some ⟨bb, oo + 1, none⟩)))) W' from fun W' he => hK _ _ ⟨_, rfl, HV.us 40 _ rfl, Ext.trans s0 he, fun h0 => RetWo.ext (f63 (more_ne h0 rfl)) he⟩)
   have HU := Lib.hid (show (upd V 40 (.pointer (some ⟨bb, oo + 1, none⟩))) 33 = .bool true ∧ (upd V 40 (.pointer (some ⟨bb, oo + 1, none⟩))) 39 = .pointer (some ⟨bb, oo, none⟩) from ⟨e33, e39⟩)
   clear hK hC hW hL HV s0 f63
   rw [HFR.out, e33, e39]
   clear e33 e39
   go_wp2_with fail
   show K _ _; have := H.out _ (Ext.refl _); rw [HFR.out] at this
   obtain ⟨u33, u39⟩ := HU.out
   rw [u33, u39] at this
   exact this
  ·rintro L A W K hL hC hW ⟨V, rfl, HV, s0, f63⟩ hK
   have e33 := HV 33 _ rfl (hW 33 rfl)
   have e40 := HV 40 _ rfl (hW 40 rfl)
   have H := Lib.hid (show ∀ W', Ext W W' → K (fr (upd V 41 (.pointer (some ⟨bb, oo + 1, none⟩)))) W' from fun W' he => hK _ _ ⟨_, rfl, HV.us 41 _ rfl, Ext.trans s0 he, fun h0 => RetWo.ext (f63 (more_ne h0 rfl)) he⟩)
   have HU := Lib.hid (show (upd V 41 (.pointer (some ⟨bb, oo + 1, none⟩))) 33 = .bool true ∧ (upd V 41 (.pointer (some ⟨bb, oo + 1, none⟩))) 40 = .pointer (some ⟨bb, oo + 1, none⟩) from ⟨e33, e40⟩)
   clear hK hC hW hL HV s0 f63
   rw [HFR.out, e33, e40]
   clear e33 e40
   go_wp2_with fail
   show K _ _; have := H.out _ (Ext.refl _); rw [HFR.out] at this
   obtain ⟨u33, u40⟩ := HU.out
   rw [u33, u40] at this
   exact this
  ·rintro L A W K hL hC hW ⟨V, rfl, HV, s0, f63⟩ hK
   have e33 := HV 33 _ rfl (hW 33 rfl)
   have e41 := HV 41 _ rfl (hW 41 rfl)
   have hB := s0
   have H := Lib.hid (show ∀ W', Ext W W' → K (fr (upd V 42 (.int .u64 7))) W' from fun W' he => hK _ _ ⟨_, rfl, HV.us 42 _ rfl, Ext.trans s0 he, fun h0 => RetWo.ext (f63 (more_ne h0 rfl)) he⟩)
   have HU := Lib.hid (show (upd V 42 (.int .u64 7)) 33 = .bool true ∧ (upd V 42 (.int .u64 7)) 41 = .pointer (some ⟨bb, oo + 1, none⟩) from ⟨e33, e41⟩)
   clear hK hC hW hL HV s0 f63
   rw [HFR.out, e33, e41]
   clear e33 e41
   have hcl : W.cell? ⟨bb, oo + 1, none⟩ = some (.int .u64 7) := (E7.out.trans hB).cell (HRG.out 1 _ rfl)
   clear hB
   go_wp2_with fail
   show K _ _; have := H.out _ (Ext.refl _); rw [HFR.out] at this
   obtain ⟨u33, u41⟩ := HU.out
   rw [u33, u41] at this
   exact this
  ·rintro L A W K hL hC hW ⟨V, rfl, HV, s0, f63⟩ hK
   have e33 := HV 33 _ rfl (hW 33 rfl)
   have e42 := HV 42 _ rfl (hW 42 rfl)
   have H := Lib.hid (show ∀ W', Ext W W' → K (fr (upd V 43 (.bool true))) W' from fun W' he => hK _ _ ⟨_, rfl, HV.us 43 _ rfl, Ext.trans s0 he, fun h0 => RetWo.ext (f63 (more_ne h0 rfl)) he⟩)
   have HU := Lib.hid (show (upd V 43 (.bool true)) 33 = .bool true ∧ (upd V 43 (.bool true)) 42 = .int .u64 7 from ⟨e33, e42⟩)
   clear hK hC hW hL HV s0 f63
   rw [HFR.out, e33, e42]
   clear e33 e42
   go_wp2_with fail
   show K _ _; have := H.out _ (Ext.refl _); rw [HFR.out] at this
   obtain ⟨u33, u42⟩ := HU.out
   rw [u33, u42] at this
   exact this
  ·rintro L A W K hL hC hW ⟨V, rfl, HV, s0, f63⟩ hK
   have e33 := HV 33 _ rfl (hW 33 rfl)
   have e43 := HV 43 _ rfl (hW 43 rfl)
   have H := Lib.hid (show ∀ W', Ext W W' → K (fr (upd V 44 (.bool true))) W' from fun W' he => hK _ _ ⟨_, rfl, HV.us 44 _ rfl, Ext.trans s0 he, fun h0 => RetWo.ext (f63 (more_ne h0 rfl)) he⟩)
   have HU := Lib.hid (show (upd V 44 (.bool true)) 33 = .bool true ∧ (upd V 44 (.bool true)) 43 = .bool true from ⟨e33, e43⟩)
   clear hK hC hW hL HV s0 f63
   rw [HFR.out, e33, e43]
   clear e33 e43
   go_wp2_with fail
   show K _ _; have := H.out _ (Ext.refl _); rw [HFR.out] at this
   obtain ⟨u33, u43⟩ := HU.out
   rw [u33, u43] at this
   exact this
  ·rintro L A W K hL hC hW ⟨V, rfl, HV, s0, f63⟩ hK
   have e44 := HV 44 _ rfl (hW 44 rfl)
   have H := Lib.hid (show ∀ W', Ext W W' → K (fr (upd V 45 (.bool true))) W' from fun W' he => hK _ _ ⟨_, rfl, HV.us 45 _ rfl, Ext.trans s0 he, fun h0 => RetWo.ext (f63 (more_ne h0 rfl)) he⟩)
   have HU := Lib.hid (show (upd V 45 (.bool true)) 44 = .bool true from e44)
   clear hK hC hW hL HV s0 f63
   rw [HFR.out, e44]
   clear e44
   go_wp2_with fail
   show K _ _; have := H.out _ (Ext.refl _); rw [HFR.out] at this
   obtain u44 := HU.out
   rw [u44] at this
   exact this
  ·rintro L A W K hL hC hW ⟨V, rfl, HV, s0, f63⟩ hK
   have e45 := HV 45 _ rfl (hW 45 rfl)
   have H := Lib.hid (show ∀ W', Ext W W' → K (fr (upd V 46 (.pointer (some ⟨w6.heap.size, 6, none⟩)))) W' from fun W' he => hK _ _ ⟨_, rfl, HV.us 46 _ rfl, Ext.trans s0 he, fun h0 => RetWo.ext (f63 (more_ne h0 rfl)) he⟩)
   have HU := Lib.hid (show (upd V 46 (.pointer (some ⟨w6.heap.size, 6, none⟩))) 45 = .bool true from e45)
   clear hK hC hW hL HV s0 f63
   rw [HFR.out, e45]
   clear e45
   go_wp2_with fail
   show K _ _; have := H.out _ (Ext.refl _); rw [HFR.out] at this
   obtain u45 := HU.out
   rw [u45] at this
   exact this
  ·rintro L A W K hL hC hW ⟨V, rfl, HV, s0, f63⟩ hK
   have e45 := HV 45 _ rfl (hW 45 rfl)
   have e46 := HV 46 _ rfl (hW 46 rfl)
   have hB := s0
   have H := Lib.hid (show ∀ W', Ext W W' → K (fr (upd V 47 (.slice A6 wjA.m.length n6))) W' from fun W' he => hK _ _ ⟨_, rfl, HV.us 47 _ rfl, Ext.trans s0 he, fun h0 => RetWo.ext (f63 (more_ne h0 rfl)) he⟩)
   have HU := Lib.hid (show (upd V 47 (.slice A6 wjA.m.length n6)) 45 = .bool true ∧ (upd V 47 (.slice A6 wjA.m.length n6)) 46 = .pointer (some ⟨w6.heap.size, 6, none⟩) from ⟨e45, e46⟩)
   clear hK hC hW hL HV s0 f63
   rw [HFR.out, e45, e46]
   clear e45 e46
   have hcl := (Cs.ext K7.out hB).cell 6 _ rfl
   clear hB
   go_wp2_with fail
   show K _ _; have := H.out _ (Ext.refl _); rw [HFR.out] at this
   obtain ⟨u45, u46⟩ := HU.out
   rw [u45, u46] at this
   exact this
  ·rintro L A W K hL hC hW ⟨V, rfl, HV, s0, f63⟩ hK
   have e45 := HV 45 _ rfl (hW 45 rfl)
   have e47 := HV 47 _ rfl (hW 47 rfl)
   have H := Lib.hid (show ∀ W', Ext W W' → K (fr (upd V 48 (.int .i64 (wjA.m.length : Nat)))) W' from fun W' he => hK _ _ ⟨_, rfl, HV.us 48 _ rfl, Ext.trans s0 he, fun h0 => RetWo.ext (f63 (more_ne h0 rfl)) he⟩)
   have HU := Lib.hid (show (upd V 48 (.int .i64 (wjA.m.length : Nat))) 45 = .bool true ∧ (upd V 48 (.int .i64 (wjA.m.length : Nat))) 47 = .slice A6 wjA.m.length n6 from ⟨e45, e47⟩)
   clear hK hC hW hL HV s0 f63
   rw [HFR.out, e45, e47]
   clear e45 e47
   go_wp2_with fail
   show K _ _; have := H.out _ (Ext.refl _); rw [HFR.out] at this
   obtain ⟨u45, u47⟩ := HU.out
   rw [u45, u47] at this
   exact this
  ·rintro L A W K hL hC hW ⟨V, rfl, HV, s0, f63⟩ hK
   have e45 := HV 45 _ rfl (hW 45 rfl)
   have e48 := HV 48 _ rfl (hW 48 rfl)
   have H := Lib.hid (show ∀ W', Ext W W' → K (fr (upd V 49 (.bool true))) W' from fun W' he => hK _ _ ⟨_, rfl, HV.us 49 _ rfl, Ext.trans s0 he, fun h0 => RetWo.ext (f63 (more_ne h0 rfl)) he⟩)
   have HU := Lib.hid (show (upd V 49 (.bool true)) 45 = .bool true ∧ (upd V 49 (.bool true)) 48 = .int .i64 (wjA.m.length : Nat) from ⟨e45, e48⟩)
   clear hK hC hW hL HV s0 f63
   rw [HFR.out, e45, e48]
   clear e45 e48
   go_wp2_with fail
   show K _ _; have := H.out _ (Ext.refl _); rw [HFR.out] at this
   obtain ⟨u45, u48⟩ := HU.out
   rw [u45, u48] at this
   exact this
  ·rintro L A W K hL hC hW ⟨V, rfl, HV, s0, f63⟩ hK
   have e45 := HV 45 _ rfl (hW 45 rfl)
   have e49 := HV 49 _ rfl (hW 49 rfl)
   have H := Lib.hid (show ∀ W', Ext W W' → K (fr (upd V 50 (.bool true))) W' from fun W' he => hK _ _ ⟨_, rfl, HV.us 50 _ rfl, Ext.trans s0 he, fun h0 => RetWo.ext (f63 (more_ne h0 rfl)) he⟩)
   have HU := Lib.hid (show (upd V 50 (.bool true)) 45 = .bool true ∧ (upd V 50 (.bool true)) 49 = .bool true from ⟨e45, e49⟩)
   clear hK hC hW hL HV s0 f63
   rw [HFR.out, e45, e49]
   clear e45 e49
   go_wp2_with fail
   show K _ _; have := H.out _ (Ext.refl _); rw [HFR.out] at this
   obtain ⟨u45, u49⟩ := HU.out
   rw [u45, u49] at this
   exact this
  ·rintro L A W K hL hC hW ⟨V, rfl, HV, s0, f63⟩ hK
   have e50 := HV 50 _ rfl (hW 50 rfl)
   have H := Lib.hid (show ∀ W', Ext W W' → K (fr (upd V 51 (.bool true))) W' from fun W' he => hK _ _ ⟨_, rfl, HV.us 51 _ rfl, Ext.trans s0 he, fun h0 => RetWo.ext (f63 (more_ne h0 rfl)) he⟩)
   have HU := Lib.hid (show (upd V 51 (.bool true)) 50 = .bool true from e50)
   clear hK hC hW hL HV s0 f63
   rw [HFR.out, e50]
   clear e50
   go_wp2_with fail
   show K _ _; have := H.out _ (Ext.refl _); rw [HFR.out] at this
   obtain u50 := HU.out
   rw [u50] at this
   exact this
  ·rintro L A W K hL hC hW ⟨V, rfl, HV, s0, f63⟩ hK
   have e51 := HV 51 _ rfl (hW 51 rfl)
   have H := Lib.hid (show ∀ W', Ext W W' → K (fr (upd V 52 (.pointer (some ⟨w6.heap.size, 0, none⟩)))) W' from fun W' he => hK _ _ ⟨_, rfl, HV.us 52 _ rfl, Ext.trans s0 he, fun h0 => RetWo.ext (f63 (more_ne h0 rfl)) he⟩)
   have HU := Lib.hid (show (upd V 52 (.pointer (some ⟨w6.heap.size, 0, none⟩))) 51 = .bool true from e51)
   clear hK hC hW hL HV s0 f63
   rw [HFR.out, e51]
   clear e51
   go_wp2_with fail
   show K _ _; have := H.out _ (Ext.refl _); rw [HFR.out] at this
   obtain u51 := HU.out
   rw [u51] at this
   exact this
  ·rintro L A W K hL hC hW ⟨V, rfl, HV, s0, f63⟩ hK
   have e51 := HV 51 _ rfl (hW 51 rfl)
   have e52 := HV 52 _ rfl (hW 52 rfl)
   have H := Lib.hid (show ∀ W', Ext W W' → K (fr (upd V 53 (.pointer (some ⟨w6.heap.size, 3, none⟩)))) W' from fun W' he => hK _ _ ⟨_, rfl, HV.us 53 _ rfl, Ext.trans s0 he, fun h0 => RetWo.ext (f63 (more_ne h0 rfl)) he⟩)
   have HU := Lib.hid (show (upd V 53 (.pointer (some ⟨w6.heap.size, 3, none⟩))) 51 = .bool true ∧ (upd V 53 (.pointer (some ⟨w6.heap.size, 3, none⟩))) 52 = .pointer (some ⟨w6.heap.size, 0, none⟩) from ⟨e51, e52⟩)
   clear hK hC hW hL HV s0 f63
   rw [HFR.out, e51, e52]
   clear e51 e52
   go_wp2_with fail
   show K _ _; have := H.out _ (Ext.refl _); rw [HFR.out] at this
   obtain ⟨u51, u52⟩ := HU.out
   rw [u51, u52] at this
   exact this
  ·rintro L A W K hL hC hW ⟨V, rfl, HV, s0, f63⟩ hK
   have e51 := HV 51 _ rfl (hW 51 rfl)
   have e53 := HV 53 _ rfl (hW 53 rfl)
   have H := Lib.hid (show ∀ W', Ext W W' → K (fr (upd V 54 (.pointer (some ⟨w6.heap.size, 3, none⟩)))) W' from fun W' he => hK _ _ ⟨_, rfl, HV.us 54 _ rfl, Ext.trans s0 he, fun h0 => RetWo.ext (f63 (more_ne h0 rfl)) he⟩)
   have HU := Lib.hid (show (upd V 54 (.pointer (some ⟨w6.heap.size, 3, none⟩))) 51 = .bool true ∧ (upd V 54 (.pointer (some ⟨w6.heap.size, 3, none⟩))) 53 = .pointer (some ⟨w6.heap.size, 3, none⟩) from ⟨e51, e53⟩)
   clear hK hC hW hL HV s0 f63
   rw [HFR.out, e51, e53]
   clear e51 e53
   go_wp2_with fail
   show K _ _; have := H.out _ (Ext.refl _); rw [HFR.out] at this
   obtain ⟨u51, u53⟩ := HU.out
   rw [u51, u53] at this
   exact this
  ·rintro L A W K hL hC hW ⟨V, rfl, HV, s0, f63⟩ hK
   have e51 := HV 51 _ rfl (hW 51 rfl)
   have e54 := HV 54 _ rfl (hW 54 rfl)
   have hB := s0
   have H := Lib.hid (show ∀ W', Ext W W' → K (fr (upd V 55 (.slice AB wjA.p.x.a.length nB))) W' from fun W' he => hK _ _ ⟨_, rfl, HV.us 55 _ rfl, Ext.trans s0 he, fun h0 => RetWo.ext (f63 (more_ne h0 rfl)) he⟩)
   have HU := Lib.hid (show (upd V 55 (.slice AB wjA.p.x.a.length nB)) 51 = .bool true ∧ (upd V 55 (.slice AB wjA.p.x.a.length nB)) 54 = .pointer (some ⟨w6.heap.size, 3, none⟩) from ⟨e51, e54⟩)
   clear hK hC hW hL HV s0 f63
   rw [HFR.out, e51, e54]
   clear e51 e54
   have hcl := (Cs.ext K7.out hB).cell 3 _ rfl
   clear hB
   go_wp2_with fail
   show K _ _; have := H.out _ (Ext.refl _); rw [HFR.out] at this
   obtain ⟨u51, u54⟩ := HU.out
   rw [u51, u54] at this
   exact this
  ·rintro L A W K hL hC hW ⟨V, rfl, HV, s0, f63⟩ hK
   have e51 := HV 51 _ rfl (hW 51 rfl)
   have e55 := HV 55 _ rfl (hW 55 rfl)
   have H := Lib.hid (show ∀ W', Ext W W' → K (fr (upd V 56 (.int .i64 (wjA.p.x.a.length : Nat)))) W' from fun W' he => hK _ _ ⟨_, rfl, HV.us 56 _ rfl, Ext.trans s0 he, fun h0 => RetWo.ext (f63 (more_ne h0 rfl)) he⟩)
   have HU := Lib.hid (show (upd V 56 (.int .i64 (wjA.p.x.a.length : Nat))) 51 = .bool true ∧ (upd V 56 (.int .i64 (wjA.p.x.a.length : Nat))) 55 = .slice AB wjA.p.x.a.length nB from ⟨e51, e55⟩)
   clear hK hC hW hL HV s0 f63
   rw [HFR.out, e51, e55]
   clear e51 e55
   go_wp2_with fail
   show K _ _; have := H.out _ (Ext.refl _); rw [HFR.out] at this
   obtain ⟨u51, u55⟩ := HU.out
   rw [u51, u55] at this
   exact this
  ·rintro L A W K hL hC hW ⟨V, rfl, HV, s0, f63⟩ hK
   have e51 := HV 51 _ rfl (hW 51 rfl)
   have e56 := HV 56 _ rfl (hW 56 rfl)
   have H := Lib.hid (show ∀ W', Ext W W' → K (fr (upd V 57 (.bool true))) W' from fun W' he => hK _ _ ⟨_, rfl, HV.us 57 _ rfl, Ext.trans s0 he, fun h0 => RetWo.ext (f63 (more_ne h0 rfl)) he⟩)
   have HU := Lib.hid (show (upd V 57 (.bool true)) 51 = .bool true ∧ (upd V 57 (.bool true)) 56 = .int .i64 (wjA.p.x.a.length : Nat) from ⟨e51, e56⟩)
   clear hK hC hW hL HV s0 f63
   rw [HFR.out, e51, e56]
   clear e51 e56
   go_wp2_with fail
   show K _ _; have := H.out _ (Ext.refl _); rw [HFR.out] at this
   obtain ⟨u51, u56⟩ := HU.out
   rw [u51, u56] at this
   exact this
  ·rintro L A W K hL hC hW ⟨V, rfl, HV, s0, f63⟩ hK
   have e51 := HV 51 _ rfl (hW 51 rfl)
   have e57 := HV 57 _ rfl (hW 57 rfl)
   have H := Lib.hid (show ∀ W', Ext W W' → K (fr (upd V 58 (.bool true))) W' from fun W' he => hK _ _ ⟨_, rfl, HV.us 58 _ rfl, Ext.trans s0 he, fun h0 => RetWo.ext (f63 (more_ne h0 rfl)) he⟩)
   have HU := Lib.hid (show (upd V 58 (.bool true)) 51 = .bool true ∧ (upd V 58 (.bool true)) 57 = .bool true from ⟨e51, e57⟩)
   clear hK hC hW hL HV s0 f63
   rw [HFR.out, e51, e57]
   clear e51 e57
   go_wp2_with fail
   show K _ _; have := H.out _ (Ext.refl _); rw [HFR.out] at this
   obtain ⟨u51, u57⟩ := HU.out
   rw [u51, u57] at this
   exact this
  ·rintro L A W K hL hC hW ⟨V, rfl, HV, s0, f63⟩ hK
   have e58 := HV 58 _ rfl (hW 58 rfl)
   have H := Lib.hid (show ∀ W', Ext W W' → K (fr (upd V 59 (.bool true))) W' from fun W' he => hK _ _ ⟨_, rfl, HV.us 59 _ rfl, Ext.trans s0 he, fun h0 => RetWo.ext (f63 (more_ne h0 rfl)) he⟩)
   have HU := Lib.hid (show (upd V 59 (.bool true)) 58 = .bool true from e58)
   clear hK hC hW hL HV s0 f63
   rw [HFR.out, e58]
   clear e58
   go_wp2_with fail
   show K _ _; have := H.out _ (Ext.refl _); rw [HFR.out] at this
   obtain u58 := HU.out
   rw [u58] at this
   exact this
  ·rintro L A W K hL hC hW ⟨V, rfl, HV, s0, f63⟩ hK
   have e59 := HV 59 _ rfl (hW 59 rfl)
   have H := Lib.hid (show ∀ W', Ext W W' → K (fr (upd V 60 (.pointer (some ⟨w6.heap.size, 0, none⟩)))) W' from fun W' he => hK _ _ ⟨_, rfl, HV.us 60 _ rfl, Ext.trans s0 he, fun h0 => RetWo.ext (f63 (more_ne h0 rfl)) he⟩)
   have HU := Lib.hid (show (upd V 60 (.pointer (some ⟨w6.heap.size, 0, none⟩))) 59 = .bool true from e59)
   clear hK hC hW hL HV s0 f63
   rw [HFR.out, e59]
   clear e59
   go_wp2_with fail
   show K _ _; have := H.out _ (Ext.refl _); rw [HFR.out] at this
   obtain u59 := HU.out
   rw [u59] at this
   exact this
  ·rintro L A W K hL hC hW ⟨V, rfl, HV, s0, f63⟩ hK
   have e59 := HV 59 _ rfl (hW 59 rfl)
   have e60 := HV 60 _ rfl (hW 60 rfl)
   have H := Lib.hid (show ∀ W', Ext W W' → K (fr (upd V 61 (.pointer (some ⟨w6.heap.size, 0, none⟩)))) W' from fun W' he => hK _ _ ⟨_, rfl, HV.us 61 _ rfl, Ext.trans s0 he, fun h0 => RetWo.ext (f63 (more_ne h0 rfl)) he⟩)
   have HU := Lib.hid (show (upd V 61 (.pointer (some ⟨w6.heap.size, 0, none⟩))) 59 = .bool true ∧ (upd V 61 (.pointer (some ⟨w6.heap.size, 0, none⟩))) 60 = .pointer (some ⟨w6.heap.size, 0, none⟩) from ⟨e59, e60⟩)
   clear hK hC hW hL HV s0 f63
   rw [HFR.out, e59, e60]
   clear e59 e60
   go_wp2_with fail
   show K _ _; have := H.out _ (Ext.refl _); rw [HFR.out] at this
   obtain ⟨u59, u60⟩ := HU.out
   rw [u59, u60] at this
   exact this
  ·rintro L A W K hL hC hW ⟨V, rfl, HV, s0, f63⟩ hK
   have e59 := HV 59 _ rfl (hW 59 rfl)
   have e61 := HV 61 _ rfl (hW 61 rfl)
   have hB := s0
   have H := Lib.hid (show ∀ W', Ext W W' → K (fr (upd V 62 (.agg #[a6, b6, c6]))) W' from fun W' he => hK _ _ ⟨_, rfl, HV.us 62 _ rfl, Ext.trans s0 he, fun h0 => RetWo.ext (f63 (more_ne h0 rfl)) he⟩)
   have HU := Lib.hid (show (upd V 62 (.agg #[a6, b6, c6])) 59 = .bool true ∧ (upd V 62 (.agg #[a6, b6, c6])) 61 = .pointer (some ⟨w6.heap.size, 0, none⟩) from ⟨e59, e61⟩)
   clear hK hC hW hL HV s0 f63
   rw [HFR.out, e59, e61]
   clear e59 e61
   have HRG9 : Hid (W.rangeAt w6.heap.size 0 [a6, b6, c6]) := Lib.hid (fun j x hx => hB.cell (RG7.out j x hx))
   clear hB
   refine wpList_loadWo (by simp [go_sem]) (.tmp 94) rfl w6.heap.size 0 a6 b6 c6 rfl HRG9.out ?_
   show K _ _; have := H.out _ (Ext.refl _); rw [HFR.out] at this
   obtain ⟨u59, u61⟩ := HU.out
   rw [u59, u61] at this
   exact this
  ·rintro L A W K hL hC hW ⟨V, rfl, HV, s0, f63⟩ hK
   have e59 := HV 59 _ rfl (hW 59 rfl)
   have hB := s0
   have H := Lib.hid (show ∀ v W', Ext W W' → (RetWo 0 W' v (richO 5)) → K (fr (upd V 63 v)) W' from fun v W' he hp => hK _ _ ⟨_, rfl, HV.un 63 _ rfl, Ext.trans s0 he, fun h0 => hp⟩)
   have HU := Lib.hid (show ∀ v, (upd V 63 v) 59 = .bool true from fun v => e59)
   clear hK hC hW hL HV s0 f63
   rw [HFR.out, e59]
   clear e59
   clear hB
   go_wp2_with fail
   refine (rich5_any _).mono ?_
   rintro e wx ⟨vx, rfl, ho, he⟩
   have := H.out _ _ he (ho.low (Nat.zero_le _))
   clear H
   go_wp2_with fail
   show K _ _
   rw [HFR.out] at this
   obtain u59 := HU.out _
   rw [u59] at this
   exact this
  ·rintro L A W K hL hC hW ⟨V, rfl, HV, s0, f63⟩ hK
   have e59 := HV 59 _ rfl (hW 59 rfl)
   have e62 := HV 62 _ rfl (hW 62 rfl)
   have hB := s0
   have q63 := f63 (hW 63 rfl)
   obtain ⟨a63, b63, c63, e63, z63⟩ := retWo_shp q63
   have H := Lib.hid (show ∀ W', Ext W W' → K (fr (upd V 64 (.bool true))) W' from fun W' he => hK _ _ ⟨_, rfl, HV.us 64 _ rfl, Ext.trans s0 he, fun h0 => RetWo.ext (f63 (more_ne h0 rfl)) he⟩)
   have HU := Lib.hid (show (upd V 64 (.bool true)) 59 = .bool true ∧ (upd V 64 (.bool true)) 62 = .agg #[a6, b6, c6] ∧ (upd V 64 (.bool true)) 63 = .agg #[a63, b63, c63] from ⟨e59, e62, e63⟩)
   clear hK hC hW hL HV s0 f63
   rw [HFR.out, e59, e62, e63]
   clear e59 e62 e63
   have HB := Lib.hid hB
   have ZZ := Lib.hid z63.wor
   clear hB
   go_wp2_with fail
   refine (wjSame_any _ _ _ _ _ _ _ (HP6.out.1.ext (E7.out.trans HB.out)) ZZ.out).mono ?_
   rintro e wx ⟨rfl, he⟩
   have := H.out _ he
   clear H
   go_wp2_with fail
   show K _ _
   rw [HFR.out] at this
   obtain ⟨u59, u62, u63⟩ := HU.out
   rw [u59, u62, u63] at this
   exact this
  ·rintro L A W K hL hC hW ⟨V, rfl, HV, s0, f63⟩ hK
   have e59 := HV 59 _ rfl (hW 59 rfl)
   have e64 := HV 64 _ rfl (hW 64 rfl)
   have H := Lib.hid (show ∀ W', Ext W W' → K (fr (upd V 65 (.bool true))) W' from fun W' he => hK _ _ ⟨_, rfl, HV.us 65 _ rfl, Ext.trans s0 he, fun h0 => RetWo.ext (f63 (more_ne h0 rfl)) he⟩)
   have HU := Lib.hid (show (upd V 65 (.bool true)) 59 = .bool true ∧ (upd V 65 (.bool true)) 64 = .bool true from ⟨e59, e64⟩)
   clear hK hC hW hL HV s0 f63
   rw [HFR.out, e59, e64]
   clear e59 e64
   go_wp2_with fail
   show K _ _; have := H.out _ (Ext.refl _); rw [HFR.out] at this
   obtain ⟨u59, u64⟩ := HU.out
   rw [u59, u64] at this
   exact this
  ·rintro L A W K hL hC hW ⟨V, rfl, HV, s0, f63⟩ hK
   have e65 := HV 65 _ rfl (hW 65 rfl)
   have H := Lib.hid (show ∀ W', Ext W W' → K (fr (upd V 66 (.bool true))) W' from fun W' he => hK _ _ ⟨_, rfl, HV.us 66 _ rfl, Ext.trans s0 he, fun h0 => RetWo.ext (f63 (more_ne h0 rfl)) he⟩)
   have HU := Lib.hid (show (upd V 66 (.bool true)) 65 = .bool true from e65)
   clear hK hC hW hL HV s0 f63
   rw [HFR.out, e65]
   clear e65
   go_wp2_with fail
   show K _ _; have := H.out _ (Ext.refl _); rw [HFR.out] at this
   obtain u65 := HU.out
   rw [u65] at this
   exact this
  ·rintro L A W hL ⟨V, rfl, HV, s0, f63⟩
   have e0 := HV 0 _ rfl (hL 0 (by simp))
   have e1 := HV 1 _ rfl (hL 1 (by simp))
   have e2 := HV 2 _ rfl (hL 2 (by simp))
   have e3 := HV 3 _ rfl (hL 3 (by simp))
   have e4 := HV 4 _ rfl (hL 4 (by simp))
   have e5 := HV 5 _ rfl (hL 5 (by simp))
   have e6 := HV 6 _ rfl (hL 6 (by simp))
   have e7 := HV 7 _ rfl (hL 7 (by simp))
   have e8 := HV 8 _ rfl (hL 8 (by simp))
   have e9 := HV 9 _ rfl (hL 9 (by simp))
   have e10 := HV 10 _ rfl (hL 10 (by simp))
   have e11 := HV 11 _ rfl (hL 11 (by simp))
   have e12 := HV 12 _ rfl (hL 12 (by simp))
   have e13 := HV 13 _ rfl (hL 13 (by simp))
   have e14 := HV 14 _ rfl (hL 14 (by simp))
   have e15 := HV 15 _ rfl (hL 15 (by simp))
   have e16 := HV 16 _ rfl (hL 16 (by simp))
   have e17 := HV 17 _ rfl (hL 17 (by simp))
   have e18 := HV 18 _ rfl (hL 18 (by simp))
   have e19 := HV 19 _ rfl (hL 19 (by simp))
   have e20 := HV 20 _ rfl (hL 20 (by simp))
   have e21 := HV 21 _ rfl (hL 21 (by simp))
   have e22 := HV 22 _ rfl (hL 22 (by simp))
   have e23 := HV 23 _ rfl (hL 23 (by simp))
   have e24 := HV 24 _ rfl (hL 24 (by simp))
   have e25 := HV 25 _ rfl (hL 25 (by simp))
   have e26 := HV 26 _ rfl (hL 26 (by simp))
   have e27 := HV 27 _ rfl (hL 27 (by simp))
   have e28 := HV 28 _ rfl (hL 28 (by simp))
   have e29 := HV 29 _ rfl (hL 29 (by simp))
   have e30 := HV 30 _ rfl (hL 30 (by simp))
   have e31 := HV 31 _ rfl (hL 31 (by simp))
   have e32 := HV 32 _ rfl (hL 32 (by simp))
   have e33 := HV 33 _ rfl (hL 33 (by simp))
   have e34 := HV 34 _ rfl (hL 34 (by simp))
   have e35 := HV 35 _ rfl (hL 35 (by simp))
   have e36 := HV 36 _ rfl (hL 36 (by simp))
   have e37 := HV 37 _ rfl (hL 37 (by simp))
   have e38 := HV 38 _ rfl (hL 38 (by simp))
   have e39 := HV 39 _ rfl (hL 39 (by simp))
   have e40 := HV 40 _ rfl (hL 40 (by simp))
   have e41 := HV 41 _ rfl (hL 41 (by simp))
   have e42 := HV 42 _ rfl (hL 42 (by simp))
   have e43 := HV 43 _ rfl (hL 43 (by simp))
   have e44 := HV 44 _ rfl (hL 44 (by simp))
   have e45 := HV 45 _ rfl (hL 45 (by simp))
   have e46 := HV 46 _ rfl (hL 46 (by simp))
   have e47 := HV 47 _ rfl (hL 47 (by simp))
   have e48 := HV 48 _ rfl (hL 48 (by simp))
   have e49 := HV 49 _ rfl (hL 49 (by simp))
   have e50 := HV 50 _ rfl (hL 50 (by simp))
   have e51 := HV 51 _ rfl (hL 51 (by simp))
   have e52 := HV 52 _ rfl (hL 52 (by simp))
   have e53 := HV 53 _ rfl (hL 53 (by simp))
   have e54 := HV 54 _ rfl (hL 54 (by simp))
   have e55 := HV 55 _ rfl (hL 55 (by simp))
   have e56 := HV 56 _ rfl (hL 56 (by simp))
   have e57 := HV 57 _ rfl (hL 57 (by simp))
   have e58 := HV 58 _ rfl (hL 58 (by simp))
   have e59 := HV 59 _ rfl (hL 59 (by simp))
   have e60 := HV 60 _ rfl (hL 60 (by simp))
   have e61 := HV 61 _ rfl (hL 61 (by simp))
   have e62 := HV 62 _ rfl (hL 62 (by simp))
   have e64 := HV 64 _ rfl (hL 64 (by simp))
   have e65 := HV 65 _ rfl (hL 65 (by simp))
   have e66 := HV 66 _ rfl (hL 66 (by simp))
   have hA := s0
   have p96 := f63 (hL 63 (by simp))
   rw [HFR.out, e0, e1, e2, e3, e4, e5, e6, e7, e8, e9, e10, e11, e12, e13, e14, e15, e16, e17, e18, e19, e20, e21, e22, e23, e24, e25, e26, e27, e28, e29, e30, e31, e32, e33, e34, e35, e36, e37, e38, e39, e40, e41, e42, e43, e44, e45, e46, e47, e48, e49, e50, e51, e52, e53, e54, e55, e56, e57, e58, e59, e60, e61, e62, e64, e65, e66]
   clear hL HV HFR e0 e1 e2 e3 e4 e5 e6 e7 e8 e9 e10 e11 e12 e13 e14 e15 e16 e17 e18 e19 e20 e21 e22 e23 e24 e25 e26 e27 e28 e29 e30 e31 e32 e33 e34 e35 e36 e37 e38 e39 e40 e41 e42 e43 e44 e45 e46 e47 e48 e49 e50 e51 e52 e53 e54 e55 e56 e57 e58 e59 e60 e61 e62 e64 e65 e66 s0 f63
   have HEW := Lib.hid (HE7.out.trans hA)
   clear hA
   go_wp2_with fail
   refine bodyPost_ret (results_tmp rfl _ _ _) rfl ?_
   exact ⟨rfl, HEW.out⟩
end Go.Proofs.YtnjpdchmdimaaaaGreat
