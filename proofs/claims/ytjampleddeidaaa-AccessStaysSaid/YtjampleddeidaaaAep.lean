/- AccessStays: what comes may be; what is warm stays warm; transient slots hold what was kept last. -/
import Derived.Test.YtjampleddeidaaaAec
import Derived.Test.YtjampleddeidaaaAed
import Derived.Test.YtjampleddeidaaaAei
import Derived.Test.YtjampleddeidaaaAeo
namespace Go.Proofs.Ytjampleddeidaaa
open Go.ChangeShapes Go.WideShapes Go.ChangeAt Go.RowKit Go.Shelf

/-! ### Rows of deeds -/
def DER (cs : List Value) (d : De) : Prop := d.ok ∧ cs = (dec d).toList
def Des (W : World) (v : Value) (l : List De) : Prop := Sl W 10 DER v l
set_option maxRecDepth 100000 in
theorem Des.ext {W W' : World} {v : Value} {l : List De} (h : Des W v l) (he : Ext W W') : Des W' v l := Sl.mono h (fun _ _ hc => he.cell hc) fun _ _ h => h
set_option maxRecDepth 100000 in
theorem Des.len {W : World} {v : Value} {l : List De} (h : Des W v l) : ∃ A c, v = .slice A l.length c ∧ l.length ≤ c ∧ c ≤ maxLen := by
  obtain ⟨A, c, e, h1, h2, _⟩ := h
  exact ⟨A, c, e, h1, h2⟩
def de0 : De := ⟨0, pz0⟩
set_option maxRecDepth 100000 in
theorem Des.at {W : World} {A : Option Addr} {n c : Nat} {l : List De} (h : Des W (.slice A n c) l) (i : Nat) (hi : i < l.length) : ∃ b o, A = some ⟨b, o, none⟩ ∧ W.rangeAt b (o + i * 10) (dec (l.getD i de0)).toList ∧ (l.getD i de0).ok := by
  obtain ⟨A', c', e, _, _, h3⟩ := h
  injection e with e1 e2 e3
  subst e1
  obtain ⟨b, o, rfl, hc⟩ := h3 (by omega)
  obtain ⟨cs, _, ⟨k0, rfl⟩, k3⟩ := hc i _ (List.getElem?_eq_getElem hi)
  have e : l.getD i de0 = l[i] := by simp [List.getD, List.getElem?_eq_getElem hi]
  rw [e]
  exact ⟨b, o, rfl, k3, k0⟩
set_option maxRecDepth 100000 in
theorem deSinfo : (Try.prog.info? 52).map (·.size) = some 10 := by kernel_rfl
set_option maxRecDepth 100000 in
theorem wpList_loadDm {ops : Array Oper} {rest : List Oper} {o : Oper} {a : Act} {w : World} {Q : Exit → Act → World → Prop} (hgd : Region.wanted o (yielded ops a.tmps) = true) (x : Operand) (ho : o.op = .load 52 x)
    (g k : Nat) (d : De) (hx : a.eval x = .pointer (some ⟨g, k, none⟩)) (hg : w.rangeAt g k (dec d).toList) (h : wpList Try.prog ops Q rest (a.put o.dst (.agg (dec d))) w) : wpList Try.prog ops Q (o :: rest) a w := by
  refine wpList_step fun K hK => ?_
  rw [if_pos hgd]
  refine wp_load_mid 52 x ho g k hx (dec d).toList _ hg Try.underlying52 rfl deSinfo ?_
  exact hK _ _ h
set_option maxRecDepth 100000 in
theorem wpList_storeDm {ops : Array Oper} {rest : List Oper} {o : Oper} {a : Act} {w : World} {Q : Exit → Act → World → Prop} (hgd : o.guard = none) (hd : o.dst = none) (x y : Operand) (ho : o.op = .store 52 x y)
    (g : Nat) (p q : De) (hx : a.eval x = .pointer (some ⟨g, 0, none⟩)) (hy : a.eval y = .agg (dec q)) (hg : Cs w g 52 (dec p))
    (h : ∀ w', Cs w' g 52 (dec q) → w.grownBy w' (some g) → wpList Try.prog ops Q rest a w') : wpList Try.prog ops Q (o :: rest) a w := by
  have h' : ∀ w', Cs w' g 52 (dec q) → w.grownBy w' (some g) → wpList Try.prog ops Q rest (a.put o.dst undef) w' := by rw [hd]; exact h
  refine wpList_store_row hgd 52 x y ho g (dec q) hx hy 52 (dec p) hg deSinfo rfl (dec_one q) (h' _ ?_ ?_)
  · exact setRow_heap w g _ _ 52 (0, 0) hg
  · exact ⟨rfl, rfl, rfl, by simp [World.setRow], fun k _ hk => setRow_other w g k _ (fun e => hk (by simp [e]))⟩
/-- The access that goes on: as it came in, or of the call's own. -/
def XvJ (w W : World) (a s p : Value) (x : Ax) : Prop := AxR w a s p x ∨ RetX w.heap.size W (.agg #[a, s, p]) x
set_option maxRecDepth 100000 in
theorem RetX.rowsS {lo : Nat} {W : World} {a s p : Value} {x : Ax} (h : RetX lo W (.agg #[a, s, p]) x) : AxR W a s p x := by
  obtain ⟨a', s', p', e, hx, _, _, _⟩ := h.ax
  injection e with e
  have e := congrArg Array.toList e
  simp only at e
  injection e with e1 e
  injection e with e2 e
  injection e with e3 _
  subst e1 e2 e3
  exact hx
set_option maxRecDepth 100000 in
theorem XvJ.rows {w W : World} {a s p : Value} {x : Ax} (h : XvJ w W a s p x) (he : Ext w W) : AxR W a s p x := h.elim (fun h => h.ext he) (fun h => h.rowsS)
/-- What lies there while deeds are done one by one. -/
def StJ (w : World) (g3 g5 : Nat) (a s p : Value) (x : Ax) (q : Pe) (W : World) : Prop := Ext w W ∧ Cs W g3 26 #[a, s, p] ∧ XvJ w W a s p x ∧ Cs W g5 32 (cS q)
set_option maxRecDepth 100000 in
theorem StJ.ext {w : World} {g3 g5 : Nat} {a s p : Value} {x : Ax} {q : Pe} {W W' : World} (h : StJ w g3 g5 a s p x q W) (he : Ext W W') : StJ w g3 g5 a s p x q W' := ⟨h.1.trans he, Cs.ext h.2.1 he, h.2.2.1.elim .inl (fun h => .inr (h.ext he)), Cs.ext h.2.2.2 he⟩
set_option maxRecDepth 100000 in
theorem AxR.one {W : World} {a s p : Value} {x : Ax} (h : AxR W a s p x) : a.oneCell' = true ∧ s.oneCell' = true ∧ p.oneCell' = true := by
  obtain ⟨A1, c1, e1, _, _⟩ := h.1.len
  obtain ⟨A2, c2, e2, _, _⟩ := h.2.1.len
  obtain ⟨A3, c3, e3, _, _⟩ := h.2.2.len
  subst e1 e2 e3
  exact ⟨rfl, rfl, rfl⟩
set_option maxRecDepth 100000 in
theorem S20.ext {wz W W' : World} {g3 g9 g5 g14 : Nat} {c1 c2 c3 c4 : Array Value} (h : Cs W g3 26 c1 ∧ Cs W g9 26 c2 ∧ Cs W g5 32 c3 ∧ Cs W g14 26 c4 ∧ Ext wz W) (he : Ext W W') : Cs W' g3 26 c1 ∧ Cs W' g9 26 c2 ∧ Cs W' g5 32 c3 ∧ Cs W' g14 26 c4 ∧ Ext wz W' := ⟨Cs.ext h.1 he, Cs.ext h.2.1 he, Cs.ext h.2.2.1 he, Cs.ext h.2.2.2.1 he, h.2.2.2.2.trans he⟩
set_option maxRecDepth 100000 in
theorem S22.ext {wz W W' : World} {g3 g9 g5 g8 : Nat} {c1 c2 c3 c4 : Array Value} (h : Cs W g3 26 c1 ∧ Cs W g9 26 c2 ∧ Cs W g5 32 c3 ∧ Cs W g8 52 c4 ∧ Ext wz W) (he : Ext W W') : Cs W' g3 26 c1 ∧ Cs W' g9 26 c2 ∧ Cs W' g5 32 c3 ∧ Cs W' g8 52 c4 ∧ Ext wz W' := ⟨Cs.ext h.1 he, Cs.ext h.2.1 he, Cs.ext h.2.2.1 he, Cs.ext h.2.2.2.1 he, h.2.2.2.2.trans he⟩
set_option maxRecDepth 100000 in
theorem cod_ne {p q : Pe} (hp : okS p) (hq : okS q) (h : p.eqS q = false) : p.cod ≠ q.cod := fun e => by
  rw [eqS_cod hp.2.1 hq.2.1, decide_eq_true e] at h
  cases h
set_option maxRecDepth 100000 in
/-- What region 24 leaves: the next access lies in the block. -/
theorem StJ.next {w : World} {g3 g5 : Nat} {a s p a' s' p' : Value} {x y : Ax} {q : Pe} {W W' : World} (h : StJ w g3 g5 a s p x q W) (hn : RetX w.heap.size W (.agg #[a', s', p']) y) (hc : Cs W' g3 26 #[a', s', p']) (hg : W.grownBy W' (some g3)) (hw : w.heap.size ≤ g3) (hne : g5 ≠ g3) : StJ w g3 g5 a' s' p' y q W' :=
  ⟨h.1.grown hg hw, hc, .inr (hn.kept hg h.2.1), Cs.kept h.2.2.2 hg (fun e => hne (by injection e))⟩
set_option maxRecDepth 100000 in
set_option maxHeartbeats 32000000 in
theorem accessStays_any (va vs vp dv : Value) (x0 : Ax) (l : List De) (q : Pe) (w : World) (hx : AxR w va vs vp x0) (hd : Des w dv l) (hq : okS q) : Calls Try.prog 6 #[.agg #[va, vs, vp], dv, .agg (cS q)] w (RetT w) := by
  have HX := Lib.hid hx
  have HDS := Lib.hid hd
  have HQ := Lib.hid hq
  obtain ⟨A1, c1, rfl, _, _⟩ := hx.1.len
  obtain ⟨A2, c2, rfl, _, _⟩ := hx.2.1.len
  obtain ⟨A3, c3, rfl, _, _⟩ := hx.2.2.len
  obtain ⟨A4, c4, rfl, hl1, hl2⟩ := hd.len
  unfold maxLen at hl2
  obtain ⟨w0, hw0⟩ : ∃ w0, (w.alloc (.cells #[.slice A1 x0.a.length c1, .slice A2 x0.s.length c2, .slice A3 x0.p.length c3] 26)).alloc (.cells (cS q) 32) = w0 := ⟨_, rfl⟩
  have HW0 := Lib.hid hw0
  have HJ : Hid (StJ w w.heap.size (w.heap.size + 1) (.slice A1 x0.a.length c1) (.slice A2 x0.s.length c2) (.slice A3 x0.p.length c3) x0 q w0) := Lib.hid ⟨by rw [← hw0]; exact ((Ext.refl w).alloc _).alloc _, by rw [← hw0]; exact Cs.alloc (Cs.new _ _ _ _ rfl) _, .inl hx, by rw [← hw0]; exact Cs.new _ _ _ _ (by simp)⟩
  have HN := Lib.hid (show w.heap.size ≤ w.heap.size ∧ w.heap.size + 1 ≠ w.heap.size by omega)
  obtain ⟨qc, hqc⟩ : ∃ qc, cS q = qc := ⟨_, rfl⟩
  rw [hqc] at HW0 ⊢
  clear hx hd hq hw0 hqc
  go_enter Try.func6, Try.ntmps6
  go_upto_region 1 with fail
  rw [HW0.out]
  clear HW0
  obtain ⟨g3, hg3⟩ : ∃ g, w.heap.size = g := ⟨_, rfl⟩
  obtain ⟨g5, hg5⟩ : ∃ g, w.heap.size + 1 = g := ⟨_, rfl⟩
  have HN : Hid (w.heap.size ≤ g3 ∧ g5 ≠ g3) := Lib.hid (by rw [← hg3, ← hg5]; exact HN.out)
  have HJ : Hid (StJ w g3 g5 (.slice A1 x0.a.length c1) (.slice A2 x0.s.length c2) (.slice A3 x0.p.length c3) x0 q w0) := Lib.hid (by rw [← hg3, ← hg5]; exact HJ.out)
  rw [hg5, hg3]
  clear hg3 hg5
  go_wp2_with fail
  refine (wakesX_any _).mono ?_
  rintro e w1 ⟨rfl, he⟩
  have HJ := Lib.hid (HJ.out.ext he)
  have G3 : Hid (Cs w1 g3 26 #[.slice A1 x0.a.length c1, .slice A2 x0.s.length c2, .slice A3 x0.p.length c3]) := Lib.hid HJ.out.2.1
  clear he
  go_wp2_with ((with_reducible refine wpList_loadX ?_ (.tmp 3) ?_ g3 (.slice A1 x0.a.length c1) (.slice A2 x0.s.length c2) (.slice A3 x0.p.length c3) ?_ G3.out ?_); (exact rfl); (exact rfl); (exact rfl))
  refine (overX_any _ _ _ x0 _ (HX.out.ext HJ.out.1)).mono ?_
  rintro e w2 ⟨rfl, he⟩
  have HJ := Lib.hid (HJ.out.ext he)
  have G3 : Hid (Cs w2 g3 26 #[.slice A1 x0.a.length c1, .slice A2 x0.s.length c2, .slice A3 x0.p.length c3]) := Lib.hid HJ.out.2.1
  have HE := Lib.hid HJ.out.1
  clear he
  cases hov : overX x0 with
  | true =>
    go_wp2_with fail
    refine bodyPost_ret (results_tmp rfl _ _ _) rfl ?_
    exact ⟨rfl, HE.out⟩
  | false =>
    clear hov
    by_cases hl : 50 < l.length
    · have d1 : decide ((50 : Int) < (l.length : Int)) = true := decide_eq_true (by omega)
      clear hl
      go_wp2_with fail
      refine bodyPost_ret (results_tmp rfl _ _ _) rfl ?_
      exact ⟨rfl, HE.out⟩
    have d1 : decide ((50 : Int) < (l.length : Int)) = false := decide_eq_false (by omega)
    clear hl
    go_wp2_with ((with_reducible refine wpList_loadX ?_ (.tmp 3) ?_ g3 (.slice A1 x0.a.length c1) (.slice A2 x0.s.length c2) (.slice A3 x0.p.length c3) ?_ G3.out ?_); (exact rfl); (exact rfl); (exact rfl))
    refine (checkX_any _ _ _ x0 _ (HX.out.ext HJ.out.1)).mono ?_
    rintro e w3 ⟨rfl, he⟩
    have HJ := Lib.hid (HJ.out.ext he)
    have HE := Lib.hid HJ.out.1
    clear he G3
    cases hr : rightX x0 with
    | false =>
      have HK : Hid (chkX x0 = 190) := Lib.hid (by unfold chkX; rw [hr]; rfl)
      rw [HK.out]
      go_wp2_with fail
      refine bodyPost_ret (results_tmp rfl _ _ _) rfl ?_
      exact ⟨rfl, HE.out⟩
    | true =>
      have HK : Hid (chkX x0 = 0) := Lib.hid (by unfold chkX; rw [hr]; rfl)
      have HRX0 := Lib.hid hr
      rw [HK.out]
      clear hr HK HE d1
      have HJ0 := HJ
      clear HJ
      go_wp2_with fail
      go_loopw [33] (fun iv wr => ∃ (i : Nat) (xa xs xp : Value) (x : Ax), i ≤ l.length ∧ iv = .int .i64 i ∧ Hid (rightX x = true) ∧ Hid (StJ w g3 g5 xa xs xp x q wr)) (fun iv _ => l.length - (intOf iv).toNat)
      case atStart => exact ⟨0, _, _, _, x0, Nat.zero_le _, rfl, HRX0, HJ0⟩
      case round =>
        obtain ⟨i, xa, xs, xp, x, hi, rfl, HRX, HJ⟩ := hrel
        clear HJ0
        have G3 : Hid (Cs wr g3 26 #[xa, xs, xp]) := Lib.hid HJ.out.2.1
        by_cases hlt : i < l.length
        case neg =>
          obtain rfl : i = l.length := by omega
          have hd : decide (l.length < l.length) = false := decide_eq_false (by omega)
          have hd2 : decide ((l.length : Int) < (l.length : Int)) = false := decide_eq_false (by omega)
          have HE := Lib.hid HJ.out.1
          go_wp2_with fail
          refine bodyPost_ret (results_tmp rfl _ _ _) rfl ?_
          exact ⟨rfl, HE.out⟩
        obtain ⟨XS, cxs, rfl, hxs1, hxs2⟩ := (HJ.out.2.2.1.rows HJ.out.1).2.1.len
        unfold maxLen at hxs2
        have hd : decide (i < l.length) = true := decide_eq_true hlt
        have hd2 : decide ((i : Int) < (l.length : Int)) = true := decide_eq_true (by omega)
        obtain ⟨bb, oo, rfl, hrg, hok⟩ := (HDS.out.ext HJ.out.1).at i hlt
        have HR := Lib.hid hrg
        have HD := Lib.hid hok
        clear hrg hok
        generalize l.getD i de0 = d at *
        go_wp2_with (first
          | ((with_reducible refine wpList_loadDm ?_ (.tmp 35) ?_ bb (oo + i * 10) d ?_ ?_ ?_); (exact rfl); (exact rfl); (exact rfl); (exact HR.out))
          | ((with_reducible refine wpList_storeDm ?_ ?_ (.tmp 8) (.tmp 36) ?_ wr.heap.size de0 d ?_ ?_ ?_ ?_); (exact rfl); (exact rfl); (exact rfl); (exact rfl); (exact rfl); (exact Cs.new _ _ _ _ rfl); intro w2 k2 g2; have G8 := Lib.hid k2; have E2 := Lib.hid (((Ext.refl wr).alloc _).grown g2 (Nat.le_refl _)); have HJ := Lib.hid (HJ.out.ext E2.out); have G3 := Lib.hid (Cs.ext G3.out E2.out); have R8 := Lib.hid (Cs.rg k2); clear k2 g2)
          | ((with_reducible refine wpList_loadDm ?_ (.tmp 8) ?_ wr.heap.size 0 d ?_ ?_ ?_); (exact rfl); (exact rfl); (exact rfl); (exact R8.out))
          | ((with_reducible refine wpList_loadX ?_ (.tmp 3) ?_ g3 xa (.slice XS x.s.length cxs) xp ?_ G3.out ?_); (exact rfl); (exact rfl); (exact rfl)))
        refine (does_any d _ _ _ x _ HD.out (HJ.out.2.2.1.rows HJ.out.1)).mono ?_
        rintro e w3 ⟨v3, rfl, hr, he⟩
        have HB3 := Lib.hid HJ.out.1.size
        have HJ := Lib.hid (HJ.out.ext he)
        have G3 := Lib.hid (Cs.ext G3.out he)
        have G8 := Lib.hid (Cs.ext G8.out he)
        obtain ⟨na, ns, np, rfl, hnr, y1, y2, y3⟩ := hr.ax
        have HRN := Lib.hid (hr.low HB3.out)
        have Z1 := Lib.hid y1
        have Z2 := Lib.hid y2
        have Z3 := Lib.hid y3
        clear hr he hnr y1 y2 y3 R8 E2
        obtain ⟨g8, hg8⟩ : ∃ g, wr.heap.size = g := ⟨_, rfl⟩
        rw [hg8] at G8 ⊢
        clear hg8
        by_cases h0 : (doX x d).2.2 = 0
        case neg =>
          have f1 : ((doX x d).2.2 != 0) = true := by rw [bne_iff_ne]; exact h0
          have f2 : ((doX x d).2.2 == 0) = false := by rw [beq_eq_false_iff_ne]; exact h0
          clear h0
          go_wp2_with ((with_reducible refine wpList_storeX ?_ ?_ (.tmp 9) (.tmp 41) ?_ w3.heap.size (.slice none 0 0) (.slice none 0 0) (.slice none 0 0) na ns np ?_ ?_ Z1.out Z2.out Z3.out (Cs.new _ _ _ _ rfl) ?_); (exact rfl); (exact rfl); (exact rfl); (exact rfl); (exact rfl); intro w4 k4 g4; have E4 := Lib.hid (((Ext.refl w3).alloc _).grown g4 (Nat.le_refl _)); have HJ := Lib.hid (HJ.out.ext E4.out); clear k4 g4)
          exact ⟨⟨i + 1, xa, _, xp, x, by omega, by go_num, HRX, HJ⟩, by simp [intOf]; omega⟩
        have f1 : ((doX x d).2.2 != 0) = false := by rw [h0]; rfl
        have HRR := Lib.hid (do_right h0)
        have HCK : Hid (chkX (doX x d).1 = 0) := Lib.hid (by unfold chkX; rw [HRR.out]; rfl)
        have HWM := Lib.hid (fun (h : warmX x ⟨q.addr, 0, 0⟩ = true) => do_warm h0 h)
        have HSP := Lib.hid (fun y hy => do_spots HD.out (fun p hp => (HJ.out.2.2.1.rows HJ.out.1).2.1.oks p hp) h0 (y := y) hy)
        have HAG := Lib.hid (fun h => do_again h0 h)
        have HLS := Lib.hid (fun h => do_load h0 h q)
        have HKP := Lib.hid (fun h => do_kept h0 h)
        have HOT := Lib.hid (fun h h' => do_others h0 h (q := q) h')
        have H0 := Lib.hid h0
        clear h0
        go_wp2_with (first
          | ((with_reducible refine wpList_storeX ?_ ?_ (.tmp 9) (.tmp 41) ?_ w3.heap.size (.slice none 0 0) (.slice none 0 0) (.slice none 0 0) na ns np ?_ ?_ Z1.out Z2.out Z3.out (Cs.new _ _ _ _ rfl) ?_); (exact rfl); (exact rfl); (exact rfl); (exact rfl); (exact rfl); intro w4 k4 g4; have E4 := Lib.hid (((Ext.refl w3).alloc _).grown g4 (Nat.le_refl _)); have HJ := Lib.hid (HJ.out.ext E4.out); have G9 := Lib.hid k4; have G3 := Lib.hid (Cs.ext G3.out E4.out); have G8 := Lib.hid (Cs.ext G8.out E4.out); have HRN := Lib.hid (HRN.out.ext E4.out); clear k4 g4)
          | ((with_reducible refine wpList_loadX ?_ (.tmp 9) ?_ w3.heap.size na ns np ?_ G9.out ?_); (exact rfl); (exact rfl); (exact rfl)))
        refine (checkX_any _ _ _ (doX x d).1 _ HRN.out.rowsS).mono ?_
        rintro e w5 ⟨rfl, he⟩
        rw [HCK.out]
        have HJ := Lib.hid (HJ.out.ext he)
        have G3 := Lib.hid (Cs.ext G3.out he)
        have G8 := Lib.hid (Cs.ext G8.out he)
        have G9 := Lib.hid (Cs.ext G9.out he)
        have HRN := Lib.hid (HRN.out.ext he)
        have q50 : w5.cell? ⟨g5, 0, none⟩ = some (.int .u64 (q.addr : Nat)) := HJ.out.2.2.2.cell 0 _ rfl
        clear he
        obtain ⟨g9, hg9⟩ : ∃ g, w3.heap.size = g := ⟨_, rfl⟩
        rw [hg9] at G9 ⊢
        clear hg9
        go_wp2_with ((with_reducible refine wpList_loadX ?_ (.tmp 3) ?_ g3 xa (.slice XS x.s.length cxs) xp ?_ G3.out ?_); (exact rfl); (exact rfl); (exact rfl))
        refine (warmX_any _ _ _ x ⟨q.addr, 0, 0⟩ _ (HJ.out.2.2.1.rows HJ.out.1) ⟨HQ.out.1, rfl, rfl⟩).mono ?_
        rintro e wy ⟨rfl, he⟩
        have HJ := Lib.hid (HJ.out.ext he)
        have G3 := Lib.hid (Cs.ext G3.out he)
        have G8 := Lib.hid (Cs.ext G8.out he)
        have G9 := Lib.hid (Cs.ext G9.out he)
        have HRN := Lib.hid (HRN.out.ext he)
        clear he q50
        cases hwx : warmX x ⟨q.addr, 0, 0⟩ with
        | false =>
          clear hwx
          have q31 : wy.cell? ⟨g3, 1, none⟩ = some (.slice XS x.s.length cxs) := G3.out.cell 1 _ rfl
          go_wp2_with fail
          clear q31
          go_loopw [65] (fun jv wr => ∃ j : Nat, j ≤ x.s.length ∧ jv = .int .i64 j ∧ Hid (Ext wy wr)) (fun jv _ => x.s.length - (intOf jv).toNat)
          case atStart => exact ⟨0, Nat.zero_le _, rfl, Lib.hid (Ext.refl _)⟩
          case round =>
            obtain ⟨j, hj, rfl, HZ⟩ := hrel
            have HJ := Lib.hid (HJ.out.ext HZ.out)
            have G3 := Lib.hid (Cs.ext G3.out HZ.out)
            have G8 := Lib.hid (Cs.ext G8.out HZ.out)
            have G9 := Lib.hid (Cs.ext G9.out HZ.out)
            have HRN := Lib.hid (HRN.out.ext HZ.out)
            by_cases hjl : j < x.s.length
            · have hd5 : decide (j < x.s.length) = true := decide_eq_true hjl
              have hd6 : decide ((j : Int) < (x.s.length : Int)) = true := decide_eq_true (by omega)
              obtain ⟨b2, o2, rfl, hrg, hok⟩ := (HJ.out.2.2.1.rows HJ.out.1).2.1.at j hjl
              have HR2 := Lib.hid hrg
              have HO2 := Lib.hid hok
              have HM := Lib.hid (HSP.out _ (getX_mem hjl))
              clear hrg hok
              generalize x.s.getD j pz0 = y at *
              go_wp2_with (first
                | ((with_reducible refine wpList_loadS ?_ (.tmp 67) ?_ b2 (o2 + j * 5) y ?_ ?_ ?_); (exact rfl); (exact rfl); (exact rfl); (exact HR2.out))
                | ((with_reducible refine wpList_storeS ?_ ?_ (.tmp 13) (.tmp 68) ?_ wr.heap.size pz0 y ?_ ?_ ?_ ?_); (exact rfl); (exact rfl); (exact rfl); (exact rfl); (exact rfl); (exact Cs.new _ _ _ _ rfl); intro wb kb gb; have EB := Lib.hid (((Ext.refl wr).alloc _).grown gb (Nat.le_refl _)); have RB := Lib.hid (Cs.rg kb); have q91 : wb.cell? ⟨g9, 1, none⟩ = some ns := (Cs.ext G9.out EB.out).cell 1 _ rfl; clear kb gb)
                | ((with_reducible refine wpList_loadS ?_ (.tmp 13) ?_ wr.heap.size 0 y ?_ ?_ ?_); (exact rfl); (exact rfl); (exact rfl); (exact RB.out)))
              refine (containsS_any ns (doX x d).1.s y _ (HRN.out.ext EB.out).rowsS.2.1 HO2.out).mono ?_
              rintro e wq ⟨rfl, he⟩
              rw [decide_eq_true HM.out]
              have HZQ := Lib.hid ((HZ.out.trans EB.out).trans he)
              clear he q91
              go_wp2_with fail
              exact ⟨⟨j + 1, by omega, by go_num, HZQ⟩, by simp [intOf]; omega⟩
            · obtain rfl : j = x.s.length := by omega
              have hd5 : decide (x.s.length < x.s.length) = false := decide_eq_false (by omega)
              have hd6 : decide ((x.s.length : Int) < (x.s.length : Int)) = false := decide_eq_false (by omega)
              have q80 : wr.cell? ⟨g8, 0, none⟩ = some (.int .i64 d.kind) := G8.out.cell 0 _ rfl
              obtain ⟨lq, hlq⟩ : ∃ n, loadX x q = n := ⟨_, rfl⟩
              have HLQ := Lib.hid hlq
              have HLV := Lib.hid (show lq < M256 by rw [← hlq]; exact load_val (HJ.out.2.2.1.rows HJ.out.1).2.2.oks q)
              clear hlq
              by_cases hk : kdE d = 2
              case neg =>
                have fk : decide ((IntKind.u64.wrap d.kind).tmod 3 < 2) = true := decide_eq_true (by
                  rcases kdE_cases d with h | h | h
                  · rw [show (IntKind.u64.wrap d.kind).tmod 3 = kdE d from rfl, h]; decide
                  · rw [show (IntKind.u64.wrap d.kind).tmod 3 = kdE d from rfl, h]; decide
                  · exact absurd h hk)
                have HAG := Lib.hid (HAG.out hk)
                have HLS := Lib.hid ((HLS.out hk).trans HLQ.out)
                have R8 := Lib.hid (Cs.rg G8.out)
                clear hk
                go_wp2_with (first
                  | ((with_reducible refine wpList_loadDm ?_ (.tmp 8) ?_ g8 0 d ?_ ?_ ?_); (exact rfl); (exact rfl); (exact rfl); (exact R8.out))
                  | ((with_reducible refine wpList_loadX ?_ (.tmp 9) ?_ g9 na ns np ?_ G9.out ?_); (exact rfl); (exact rfl); (exact rfl)))
                refine (does_any d _ _ _ (doX x d).1 _ HD.out HRN.out.rowsS).mono ?_
                rintro e wk ⟨vk, rfl, hr, he⟩
                rw [HAG.out] at hr ⊢
                dsimp only at hr ⊢
                have HJ := Lib.hid (HJ.out.ext he)
                have G3 := Lib.hid (Cs.ext G3.out he)
                have G8 := Lib.hid (Cs.ext G8.out he)
                have G9 := Lib.hid (Cs.ext G9.out he)
                have HRN := Lib.hid (HRN.out.ext he)
                obtain ⟨ga, gs, gp, rfl, hgr, y1, y2, y3⟩ := hr.ax
                have HGR := Lib.hid hgr
                have V1 := Lib.hid y1
                have V2 := Lib.hid y2
                have V3 := Lib.hid y3
                clear hr he hgr y1 y2 y3 q80
                go_upto_region 20 with ((with_reducible refine wpList_storeX ?_ ?_ (.tmp 14) (.tmp 84) ?_ wk.heap.size (.slice none 0 0) (.slice none 0 0) (.slice none 0 0) ga gs gp ?_ ?_ V1.out V2.out V3.out (Cs.new _ _ _ _ rfl) ?_); (exact rfl); (exact rfl); (exact rfl); (exact rfl); (exact rfl); intro wz kz gz; have EZ := Lib.hid (((Ext.refl wk).alloc _).grown gz (Nat.le_refl _)); have G14 := Lib.hid kz; clear kz gz)
                have HJ := Lib.hid (HJ.out.ext EZ.out)
                have G3 := Lib.hid (Cs.ext G3.out EZ.out)
                have G8 := Lib.hid (Cs.ext G8.out EZ.out)
                have G9 := Lib.hid (Cs.ext G9.out EZ.out)
                have HRN := Lib.hid (HRN.out.ext EZ.out)
                have HGR := Lib.hid (HGR.out.ext EZ.out)
                obtain ⟨g14, hg14⟩ : ∃ g, wk.heap.size = g := ⟨_, rfl⟩
                rw [hg14] at G14 ⊢
                clear hg14
                have HSM := Lib.hid (fun W (h : Ext wz W) => show Calls Try.prog 12 #[.agg #[ga, gs, gp], .agg #[na, ns, np]] W (fun e w' => e = .returned (.bool true) ∧ Ext W w') from by have := sameX_any ga gs gp na ns np _ _ W (HGR.out.ext h) (HRN.out.ext h).rowsS; rwa [sameX_iff.2 rfl] at this)
                have HLN := Lib.hid (fun W (h : Ext wz W) => show Calls Try.prog 15 #[.agg #[na, ns, np], .agg (cS q)] W (fun e w' => e = .returned (wv lq) ∧ Ext W w') from by have := loadX_any na ns np _ q W (HRN.out.ext h).rowsS HQ.out; rwa [HLS.out] at this)
                have HLX := Lib.hid (fun W (h : Ext wz W) => show Calls Try.prog 15 #[.agg #[xa, .slice XS x.s.length cxs, xp], .agg (cS q)] W (fun e w' => e = .returned (wv lq) ∧ Ext W w') from by have := loadX_any _ _ _ x q W ((HJ.out.2.2.1.rows HJ.out.1).ext h) HQ.out; rwa [HLQ.out] at this)
                have G5 : Hid (Cs wz g5 32 (cS q)) := Lib.hid HJ.out.2.2.2
                refine wp_named fun a0 ha0 => ?_
                obtain ⟨fr, hfr⟩ : ∃ fr : (Nat → Value) → Act, ∀ V, fr V = ((((((((((((((((((((a0.put (some 87) (V 0)).put (some 88) (V 1)).put (some 89) (V 2)).put (some 90) (V 3)).put (some 91) (V 4)).put (some 92) (V 5)).put (some 93) (V 6)).put (some 94) (V 7)).put (some 95) (V 8)).put (some 96) (V 9)).put (some 97) (V 10)).put (some 98) (V 11)).put (some 99) (V 12)).put (some 100) (V 13)).put (some 101) (V 14)).put (some 102) (V 15)).put (some 103) (V 16)).put (some 104) (V 17)).put (some 105) (V 18)).put (some 106) (V 19)) := ⟨fun V => ((((((((((((((((((((a0.put (some 87) (V 0)).put (some 88) (V 1)).put (some 89) (V 2)).put (some 90) (V 3)).put (some 91) (V 4)).put (some 92) (V 5)).put (some 93) (V 6)).put (some 94) (V 7)).put (some 95) (V 8)).put (some 96) (V 9)).put (some 97) (V 10)).put (some 98) (V 11)).put (some 99) (V 12)).put (some 100) (V 13)).put (some 101) (V 14)).put (some 102) (V 15)).put (some 103) (V 16)).put (some 104) (V 17)).put (some 105) (V 18)).put (some 106) (V 19)), fun _ => rfl⟩
                rw [ha0] at hfr
                simp only [Act.put, List.setIfInBounds_toArray, List.set_cons_zero, List.set_cons_succ] at hfr
                have HFR := Lib.hid hfr
                clear hfr
                refine wp_region_inv (by kernel_rfl) (by kernel_rfl) (fun L A W => ∃ V : Nat → Value, A = fr V ∧ Vals (fun j => ([some (.bool false), some (.bool false), some (.int .i64 0), some (.bool false), some (.bool false), some (.bool false), some (.agg #[ga, gs, gp]), some (.agg #[na, ns, np]), some (.bool true), some (.bool false), some (.bool false), some (.bool false), some (.agg #[na, ns, np]), some (.agg (cS q)), some (wv lq), some (.agg #[xa, .slice XS x.s.length cxs, xp]), some (.agg (cS q)), some (wv lq), some (.bool false), some (.bool false)] : List (Option Value)).getD j none) L V ∧ (Cs W g3 26 #[xa, .slice XS x.s.length cxs, xp] ∧ Cs W g9 26 #[na, ns, np] ∧ Cs W g5 32 (cS q) ∧ Cs W g14 26 #[ga, gs, gp] ∧ Ext wz W)) ?_ ⟨?_, ?_, ?_, ?_, ?_, ?_, ?_, ?_, ?_, ?_, ?_, ?_, ?_, ?_, ?_, ?_, ?_, ?_, ?_, ?_, trivial⟩ ?_
                · refine ⟨fun j => a0.tmps.getD (([87, 88, 89, 90, 91, 92, 93, 94, 95, 96, 97, 98, 99, 100, 101, 102, 103, 104, 105, 106] : List Nat).getD j 0) undef, ?_, Vals.no _ _ _ (far_none _ _ rfl), ⟨Cs.ext G3.out (Ext.refl _).drew, Cs.ext G9.out (Ext.refl _).drew, Cs.ext G5.out (Ext.refl _).drew, Cs.ext G14.out (Ext.refl _).drew, (Ext.refl _).drew⟩⟩
                  rw [HFR.out, ha0]
                  rfl
                all_goals clear ha0
                · rintro L A W K hL hC hW ⟨V, rfl, HV, s0⟩ hK
                  have H := Lib.hid (show ∀ W', Ext W W' → K (fr (upd V 0 (.bool false))) W' from fun W' he => hK _ _ ⟨upd V 0 (.bool false), rfl, HV.up 0 _ (fun x hx => Option.some.inj hx), S20.ext s0 he⟩)
                  clear hK hC hW hL HV s0
                  rw [HFR.out]
                  go_wp2_with fail
                  show K _ _
                  have := H.out _ (Ext.refl _)
                  rw [HFR.out] at this
                  exact this
                · rintro L A W K hL hC hW ⟨V, rfl, HV, s0⟩ hK
                  have e0 : V 0 = .bool false := HV 0 _ rfl (hW 0 rfl)
                  have H := Lib.hid (show ∀ W', Ext W W' → K (fr (upd V 1 (.bool false))) W' from fun W' he => hK _ _ ⟨upd V 1 (.bool false), rfl, HV.up 1 _ (fun x hx => Option.some.inj hx), S20.ext s0 he⟩)
                  have HU := Lib.hid (show (upd V 1 (.bool false)) 0 = .bool false from e0)
                  clear hK hC hW hL HV s0
                  rw [HFR.out]
                  rw [e0]
                  clear e0
                  go_wp2_with fail
                  show K _ _
                  have := H.out _ (Ext.refl _)
                  rw [HFR.out] at this
                  obtain u0 := HU.out
                  rw [u0] at this
                  exact this
                · rintro L A W K hL hC hW ⟨V, rfl, HV, s0⟩ hK
                  have e1 : V 1 = .bool false := HV 1 _ rfl (hW 1 rfl)
                  have H := Lib.hid (show ∀ W', Ext W W' → K (fr (upd V 2 (.int .i64 0))) W' from fun W' he => hK _ _ ⟨upd V 2 (.int .i64 0), rfl, HV.up 2 _ (fun x hx => Option.some.inj hx), S20.ext s0 he⟩)
                  have HU := Lib.hid (show (upd V 2 (.int .i64 0)) 1 = .bool false from e1)
                  clear hK hC hW hL HV s0
                  rw [HFR.out]
                  rw [e1]
                  clear e1
                  go_wp2_with fail
                  show K _ _
                  have := H.out _ (Ext.refl _)
                  rw [HFR.out] at this
                  obtain u1 := HU.out
                  rw [u1] at this
                  exact this
                · rintro L A W K hL hC hW ⟨V, rfl, HV, s0⟩ hK
                  have e1 : V 1 = .bool false := HV 1 _ rfl (hW 1 rfl)
                  have e2 : V 2 = .int .i64 0 := HV 2 _ rfl (hW 2 rfl)
                  have H := Lib.hid (show ∀ W', Ext W W' → K (fr (upd V 3 (.bool false))) W' from fun W' he => hK _ _ ⟨upd V 3 (.bool false), rfl, HV.up 3 _ (fun x hx => Option.some.inj hx), S20.ext s0 he⟩)
                  have HU := Lib.hid (show (upd V 3 (.bool false)) 1 = .bool false ∧ (upd V 3 (.bool false)) 2 = .int .i64 0 from ⟨e1, e2⟩)
                  clear hK hC hW hL HV s0
                  rw [HFR.out]
                  rw [e1, e2]
                  clear e1 e2
                  go_wp2_with fail
                  show K _ _
                  have := H.out _ (Ext.refl _)
                  rw [HFR.out] at this
                  obtain ⟨u1, u2⟩ := HU.out
                  rw [u1, u2] at this
                  exact this
                · rintro L A W K hL hC hW ⟨V, rfl, HV, s0⟩ hK
                  have e1 : V 1 = .bool false := HV 1 _ rfl (hW 1 rfl)
                  have e3 : V 3 = .bool false := HV 3 _ rfl (hW 3 rfl)
                  have H := Lib.hid (show ∀ W', Ext W W' → K (fr (upd V 4 (.bool false))) W' from fun W' he => hK _ _ ⟨upd V 4 (.bool false), rfl, HV.up 4 _ (fun x hx => Option.some.inj hx), S20.ext s0 he⟩)
                  have HU := Lib.hid (show (upd V 4 (.bool false)) 1 = .bool false ∧ (upd V 4 (.bool false)) 3 = .bool false from ⟨e1, e3⟩)
                  clear hK hC hW hL HV s0
                  rw [HFR.out]
                  rw [e1, e3]
                  clear e1 e3
                  go_wp2_with fail
                  show K _ _
                  have := H.out _ (Ext.refl _)
                  rw [HFR.out] at this
                  obtain ⟨u1, u3⟩ := HU.out
                  rw [u1, u3] at this
                  exact this
                · rintro L A W K hL hC hW ⟨V, rfl, HV, s0⟩ hK
                  have e4 : V 4 = .bool false := HV 4 _ rfl (hW 4 rfl)
                  have H := Lib.hid (show ∀ W', Ext W W' → K (fr (upd V 5 (.bool false))) W' from fun W' he => hK _ _ ⟨upd V 5 (.bool false), rfl, HV.up 5 _ (fun x hx => Option.some.inj hx), S20.ext s0 he⟩)
                  have HU := Lib.hid (show (upd V 5 (.bool false)) 4 = .bool false from e4)
                  clear hK hC hW hL HV s0
                  rw [HFR.out]
                  rw [e4]
                  clear e4
                  go_wp2_with fail
                  show K _ _
                  have := H.out _ (Ext.refl _)
                  rw [HFR.out] at this
                  obtain u4 := HU.out
                  rw [u4] at this
                  exact this
                · rintro L A W K hL hC hW ⟨V, rfl, HV, s0⟩ hK
                  have e5 : V 5 = .bool false := HV 5 _ rfl (hW 5 rfl)
                  have hB := s0
                  have H := Lib.hid (show ∀ W', Ext W W' → K (fr (upd V 6 (.agg #[ga, gs, gp]))) W' from fun W' he => hK _ _ ⟨upd V 6 (.agg #[ga, gs, gp]), rfl, HV.up 6 _ (fun x hx => Option.some.inj hx), S20.ext s0 he⟩)
                  have HU := Lib.hid (show (upd V 6 (.agg #[ga, gs, gp])) 5 = .bool false from e5)
                  clear hK hC hW hL HV s0
                  rw [HFR.out]
                  rw [e5]
                  clear e5
                  have HWW := Lib.hid hB.2.2.2.1
                  clear hB
                  refine wpList_loadX rfl (.tmp 14) rfl g14 ga gs gp rfl HWW.out ?_
                  show K _ _
                  have := H.out _ (Ext.refl _)
                  rw [HFR.out] at this
                  obtain u5 := HU.out
                  rw [u5] at this
                  exact this
                · rintro L A W K hL hC hW ⟨V, rfl, HV, s0⟩ hK
                  have e5 : V 5 = .bool false := HV 5 _ rfl (hW 5 rfl)
                  have hB := s0
                  have H := Lib.hid (show ∀ W', Ext W W' → K (fr (upd V 7 (.agg #[na, ns, np]))) W' from fun W' he => hK _ _ ⟨upd V 7 (.agg #[na, ns, np]), rfl, HV.up 7 _ (fun x hx => Option.some.inj hx), S20.ext s0 he⟩)
                  have HU := Lib.hid (show (upd V 7 (.agg #[na, ns, np])) 5 = .bool false from e5)
                  clear hK hC hW hL HV s0
                  rw [HFR.out]
                  rw [e5]
                  clear e5
                  have HWW := Lib.hid hB.2.1
                  clear hB
                  refine wpList_loadX rfl (.tmp 9) rfl g9 na ns np rfl HWW.out ?_
                  show K _ _
                  have := H.out _ (Ext.refl _)
                  rw [HFR.out] at this
                  obtain u5 := HU.out
                  rw [u5] at this
                  exact this
                · rintro L A W K hL hC hW ⟨V, rfl, HV, s0⟩ hK
                  have e5 : V 5 = .bool false := HV 5 _ rfl (hW 5 rfl)
                  have e6 : V 6 = .agg #[ga, gs, gp] := HV 6 _ rfl (hW 6 rfl)
                  have e7 : V 7 = .agg #[na, ns, np] := HV 7 _ rfl (hW 7 rfl)
                  have hB := s0
                  have H := Lib.hid (show ∀ W', Ext W W' → K (fr (upd V 8 (.bool true))) W' from fun W' he => hK _ _ ⟨upd V 8 (.bool true), rfl, HV.up 8 _ (fun x hx => Option.some.inj hx), S20.ext s0 he⟩)
                  have HU := Lib.hid (show (upd V 8 (.bool true)) 5 = .bool false ∧ (upd V 8 (.bool true)) 6 = .agg #[ga, gs, gp] ∧ (upd V 8 (.bool true)) 7 = .agg #[na, ns, np] from ⟨e5, e6, e7⟩)
                  clear hK hC hW hL HV s0
                  rw [HFR.out]
                  rw [e5, e6, e7]
                  clear e5 e6 e7
                  have HB := Lib.hid hB.2.2.2.2
                  clear hB
                  go_wp2_with fail
                  refine (HSM.out _ HB.out).mono ?_
                  rintro e wx ⟨rfl, he⟩
                  have := H.out _ he
                  clear H
                  go_wp2_with fail
                  show K _ _
                  rw [HFR.out] at this
                  obtain ⟨u5, u6, u7⟩ := HU.out
                  rw [u5, u6, u7] at this
                  exact this
                · rintro L A W K hL hC hW ⟨V, rfl, HV, s0⟩ hK
                  have e5 : V 5 = .bool false := HV 5 _ rfl (hW 5 rfl)
                  have e8 : V 8 = .bool true := HV 8 _ rfl (hW 8 rfl)
                  have H := Lib.hid (show ∀ W', Ext W W' → K (fr (upd V 9 (.bool false))) W' from fun W' he => hK _ _ ⟨upd V 9 (.bool false), rfl, HV.up 9 _ (fun x hx => Option.some.inj hx), S20.ext s0 he⟩)
                  have HU := Lib.hid (show (upd V 9 (.bool false)) 5 = .bool false ∧ (upd V 9 (.bool false)) 8 = .bool true from ⟨e5, e8⟩)
                  clear hK hC hW hL HV s0
                  rw [HFR.out]
                  rw [e5, e8]
                  clear e5 e8
                  go_wp2_with fail
                  show K _ _
                  have := H.out _ (Ext.refl _)
                  rw [HFR.out] at this
                  obtain ⟨u5, u8⟩ := HU.out
                  rw [u5, u8] at this
                  exact this
                · rintro L A W K hL hC hW ⟨V, rfl, HV, s0⟩ hK
                  have e5 : V 5 = .bool false := HV 5 _ rfl (hW 5 rfl)
                  have e9 : V 9 = .bool false := HV 9 _ rfl (hW 9 rfl)
                  have H := Lib.hid (show ∀ W', Ext W W' → K (fr (upd V 10 (.bool false))) W' from fun W' he => hK _ _ ⟨upd V 10 (.bool false), rfl, HV.up 10 _ (fun x hx => Option.some.inj hx), S20.ext s0 he⟩)
                  have HU := Lib.hid (show (upd V 10 (.bool false)) 5 = .bool false ∧ (upd V 10 (.bool false)) 9 = .bool false from ⟨e5, e9⟩)
                  clear hK hC hW hL HV s0
                  rw [HFR.out]
                  rw [e5, e9]
                  clear e5 e9
                  go_wp2_with fail
                  show K _ _
                  have := H.out _ (Ext.refl _)
                  rw [HFR.out] at this
                  obtain ⟨u5, u9⟩ := HU.out
                  rw [u5, u9] at this
                  exact this
                · rintro L A W K hL hC hW ⟨V, rfl, HV, s0⟩ hK
                  have e10 : V 10 = .bool false := HV 10 _ rfl (hW 10 rfl)
                  have H := Lib.hid (show ∀ W', Ext W W' → K (fr (upd V 11 (.bool false))) W' from fun W' he => hK _ _ ⟨upd V 11 (.bool false), rfl, HV.up 11 _ (fun x hx => Option.some.inj hx), S20.ext s0 he⟩)
                  have HU := Lib.hid (show (upd V 11 (.bool false)) 10 = .bool false from e10)
                  clear hK hC hW hL HV s0
                  rw [HFR.out]
                  rw [e10]
                  clear e10
                  go_wp2_with fail
                  show K _ _
                  have := H.out _ (Ext.refl _)
                  rw [HFR.out] at this
                  obtain u10 := HU.out
                  rw [u10] at this
                  exact this
                · rintro L A W K hL hC hW ⟨V, rfl, HV, s0⟩ hK
                  have e11 : V 11 = .bool false := HV 11 _ rfl (hW 11 rfl)
                  have hB := s0
                  have H := Lib.hid (show ∀ W', Ext W W' → K (fr (upd V 12 (.agg #[na, ns, np]))) W' from fun W' he => hK _ _ ⟨upd V 12 (.agg #[na, ns, np]), rfl, HV.up 12 _ (fun x hx => Option.some.inj hx), S20.ext s0 he⟩)
                  have HU := Lib.hid (show (upd V 12 (.agg #[na, ns, np])) 11 = .bool false from e11)
                  clear hK hC hW hL HV s0
                  rw [HFR.out]
                  rw [e11]
                  clear e11
                  have HWW := Lib.hid hB.2.1
                  clear hB
                  refine wpList_loadX rfl (.tmp 9) rfl g9 na ns np rfl HWW.out ?_
                  show K _ _
                  have := H.out _ (Ext.refl _)
                  rw [HFR.out] at this
                  obtain u11 := HU.out
                  rw [u11] at this
                  exact this
                · rintro L A W K hL hC hW ⟨V, rfl, HV, s0⟩ hK
                  have e11 : V 11 = .bool false := HV 11 _ rfl (hW 11 rfl)
                  have hB := s0
                  have H := Lib.hid (show ∀ W', Ext W W' → K (fr (upd V 13 (.agg (cS q)))) W' from fun W' he => hK _ _ ⟨upd V 13 (.agg (cS q)), rfl, HV.up 13 _ (fun x hx => Option.some.inj hx), S20.ext s0 he⟩)
                  have HU := Lib.hid (show (upd V 13 (.agg (cS q))) 11 = .bool false from e11)
                  clear hK hC hW hL HV s0
                  rw [HFR.out]
                  rw [e11]
                  clear e11
                  have HWW := Lib.hid (Cs.rg hB.2.2.1)
                  clear hB
                  refine wpList_loadS rfl (.tmp 5) rfl g5 0 q rfl HWW.out ?_
                  show K _ _
                  have := H.out _ (Ext.refl _)
                  rw [HFR.out] at this
                  obtain u11 := HU.out
                  rw [u11] at this
                  exact this
                · rintro L A W K hL hC hW ⟨V, rfl, HV, s0⟩ hK
                  have e11 : V 11 = .bool false := HV 11 _ rfl (hW 11 rfl)
                  have e12 : V 12 = .agg #[na, ns, np] := HV 12 _ rfl (hW 12 rfl)
                  have e13 : V 13 = .agg (cS q) := HV 13 _ rfl (hW 13 rfl)
                  have hB := s0
                  have H := Lib.hid (show ∀ W', Ext W W' → K (fr (upd V 14 (wv lq))) W' from fun W' he => hK _ _ ⟨upd V 14 (wv lq), rfl, HV.up 14 _ (fun x hx => Option.some.inj hx), S20.ext s0 he⟩)
                  have HU := Lib.hid (show (upd V 14 (wv lq)) 11 = .bool false ∧ (upd V 14 (wv lq)) 12 = .agg #[na, ns, np] ∧ (upd V 14 (wv lq)) 13 = .agg (cS q) from ⟨e11, e12, e13⟩)
                  clear hK hC hW hL HV s0
                  rw [HFR.out]
                  rw [e11, e12, e13]
                  clear e11 e12 e13
                  have HB := Lib.hid hB.2.2.2.2
                  clear hB
                  go_wp2_with fail
                  refine (HLN.out _ HB.out).mono ?_
                  rintro e wx ⟨rfl, he⟩
                  have := H.out _ he
                  clear H
                  go_wp2_with fail
                  show K _ _
                  rw [HFR.out] at this
                  obtain ⟨u11, u12, u13⟩ := HU.out
                  rw [u11, u12, u13] at this
                  exact this
                · rintro L A W K hL hC hW ⟨V, rfl, HV, s0⟩ hK
                  have e11 : V 11 = .bool false := HV 11 _ rfl (hW 11 rfl)
                  have hB := s0
                  have H := Lib.hid (show ∀ W', Ext W W' → K (fr (upd V 15 (.agg #[xa, .slice XS x.s.length cxs, xp]))) W' from fun W' he => hK _ _ ⟨upd V 15 (.agg #[xa, .slice XS x.s.length cxs, xp]), rfl, HV.up 15 _ (fun x hx => Option.some.inj hx), S20.ext s0 he⟩)
                  have HU := Lib.hid (show (upd V 15 (.agg #[xa, .slice XS x.s.length cxs, xp])) 11 = .bool false from e11)
                  clear hK hC hW hL HV s0
                  rw [HFR.out]
                  rw [e11]
                  clear e11
                  have HWW := Lib.hid hB.1
                  clear hB
                  refine wpList_loadX rfl (.tmp 3) rfl g3 xa (.slice XS x.s.length cxs) xp rfl HWW.out ?_
                  show K _ _
                  have := H.out _ (Ext.refl _)
                  rw [HFR.out] at this
                  obtain u11 := HU.out
                  rw [u11] at this
                  exact this
                · rintro L A W K hL hC hW ⟨V, rfl, HV, s0⟩ hK
                  have e11 : V 11 = .bool false := HV 11 _ rfl (hW 11 rfl)
                  have hB := s0
                  have H := Lib.hid (show ∀ W', Ext W W' → K (fr (upd V 16 (.agg (cS q)))) W' from fun W' he => hK _ _ ⟨upd V 16 (.agg (cS q)), rfl, HV.up 16 _ (fun x hx => Option.some.inj hx), S20.ext s0 he⟩)
                  have HU := Lib.hid (show (upd V 16 (.agg (cS q))) 11 = .bool false from e11)
                  clear hK hC hW hL HV s0
                  rw [HFR.out]
                  rw [e11]
                  clear e11
                  have HWW := Lib.hid (Cs.rg hB.2.2.1)
                  clear hB
                  refine wpList_loadS rfl (.tmp 5) rfl g5 0 q rfl HWW.out ?_
                  show K _ _
                  have := H.out _ (Ext.refl _)
                  rw [HFR.out] at this
                  obtain u11 := HU.out
                  rw [u11] at this
                  exact this
                · rintro L A W K hL hC hW ⟨V, rfl, HV, s0⟩ hK
                  have e11 : V 11 = .bool false := HV 11 _ rfl (hW 11 rfl)
                  have e15 : V 15 = .agg #[xa, .slice XS x.s.length cxs, xp] := HV 15 _ rfl (hW 15 rfl)
                  have e16 : V 16 = .agg (cS q) := HV 16 _ rfl (hW 16 rfl)
                  have hB := s0
                  have H := Lib.hid (show ∀ W', Ext W W' → K (fr (upd V 17 (wv lq))) W' from fun W' he => hK _ _ ⟨upd V 17 (wv lq), rfl, HV.up 17 _ (fun x hx => Option.some.inj hx), S20.ext s0 he⟩)
                  have HU := Lib.hid (show (upd V 17 (wv lq)) 11 = .bool false ∧ (upd V 17 (wv lq)) 15 = .agg #[xa, .slice XS x.s.length cxs, xp] ∧ (upd V 17 (wv lq)) 16 = .agg (cS q) from ⟨e11, e15, e16⟩)
                  clear hK hC hW hL HV s0
                  rw [HFR.out]
                  rw [e11, e15, e16]
                  clear e11 e15 e16
                  have HB := Lib.hid hB.2.2.2.2
                  clear hB
                  go_wp2_with fail
                  refine (HLX.out _ HB.out).mono ?_
                  rintro e wx ⟨rfl, he⟩
                  have := H.out _ he
                  clear H
                  go_wp2_with fail
                  show K _ _
                  rw [HFR.out] at this
                  obtain ⟨u11, u15, u16⟩ := HU.out
                  rw [u11, u15, u16] at this
                  exact this
                · rintro L A W K hL hC hW ⟨V, rfl, HV, s0⟩ hK
                  have e11 : V 11 = .bool false := HV 11 _ rfl (hW 11 rfl)
                  have e14 : V 14 = wv lq := HV 14 _ rfl (hW 14 rfl)
                  have e17 : V 17 = wv lq := HV 17 _ rfl (hW 17 rfl)
                  have hB := s0
                  have H := Lib.hid (show ∀ W', Ext W W' → K (fr (upd V 18 (.bool false))) W' from fun W' he => hK _ _ ⟨upd V 18 (.bool false), rfl, HV.up 18 _ (fun x hx => Option.some.inj hx), S20.ext s0 he⟩)
                  have HU := Lib.hid (show (upd V 18 (.bool false)) 11 = .bool false ∧ (upd V 18 (.bool false)) 14 = wv lq ∧ (upd V 18 (.bool false)) 17 = wv lq from ⟨e11, e14, e17⟩)
                  clear hK hC hW hL HV s0
                  rw [HFR.out]
                  rw [e11, e14, e17]
                  clear e11 e14 e17
                  clear hB
                  refine wpList_neq_word rfl (.tmp 101) (.tmp 104) rfl lq lq HLV.out HLV.out rfl rfl ?_
                  rw [show (lq != lq) = false from bne_self_eq_false lq]
                  show K _ _
                  have := H.out _ (Ext.refl _)
                  rw [HFR.out] at this
                  obtain ⟨u11, u14, u17⟩ := HU.out
                  rw [u11, u14, u17] at this
                  exact this
                · rintro L A W K hL hC hW ⟨V, rfl, HV, s0⟩ hK
                  have e11 : V 11 = .bool false := HV 11 _ rfl (hW 11 rfl)
                  have e18 : V 18 = .bool false := HV 18 _ rfl (hW 18 rfl)
                  have H := Lib.hid (show ∀ W', Ext W W' → K (fr (upd V 19 (.bool false))) W' from fun W' he => hK _ _ ⟨upd V 19 (.bool false), rfl, HV.up 19 _ (fun x hx => Option.some.inj hx), S20.ext s0 he⟩)
                  have HU := Lib.hid (show (upd V 19 (.bool false)) 11 = .bool false ∧ (upd V 19 (.bool false)) 18 = .bool false from ⟨e11, e18⟩)
                  clear hK hC hW hL HV s0
                  rw [HFR.out]
                  rw [e11, e18]
                  clear e11 e18
                  go_wp2_with fail
                  show K _ _
                  have := H.out _ (Ext.refl _)
                  rw [HFR.out] at this
                  obtain ⟨u11, u18⟩ := HU.out
                  rw [u11, u18] at this
                  exact this
                · rintro L A W hL ⟨V, rfl, HV, s0⟩
                  have e0 : V 0 = .bool false := HV 0 _ rfl (hL 0 (by simp))
                  have e1 : V 1 = .bool false := HV 1 _ rfl (hL 1 (by simp))
                  have e2 : V 2 = .int .i64 0 := HV 2 _ rfl (hL 2 (by simp))
                  have e3 : V 3 = .bool false := HV 3 _ rfl (hL 3 (by simp))
                  have e4 : V 4 = .bool false := HV 4 _ rfl (hL 4 (by simp))
                  have e5 : V 5 = .bool false := HV 5 _ rfl (hL 5 (by simp))
                  have e6 : V 6 = .agg #[ga, gs, gp] := HV 6 _ rfl (hL 6 (by simp))
                  have e7 : V 7 = .agg #[na, ns, np] := HV 7 _ rfl (hL 7 (by simp))
                  have e8 : V 8 = .bool true := HV 8 _ rfl (hL 8 (by simp))
                  have e9 : V 9 = .bool false := HV 9 _ rfl (hL 9 (by simp))
                  have e10 : V 10 = .bool false := HV 10 _ rfl (hL 10 (by simp))
                  have e11 : V 11 = .bool false := HV 11 _ rfl (hL 11 (by simp))
                  have e12 : V 12 = .agg #[na, ns, np] := HV 12 _ rfl (hL 12 (by simp))
                  have e13 : V 13 = .agg (cS q) := HV 13 _ rfl (hL 13 (by simp))
                  have e14 : V 14 = wv lq := HV 14 _ rfl (hL 14 (by simp))
                  have e15 : V 15 = .agg #[xa, .slice XS x.s.length cxs, xp] := HV 15 _ rfl (hL 15 (by simp))
                  have e16 : V 16 = .agg (cS q) := HV 16 _ rfl (hL 16 (by simp))
                  have e17 : V 17 = wv lq := HV 17 _ rfl (hL 17 (by simp))
                  have e18 : V 18 = .bool false := HV 18 _ rfl (hL 18 (by simp))
                  have e19 : V 19 = .bool false := HV 19 _ rfl (hL 19 (by simp))
                  have hA := s0
                  rw [HFR.out]
                  rw [e0, e1, e2, e3, e4, e5, e6, e7, e8, e9, e10, e11, e12, e13, e14, e15, e16, e17, e18, e19]
                  clear hL HV HFR e0 e1 e2 e3 e4 e5 e6 e7 e8 e9 e10 e11 e12 e13 e14 e15 e16 e17 e18 e19 s0
                  have HAA := Lib.hid hA.2.2.2.2
                  clear hA
                  have HJ := Lib.hid (HJ.out.ext HAA.out)
                  have HRN := Lib.hid (HRN.out.ext HAA.out)
                  have G9 := Lib.hid (Cs.ext G9.out HAA.out)
                  have G3 := Lib.hid (Cs.ext G3.out HAA.out)
                  clear HAA
                  go_wp2_with (first
                    | ((with_reducible refine wpList_loadX ?_ (.tmp 9) ?_ g9 na ns np ?_ G9.out ?_); (exact rfl); (exact rfl); (exact rfl))
                    | ((with_reducible refine wpList_storeX ?_ ?_ (.tmp 3) (.tmp 129) ?_ g3 xa (.slice XS x.s.length cxs) xp na ns np ?_ ?_ Z1.out Z2.out Z3.out G3.out ?_); (exact rfl); (exact rfl); (exact rfl); (exact rfl); (exact rfl); intro we ke ge; have HJN := Lib.hid (StJ.next HJ.out HRN.out ke ge HN.out.1 HN.out.2); clear ke ge))
                  exact ⟨⟨i + 1, na, ns, np, _, by omega, by go_num, HRR, HJN⟩, by simp [intOf]; omega⟩
              have fk : decide ((IntKind.u64.wrap d.kind).tmod 3 < 2) = false := decide_eq_false (by rw [show (IntKind.u64.wrap d.kind).tmod 3 = kdE d from rfl, hk]; decide)
              have HKP := Lib.hid (HKP.out hk)
              have HDV := Lib.hid (show d.p.val < M256 from HD.out.2.2.2)
              have HQK := Lib.hid (show q.key < M256 from HQ.out.2.1)
              have HDK := Lib.hid (show d.q.key < M256 from HD.out.2.2.1)
              have G5 : Hid (Cs wr g5 32 (cS q)) := Lib.hid HJ.out.2.2.2
              have HLD := Lib.hid (fun W (h : Ext wr W) => show Calls Try.prog 15 #[.agg #[na, ns, np], .agg (cS d.q)] W (fun e w' => e = .returned (wv d.p.val) ∧ Ext W w') from by have := loadX_any na ns np _ d.q W (HRN.out.ext h).rowsS (De.q_ok HD.out); rwa [HKP.out] at this)
              have HLX := Lib.hid (fun W (h : Ext wr W) => show Calls Try.prog 15 #[.agg #[xa, .slice XS x.s.length cxs, xp], .agg (cS q)] W (fun e w' => e = .returned (wv lq) ∧ Ext W w') from by have := loadX_any _ _ _ x q W ((HJ.out.2.2.1.rows HJ.out.1).ext h) HQ.out; rwa [HLQ.out] at this)
              cases hnb : q.eqS d.q with
              | true =>
                have HNB : Hid ((!q.eqS d.q) = false) := Lib.hid (by rw [hnb]; rfl)
                clear hnb hk
                go_upto_region 22 with fail
                clear q80
                refine wp_named fun a0 ha0 => ?_
                obtain ⟨fr, hfr⟩ : ∃ fr : (Nat → Value) → Act, ∀ V, fr V = ((((((((((((((((((((((a0.put (some 107) (V 0)).put (some 108) (V 1)).put (some 109) (V 2)).put (some 110) (V 3)).put (some 111) (V 4)).put (some 112) (V 5)).put (some 113) (V 6)).put (some 114) (V 7)).put (some 115) (V 8)).put (some 116) (V 9)).put (some 117) (V 10)).put (some 118) (V 11)).put (some 119) (V 12)).put (some 120) (V 13)).put (some 121) (V 14)).put (some 122) (V 15)).put (some 123) (V 16)).put (some 124) (V 17)).put (some 125) (V 18)).put (some 126) (V 19)).put (some 127) (V 20)).put (some 128) (V 21)) := ⟨fun V => ((((((((((((((((((((((a0.put (some 107) (V 0)).put (some 108) (V 1)).put (some 109) (V 2)).put (some 110) (V 3)).put (some 111) (V 4)).put (some 112) (V 5)).put (some 113) (V 6)).put (some 114) (V 7)).put (some 115) (V 8)).put (some 116) (V 9)).put (some 117) (V 10)).put (some 118) (V 11)).put (some 119) (V 12)).put (some 120) (V 13)).put (some 121) (V 14)).put (some 122) (V 15)).put (some 123) (V 16)).put (some 124) (V 17)).put (some 125) (V 18)).put (some 126) (V 19)).put (some 127) (V 20)).put (some 128) (V 21)), fun _ => rfl⟩
                rw [ha0] at hfr
                simp only [Act.put, List.setIfInBounds_toArray, List.set_cons_zero, List.set_cons_succ] at hfr
                have HFR := Lib.hid hfr
                clear hfr
                refine wp_region_inv (by kernel_rfl) (by kernel_rfl) (fun L A W => ∃ V : Nat → Value, A = fr V ∧ Vals (fun j => ([some (.agg #[na, ns, np]), some (.pointer (some ⟨g8, 1, none⟩)), some (.agg (cS d.q)), some (wv d.p.val), some (.pointer (some ⟨g8, 6, none⟩)), some (wv d.p.val), some (.bool false), some (.bool false), some (.agg (cS q)), some (.pointer (some ⟨g8, 1, none⟩)), some (.agg (cS d.q)), some (.bool false), some (.bool false), some (undef), some (undef), some (undef), some (undef), some (undef), some (undef), some (undef), some (.bool false), some (.bool false)] : List (Option Value)).getD j none) L V ∧ (Cs W g3 26 #[xa, .slice XS x.s.length cxs, xp] ∧ Cs W g9 26 #[na, ns, np] ∧ Cs W g5 32 (cS q) ∧ Cs W g8 52 (dec d) ∧ Ext wr W)) ?_ ⟨?_, ?_, ?_, ?_, ?_, ?_, ?_, ?_, ?_, ?_, ?_, ?_, ?_, ?_, ?_, ?_, ?_, ?_, ?_, ?_, ?_, ?_, trivial⟩ ?_
                · refine ⟨fun j => a0.tmps.getD (([107, 108, 109, 110, 111, 112, 113, 114, 115, 116, 117, 118, 119, 120, 121, 122, 123, 124, 125, 126, 127, 128] : List Nat).getD j 0) undef, ?_, Vals.no _ _ _ (far_none _ _ rfl), ⟨Cs.ext G3.out (Ext.refl _).drew, Cs.ext G9.out (Ext.refl _).drew, Cs.ext G5.out (Ext.refl _).drew, Cs.ext G8.out (Ext.refl _).drew, (Ext.refl _).drew⟩⟩
                  rw [HFR.out, ha0]
                  rfl
                all_goals clear ha0
                · rintro L A W K hL hC hW ⟨V, rfl, HV, s0⟩ hK
                  have hB := s0
                  have H := Lib.hid (show ∀ W', Ext W W' → K (fr (upd V 0 (.agg #[na, ns, np]))) W' from fun W' he => hK _ _ ⟨upd V 0 (.agg #[na, ns, np]), rfl, HV.up 0 _ (fun x hx => Option.some.inj hx), S22.ext s0 he⟩)
                  clear hK hC hW hL HV s0
                  rw [HFR.out]
                  have HWW := Lib.hid hB.2.1
                  clear hB
                  refine wpList_loadX rfl (.tmp 9) rfl g9 na ns np rfl HWW.out ?_
                  show K _ _
                  have := H.out _ (Ext.refl _)
                  rw [HFR.out] at this
                  exact this
                · rintro L A W K hL hC hW ⟨V, rfl, HV, s0⟩ hK
                  have H := Lib.hid (show ∀ W', Ext W W' → K (fr (upd V 1 (.pointer (some ⟨g8, 1, none⟩)))) W' from fun W' he => hK _ _ ⟨upd V 1 (.pointer (some ⟨g8, 1, none⟩)), rfl, HV.up 1 _ (fun x hx => Option.some.inj hx), S22.ext s0 he⟩)
                  clear hK hC hW hL HV s0
                  rw [HFR.out]
                  go_wp2_with fail
                  show K _ _
                  have := H.out _ (Ext.refl _)
                  rw [HFR.out] at this
                  exact this
                · rintro L A W K hL hC hW ⟨V, rfl, HV, s0⟩ hK
                  have e1 : V 1 = .pointer (some ⟨g8, 1, none⟩) := HV 1 _ rfl (hW 1 rfl)
                  have hB := s0
                  have H := Lib.hid (show ∀ W', Ext W W' → K (fr (upd V 2 (.agg (cS d.q)))) W' from fun W' he => hK _ _ ⟨upd V 2 (.agg (cS d.q)), rfl, HV.up 2 _ (fun x hx => Option.some.inj hx), S22.ext s0 he⟩)
                  have HU := Lib.hid (show (upd V 2 (.agg (cS d.q))) 1 = .pointer (some ⟨g8, 1, none⟩) from e1)
                  clear hK hC hW hL HV s0
                  rw [HFR.out]
                  rw [e1]
                  clear e1
                  have HWW := Lib.hid (de_spot hB.2.2.2.1)
                  clear hB
                  refine wpList_loadS rfl (.tmp 108) rfl g8 1 d.q rfl HWW.out ?_
                  show K _ _
                  have := H.out _ (Ext.refl _)
                  rw [HFR.out] at this
                  obtain u1 := HU.out
                  rw [u1] at this
                  exact this
                · rintro L A W K hL hC hW ⟨V, rfl, HV, s0⟩ hK
                  have e0 : V 0 = .agg #[na, ns, np] := HV 0 _ rfl (hW 0 rfl)
                  have e2 : V 2 = .agg (cS d.q) := HV 2 _ rfl (hW 2 rfl)
                  have hB := s0
                  have H := Lib.hid (show ∀ W', Ext W W' → K (fr (upd V 3 (wv d.p.val))) W' from fun W' he => hK _ _ ⟨upd V 3 (wv d.p.val), rfl, HV.up 3 _ (fun x hx => Option.some.inj hx), S22.ext s0 he⟩)
                  have HU := Lib.hid (show (upd V 3 (wv d.p.val)) 0 = .agg #[na, ns, np] ∧ (upd V 3 (wv d.p.val)) 2 = .agg (cS d.q) from ⟨e0, e2⟩)
                  clear hK hC hW hL HV s0
                  rw [HFR.out]
                  rw [e0, e2]
                  clear e0 e2
                  have HB := Lib.hid hB.2.2.2.2
                  clear hB
                  go_wp2_with fail
                  refine (HLD.out _ HB.out).mono ?_
                  rintro e wx ⟨rfl, he⟩
                  have := H.out _ he
                  clear H
                  go_wp2_with fail
                  show K _ _
                  rw [HFR.out] at this
                  obtain ⟨u0, u2⟩ := HU.out
                  rw [u0, u2] at this
                  exact this
                · rintro L A W K hL hC hW ⟨V, rfl, HV, s0⟩ hK
                  have H := Lib.hid (show ∀ W', Ext W W' → K (fr (upd V 4 (.pointer (some ⟨g8, 6, none⟩)))) W' from fun W' he => hK _ _ ⟨upd V 4 (.pointer (some ⟨g8, 6, none⟩)), rfl, HV.up 4 _ (fun x hx => Option.some.inj hx), S22.ext s0 he⟩)
                  clear hK hC hW hL HV s0
                  rw [HFR.out]
                  go_wp2_with fail
                  show K _ _
                  have := H.out _ (Ext.refl _)
                  rw [HFR.out] at this
                  exact this
                · rintro L A W K hL hC hW ⟨V, rfl, HV, s0⟩ hK
                  have e4 : V 4 = .pointer (some ⟨g8, 6, none⟩) := HV 4 _ rfl (hW 4 rfl)
                  have hB := s0
                  have H := Lib.hid (show ∀ W', Ext W W' → K (fr (upd V 5 (wv d.p.val))) W' from fun W' he => hK _ _ ⟨upd V 5 (wv d.p.val), rfl, HV.up 5 _ (fun x hx => Option.some.inj hx), S22.ext s0 he⟩)
                  have HU := Lib.hid (show (upd V 5 (wv d.p.val)) 4 = .pointer (some ⟨g8, 6, none⟩) from e4)
                  clear hK hC hW hL HV s0
                  rw [HFR.out]
                  rw [e4]
                  clear e4
                  have HWW := Lib.hid (de_word hB.2.2.2.1)
                  clear hB
                  refine wpList_load_wordIn rfl (.tmp 111) rfl g8 6 d.p.val rfl HWW.out ?_
                  show K _ _
                  have := H.out _ (Ext.refl _)
                  rw [HFR.out] at this
                  obtain u4 := HU.out
                  rw [u4] at this
                  exact this
                · rintro L A W K hL hC hW ⟨V, rfl, HV, s0⟩ hK
                  have e3 : V 3 = wv d.p.val := HV 3 _ rfl (hW 3 rfl)
                  have e5 : V 5 = wv d.p.val := HV 5 _ rfl (hW 5 rfl)
                  have hB := s0
                  have H := Lib.hid (show ∀ W', Ext W W' → K (fr (upd V 6 (.bool false))) W' from fun W' he => hK _ _ ⟨upd V 6 (.bool false), rfl, HV.up 6 _ (fun x hx => Option.some.inj hx), S22.ext s0 he⟩)
                  have HU := Lib.hid (show (upd V 6 (.bool false)) 3 = wv d.p.val ∧ (upd V 6 (.bool false)) 5 = wv d.p.val from ⟨e3, e5⟩)
                  clear hK hC hW hL HV s0
                  rw [HFR.out]
                  rw [e3, e5]
                  clear e3 e5
                  clear hB
                  refine wpList_neq_word rfl (.tmp 110) (.tmp 112) rfl d.p.val d.p.val HDV.out HDV.out rfl rfl ?_
                  rw [show (d.p.val != d.p.val) = false from bne_self_eq_false d.p.val]
                  show K _ _
                  have := H.out _ (Ext.refl _)
                  rw [HFR.out] at this
                  obtain ⟨u3, u5⟩ := HU.out
                  rw [u3, u5] at this
                  exact this
                · rintro L A W K hL hC hW ⟨V, rfl, HV, s0⟩ hK
                  have e6 : V 6 = .bool false := HV 6 _ rfl (hW 6 rfl)
                  have H := Lib.hid (show ∀ W', Ext W W' → K (fr (upd V 7 (.bool false))) W' from fun W' he => hK _ _ ⟨upd V 7 (.bool false), rfl, HV.up 7 _ (fun x hx => Option.some.inj hx), S22.ext s0 he⟩)
                  have HU := Lib.hid (show (upd V 7 (.bool false)) 6 = .bool false from e6)
                  clear hK hC hW hL HV s0
                  rw [HFR.out]
                  rw [e6]
                  clear e6
                  go_wp2_with fail
                  show K _ _
                  have := H.out _ (Ext.refl _)
                  rw [HFR.out] at this
                  obtain u6 := HU.out
                  rw [u6] at this
                  exact this
                · rintro L A W K hL hC hW ⟨V, rfl, HV, s0⟩ hK
                  have e7 : V 7 = .bool false := HV 7 _ rfl (hW 7 rfl)
                  have hB := s0
                  have H := Lib.hid (show ∀ W', Ext W W' → K (fr (upd V 8 (.agg (cS q)))) W' from fun W' he => hK _ _ ⟨upd V 8 (.agg (cS q)), rfl, HV.up 8 _ (fun x hx => Option.some.inj hx), S22.ext s0 he⟩)
                  have HU := Lib.hid (show (upd V 8 (.agg (cS q))) 7 = .bool false from e7)
                  clear hK hC hW hL HV s0
                  rw [HFR.out]
                  rw [e7]
                  clear e7
                  have HWW := Lib.hid (Cs.rg hB.2.2.1)
                  clear hB
                  refine wpList_loadS rfl (.tmp 5) rfl g5 0 q rfl HWW.out ?_
                  show K _ _
                  have := H.out _ (Ext.refl _)
                  rw [HFR.out] at this
                  obtain u7 := HU.out
                  rw [u7] at this
                  exact this
                · rintro L A W K hL hC hW ⟨V, rfl, HV, s0⟩ hK
                  have e7 : V 7 = .bool false := HV 7 _ rfl (hW 7 rfl)
                  have H := Lib.hid (show ∀ W', Ext W W' → K (fr (upd V 9 (.pointer (some ⟨g8, 1, none⟩)))) W' from fun W' he => hK _ _ ⟨upd V 9 (.pointer (some ⟨g8, 1, none⟩)), rfl, HV.up 9 _ (fun x hx => Option.some.inj hx), S22.ext s0 he⟩)
                  have HU := Lib.hid (show (upd V 9 (.pointer (some ⟨g8, 1, none⟩))) 7 = .bool false from e7)
                  clear hK hC hW hL HV s0
                  rw [HFR.out]
                  rw [e7]
                  clear e7
                  go_wp2_with fail
                  show K _ _
                  have := H.out _ (Ext.refl _)
                  rw [HFR.out] at this
                  obtain u7 := HU.out
                  rw [u7] at this
                  exact this
                · rintro L A W K hL hC hW ⟨V, rfl, HV, s0⟩ hK
                  have e7 : V 7 = .bool false := HV 7 _ rfl (hW 7 rfl)
                  have e9 : V 9 = .pointer (some ⟨g8, 1, none⟩) := HV 9 _ rfl (hW 9 rfl)
                  have hB := s0
                  have H := Lib.hid (show ∀ W', Ext W W' → K (fr (upd V 10 (.agg (cS d.q)))) W' from fun W' he => hK _ _ ⟨upd V 10 (.agg (cS d.q)), rfl, HV.up 10 _ (fun x hx => Option.some.inj hx), S22.ext s0 he⟩)
                  have HU := Lib.hid (show (upd V 10 (.agg (cS d.q))) 7 = .bool false ∧ (upd V 10 (.agg (cS d.q))) 9 = .pointer (some ⟨g8, 1, none⟩) from ⟨e7, e9⟩)
                  clear hK hC hW hL HV s0
                  rw [HFR.out]
                  rw [e7, e9]
                  clear e7 e9
                  have HWW := Lib.hid (de_spot hB.2.2.2.1)
                  clear hB
                  refine wpList_loadS rfl (.tmp 116) rfl g8 1 d.q rfl HWW.out ?_
                  show K _ _
                  have := H.out _ (Ext.refl _)
                  rw [HFR.out] at this
                  obtain ⟨u7, u9⟩ := HU.out
                  rw [u7, u9] at this
                  exact this
                · rintro L A W K hL hC hW ⟨V, rfl, HV, s0⟩ hK
                  have e7 : V 7 = .bool false := HV 7 _ rfl (hW 7 rfl)
                  have e8 : V 8 = .agg (cS q) := HV 8 _ rfl (hW 8 rfl)
                  have e10 : V 10 = .agg (cS d.q) := HV 10 _ rfl (hW 10 rfl)
                  have hB := s0
                  have H := Lib.hid (show ∀ W', Ext W W' → K (fr (upd V 11 (.bool false))) W' from fun W' he => hK _ _ ⟨upd V 11 (.bool false), rfl, HV.up 11 _ (fun x hx => Option.some.inj hx), S22.ext s0 he⟩)
                  have HU := Lib.hid (show (upd V 11 (.bool false)) 7 = .bool false ∧ (upd V 11 (.bool false)) 8 = .agg (cS q) ∧ (upd V 11 (.bool false)) 10 = .agg (cS d.q) from ⟨e7, e8, e10⟩)
                  clear hK hC hW hL HV s0
                  rw [HFR.out]
                  rw [e7, e8, e10]
                  clear e7 e8 e10
                  clear hB
                  refine wpList_neqS rfl (.tmp 115) (.tmp 117) rfl q d.q HQK.out HDK.out rfl rfl ?_
                  rw [HNB.out]
                  show K _ _
                  have := H.out _ (Ext.refl _)
                  rw [HFR.out] at this
                  obtain ⟨u7, u8, u10⟩ := HU.out
                  rw [u7, u8, u10] at this
                  exact this
                · rintro L A W K hL hC hW ⟨V, rfl, HV, s0⟩ hK
                  have e7 : V 7 = .bool false := HV 7 _ rfl (hW 7 rfl)
                  have e11 : V 11 = .bool false := HV 11 _ rfl (hW 11 rfl)
                  have H := Lib.hid (show ∀ W', Ext W W' → K (fr (upd V 12 (.bool false))) W' from fun W' he => hK _ _ ⟨upd V 12 (.bool false), rfl, HV.up 12 _ (fun x hx => Option.some.inj hx), S22.ext s0 he⟩)
                  have HU := Lib.hid (show (upd V 12 (.bool false)) 7 = .bool false ∧ (upd V 12 (.bool false)) 11 = .bool false from ⟨e7, e11⟩)
                  clear hK hC hW hL HV s0
                  rw [HFR.out]
                  rw [e7, e11]
                  clear e7 e11
                  go_wp2_with fail
                  show K _ _
                  have := H.out _ (Ext.refl _)
                  rw [HFR.out] at this
                  obtain ⟨u7, u11⟩ := HU.out
                  rw [u7, u11] at this
                  exact this
                · rintro L A W K hL hC hW ⟨V, rfl, HV, s0⟩ hK
                  have e12 : V 12 = .bool false := HV 12 _ rfl (hW 12 rfl)
                  have H := Lib.hid (show ∀ W', Ext W W' → K (fr (upd V 13 (undef))) W' from fun W' he => hK _ _ ⟨upd V 13 (undef), rfl, HV.up 13 _ (fun x hx => Option.some.inj hx), S22.ext s0 he⟩)
                  have HU := Lib.hid (show (upd V 13 (undef)) 12 = .bool false from e12)
                  clear hK hC hW hL HV s0
                  rw [HFR.out]
                  rw [e12]
                  clear e12
                  go_wp2_with fail
                  show K _ _
                  have := H.out _ (Ext.refl _)
                  rw [HFR.out] at this
                  obtain u12 := HU.out
                  rw [u12] at this
                  exact this
                · rintro L A W K hL hC hW ⟨V, rfl, HV, s0⟩ hK
                  have e12 : V 12 = .bool false := HV 12 _ rfl (hW 12 rfl)
                  have H := Lib.hid (show ∀ W', Ext W W' → K (fr (upd V 14 (undef))) W' from fun W' he => hK _ _ ⟨upd V 14 (undef), rfl, HV.up 14 _ (fun x hx => Option.some.inj hx), S22.ext s0 he⟩)
                  have HU := Lib.hid (show (upd V 14 (undef)) 12 = .bool false from e12)
                  clear hK hC hW hL HV s0
                  rw [HFR.out]
                  rw [e12]
                  clear e12
                  go_wp2_with fail
                  show K _ _
                  have := H.out _ (Ext.refl _)
                  rw [HFR.out] at this
                  obtain u12 := HU.out
                  rw [u12] at this
                  exact this
                · rintro L A W K hL hC hW ⟨V, rfl, HV, s0⟩ hK
                  have e12 : V 12 = .bool false := HV 12 _ rfl (hW 12 rfl)
                  have e13 : V 13 = undef := HV 13 _ rfl (hW 13 rfl)
                  have e14 : V 14 = undef := HV 14 _ rfl (hW 14 rfl)
                  have H := Lib.hid (show ∀ W', Ext W W' → K (fr (upd V 15 (undef))) W' from fun W' he => hK _ _ ⟨upd V 15 (undef), rfl, HV.up 15 _ (fun x hx => Option.some.inj hx), S22.ext s0 he⟩)
                  have HU := Lib.hid (show (upd V 15 (undef)) 12 = .bool false ∧ (upd V 15 (undef)) 13 = undef ∧ (upd V 15 (undef)) 14 = undef from ⟨e12, e13, e14⟩)
                  clear hK hC hW hL HV s0
                  rw [HFR.out]
                  rw [e12, e13, e14]
                  clear e12 e13 e14
                  go_wp2_with fail
                  show K _ _
                  have := H.out _ (Ext.refl _)
                  rw [HFR.out] at this
                  obtain ⟨u12, u13, u14⟩ := HU.out
                  rw [u12, u13, u14] at this
                  exact this
                · rintro L A W K hL hC hW ⟨V, rfl, HV, s0⟩ hK
                  have e12 : V 12 = .bool false := HV 12 _ rfl (hW 12 rfl)
                  have H := Lib.hid (show ∀ W', Ext W W' → K (fr (upd V 16 (undef))) W' from fun W' he => hK _ _ ⟨upd V 16 (undef), rfl, HV.up 16 _ (fun x hx => Option.some.inj hx), S22.ext s0 he⟩)
                  have HU := Lib.hid (show (upd V 16 (undef)) 12 = .bool false from e12)
                  clear hK hC hW hL HV s0
                  rw [HFR.out]
                  rw [e12]
                  clear e12
                  go_wp2_with fail
                  show K _ _
                  have := H.out _ (Ext.refl _)
                  rw [HFR.out] at this
                  obtain u12 := HU.out
                  rw [u12] at this
                  exact this
                · rintro L A W K hL hC hW ⟨V, rfl, HV, s0⟩ hK
                  have e12 : V 12 = .bool false := HV 12 _ rfl (hW 12 rfl)
                  have H := Lib.hid (show ∀ W', Ext W W' → K (fr (upd V 17 (undef))) W' from fun W' he => hK _ _ ⟨upd V 17 (undef), rfl, HV.up 17 _ (fun x hx => Option.some.inj hx), S22.ext s0 he⟩)
                  have HU := Lib.hid (show (upd V 17 (undef)) 12 = .bool false from e12)
                  clear hK hC hW hL HV s0
                  rw [HFR.out]
                  rw [e12]
                  clear e12
                  go_wp2_with fail
                  show K _ _
                  have := H.out _ (Ext.refl _)
                  rw [HFR.out] at this
                  obtain u12 := HU.out
                  rw [u12] at this
                  exact this
                · rintro L A W K hL hC hW ⟨V, rfl, HV, s0⟩ hK
                  have e12 : V 12 = .bool false := HV 12 _ rfl (hW 12 rfl)
                  have e16 : V 16 = undef := HV 16 _ rfl (hW 16 rfl)
                  have e17 : V 17 = undef := HV 17 _ rfl (hW 17 rfl)
                  have H := Lib.hid (show ∀ W', Ext W W' → K (fr (upd V 18 (undef))) W' from fun W' he => hK _ _ ⟨upd V 18 (undef), rfl, HV.up 18 _ (fun x hx => Option.some.inj hx), S22.ext s0 he⟩)
                  have HU := Lib.hid (show (upd V 18 (undef)) 12 = .bool false ∧ (upd V 18 (undef)) 16 = undef ∧ (upd V 18 (undef)) 17 = undef from ⟨e12, e16, e17⟩)
                  clear hK hC hW hL HV s0
                  rw [HFR.out]
                  rw [e12, e16, e17]
                  clear e12 e16 e17
                  go_wp2_with fail
                  show K _ _
                  have := H.out _ (Ext.refl _)
                  rw [HFR.out] at this
                  obtain ⟨u12, u16, u17⟩ := HU.out
                  rw [u12, u16, u17] at this
                  exact this
                · rintro L A W K hL hC hW ⟨V, rfl, HV, s0⟩ hK
                  have e12 : V 12 = .bool false := HV 12 _ rfl (hW 12 rfl)
                  have e15 : V 15 = undef := HV 15 _ rfl (hW 15 rfl)
                  have e18 : V 18 = undef := HV 18 _ rfl (hW 18 rfl)
                  have H := Lib.hid (show ∀ W', Ext W W' → K (fr (upd V 19 (undef))) W' from fun W' he => hK _ _ ⟨upd V 19 (undef), rfl, HV.up 19 _ (fun x hx => Option.some.inj hx), S22.ext s0 he⟩)
                  have HU := Lib.hid (show (upd V 19 (undef)) 12 = .bool false ∧ (upd V 19 (undef)) 15 = undef ∧ (upd V 19 (undef)) 18 = undef from ⟨e12, e15, e18⟩)
                  clear hK hC hW hL HV s0
                  rw [HFR.out]
                  rw [e12, e15, e18]
                  clear e12 e15 e18
                  go_wp2_with fail
                  show K _ _
                  have := H.out _ (Ext.refl _)
                  rw [HFR.out] at this
                  obtain ⟨u12, u15, u18⟩ := HU.out
                  rw [u12, u15, u18] at this
                  exact this
                · rintro L A W K hL hC hW ⟨V, rfl, HV, s0⟩ hK
                  have e7 : V 7 = .bool false := HV 7 _ rfl (hW 7 rfl)
                  have e12 : V 12 = .bool false := HV 12 _ rfl (hW 12 rfl)
                  have e19 : V 19 = undef := HV 19 _ rfl (hW 19 rfl)
                  have H := Lib.hid (show ∀ W', Ext W W' → K (fr (upd V 20 (.bool false))) W' from fun W' he => hK _ _ ⟨upd V 20 (.bool false), rfl, HV.up 20 _ (fun x hx => Option.some.inj hx), S22.ext s0 he⟩)
                  have HU := Lib.hid (show (upd V 20 (.bool false)) 7 = .bool false ∧ (upd V 20 (.bool false)) 12 = .bool false ∧ (upd V 20 (.bool false)) 19 = undef from ⟨e7, e12, e19⟩)
                  clear hK hC hW hL HV s0
                  rw [HFR.out]
                  rw [e7, e12, e19]
                  clear e7 e12 e19
                  go_wp2_with fail
                  show K _ _
                  have := H.out _ (Ext.refl _)
                  rw [HFR.out] at this
                  obtain ⟨u7, u12, u19⟩ := HU.out
                  rw [u7, u12, u19] at this
                  exact this
                · rintro L A W K hL hC hW ⟨V, rfl, HV, s0⟩ hK
                  have e7 : V 7 = .bool false := HV 7 _ rfl (hW 7 rfl)
                  have e20 : V 20 = .bool false := HV 20 _ rfl (hW 20 rfl)
                  have H := Lib.hid (show ∀ W', Ext W W' → K (fr (upd V 21 (.bool false))) W' from fun W' he => hK _ _ ⟨upd V 21 (.bool false), rfl, HV.up 21 _ (fun x hx => Option.some.inj hx), S22.ext s0 he⟩)
                  have HU := Lib.hid (show (upd V 21 (.bool false)) 7 = .bool false ∧ (upd V 21 (.bool false)) 20 = .bool false from ⟨e7, e20⟩)
                  clear hK hC hW hL HV s0
                  rw [HFR.out]
                  rw [e7, e20]
                  clear e7 e20
                  go_wp2_with fail
                  show K _ _
                  have := H.out _ (Ext.refl _)
                  rw [HFR.out] at this
                  obtain ⟨u7, u20⟩ := HU.out
                  rw [u7, u20] at this
                  exact this
                · rintro L A W hL ⟨V, rfl, HV, s0⟩
                  have e0 : V 0 = .agg #[na, ns, np] := HV 0 _ rfl (hL 0 (by simp))
                  have e1 : V 1 = .pointer (some ⟨g8, 1, none⟩) := HV 1 _ rfl (hL 1 (by simp))
                  have e2 : V 2 = .agg (cS d.q) := HV 2 _ rfl (hL 2 (by simp))
                  have e3 : V 3 = wv d.p.val := HV 3 _ rfl (hL 3 (by simp))
                  have e4 : V 4 = .pointer (some ⟨g8, 6, none⟩) := HV 4 _ rfl (hL 4 (by simp))
                  have e5 : V 5 = wv d.p.val := HV 5 _ rfl (hL 5 (by simp))
                  have e6 : V 6 = .bool false := HV 6 _ rfl (hL 6 (by simp))
                  have e7 : V 7 = .bool false := HV 7 _ rfl (hL 7 (by simp))
                  have e8 : V 8 = .agg (cS q) := HV 8 _ rfl (hL 8 (by simp))
                  have e9 : V 9 = .pointer (some ⟨g8, 1, none⟩) := HV 9 _ rfl (hL 9 (by simp))
                  have e10 : V 10 = .agg (cS d.q) := HV 10 _ rfl (hL 10 (by simp))
                  have e11 : V 11 = .bool false := HV 11 _ rfl (hL 11 (by simp))
                  have e12 : V 12 = .bool false := HV 12 _ rfl (hL 12 (by simp))
                  have e13 : V 13 = undef := HV 13 _ rfl (hL 13 (by simp))
                  have e14 : V 14 = undef := HV 14 _ rfl (hL 14 (by simp))
                  have e15 : V 15 = undef := HV 15 _ rfl (hL 15 (by simp))
                  have e16 : V 16 = undef := HV 16 _ rfl (hL 16 (by simp))
                  have e17 : V 17 = undef := HV 17 _ rfl (hL 17 (by simp))
                  have e18 : V 18 = undef := HV 18 _ rfl (hL 18 (by simp))
                  have e19 : V 19 = undef := HV 19 _ rfl (hL 19 (by simp))
                  have e20 : V 20 = .bool false := HV 20 _ rfl (hL 20 (by simp))
                  have e21 : V 21 = .bool false := HV 21 _ rfl (hL 21 (by simp))
                  have hA := s0
                  rw [HFR.out]
                  rw [e0, e1, e2, e3, e4, e5, e6, e7, e8, e9, e10, e11, e12, e13, e14, e15, e16, e17, e18, e19, e20, e21]
                  clear hL HV HFR e0 e1 e2 e3 e4 e5 e6 e7 e8 e9 e10 e11 e12 e13 e14 e15 e16 e17 e18 e19 e20 e21 s0
                  have HAA := Lib.hid hA.2.2.2.2
                  clear hA
                  have HJ := Lib.hid (HJ.out.ext HAA.out)
                  have HRN := Lib.hid (HRN.out.ext HAA.out)
                  have G9 := Lib.hid (Cs.ext G9.out HAA.out)
                  have G3 := Lib.hid (Cs.ext G3.out HAA.out)
                  clear HAA
                  go_wp2_with (first
                    | ((with_reducible refine wpList_loadX ?_ (.tmp 9) ?_ g9 na ns np ?_ G9.out ?_); (exact rfl); (exact rfl); (exact rfl))
                    | ((with_reducible refine wpList_storeX ?_ ?_ (.tmp 3) (.tmp 129) ?_ g3 xa (.slice XS x.s.length cxs) xp na ns np ?_ ?_ Z1.out Z2.out Z3.out G3.out ?_); (exact rfl); (exact rfl); (exact rfl); (exact rfl); (exact rfl); intro we ke ge; have HJN := Lib.hid (StJ.next HJ.out HRN.out ke ge HN.out.1 HN.out.2); clear ke ge))
                  exact ⟨⟨i + 1, na, ns, np, _, by omega, by go_num, HRR, HJN⟩, by simp [intOf]; omega⟩
              | false =>
                have HNB : Hid ((!q.eqS d.q) = true) := Lib.hid (by rw [hnb]; rfl)
                have HLS := Lib.hid ((HOT.out hk (cod_ne HQ.out (De.q_ok HD.out) hnb)).trans HLQ.out)
                have HLN := Lib.hid (fun W (h : Ext wr W) => show Calls Try.prog 15 #[.agg #[na, ns, np], .agg (cS q)] W (fun e w' => e = .returned (wv lq) ∧ Ext W w') from by have := loadX_any na ns np _ q W (HRN.out.ext h).rowsS HQ.out; rwa [HLS.out] at this)
                clear hnb hk
                go_upto_region 22 with fail
                clear q80
                refine wp_named fun a0 ha0 => ?_
                obtain ⟨fr, hfr⟩ : ∃ fr : (Nat → Value) → Act, ∀ V, fr V = ((((((((((((((((((((((a0.put (some 107) (V 0)).put (some 108) (V 1)).put (some 109) (V 2)).put (some 110) (V 3)).put (some 111) (V 4)).put (some 112) (V 5)).put (some 113) (V 6)).put (some 114) (V 7)).put (some 115) (V 8)).put (some 116) (V 9)).put (some 117) (V 10)).put (some 118) (V 11)).put (some 119) (V 12)).put (some 120) (V 13)).put (some 121) (V 14)).put (some 122) (V 15)).put (some 123) (V 16)).put (some 124) (V 17)).put (some 125) (V 18)).put (some 126) (V 19)).put (some 127) (V 20)).put (some 128) (V 21)) := ⟨fun V => ((((((((((((((((((((((a0.put (some 107) (V 0)).put (some 108) (V 1)).put (some 109) (V 2)).put (some 110) (V 3)).put (some 111) (V 4)).put (some 112) (V 5)).put (some 113) (V 6)).put (some 114) (V 7)).put (some 115) (V 8)).put (some 116) (V 9)).put (some 117) (V 10)).put (some 118) (V 11)).put (some 119) (V 12)).put (some 120) (V 13)).put (some 121) (V 14)).put (some 122) (V 15)).put (some 123) (V 16)).put (some 124) (V 17)).put (some 125) (V 18)).put (some 126) (V 19)).put (some 127) (V 20)).put (some 128) (V 21)), fun _ => rfl⟩
                rw [ha0] at hfr
                simp only [Act.put, List.setIfInBounds_toArray, List.set_cons_zero, List.set_cons_succ] at hfr
                have HFR := Lib.hid hfr
                clear hfr
                refine wp_region_inv (by kernel_rfl) (by kernel_rfl) (fun L A W => ∃ V : Nat → Value, A = fr V ∧ Vals (fun j => ([some (.agg #[na, ns, np]), some (.pointer (some ⟨g8, 1, none⟩)), some (.agg (cS d.q)), some (wv d.p.val), some (.pointer (some ⟨g8, 6, none⟩)), some (wv d.p.val), some (.bool false), some (.bool false), some (.agg (cS q)), some (.pointer (some ⟨g8, 1, none⟩)), some (.agg (cS d.q)), some (.bool true), some (.bool true), some (.agg #[na, ns, np]), some (.agg (cS q)), some (wv lq), some (.agg #[xa, .slice XS x.s.length cxs, xp]), some (.agg (cS q)), some (wv lq), some (.bool false), some (.bool false), some (.bool false)] : List (Option Value)).getD j none) L V ∧ (Cs W g3 26 #[xa, .slice XS x.s.length cxs, xp] ∧ Cs W g9 26 #[na, ns, np] ∧ Cs W g5 32 (cS q) ∧ Cs W g8 52 (dec d) ∧ Ext wr W)) ?_ ⟨?_, ?_, ?_, ?_, ?_, ?_, ?_, ?_, ?_, ?_, ?_, ?_, ?_, ?_, ?_, ?_, ?_, ?_, ?_, ?_, ?_, ?_, trivial⟩ ?_
                · refine ⟨fun j => a0.tmps.getD (([107, 108, 109, 110, 111, 112, 113, 114, 115, 116, 117, 118, 119, 120, 121, 122, 123, 124, 125, 126, 127, 128] : List Nat).getD j 0) undef, ?_, Vals.no _ _ _ (far_none _ _ rfl), ⟨Cs.ext G3.out (Ext.refl _).drew, Cs.ext G9.out (Ext.refl _).drew, Cs.ext G5.out (Ext.refl _).drew, Cs.ext G8.out (Ext.refl _).drew, (Ext.refl _).drew⟩⟩
                  rw [HFR.out, ha0]
                  rfl
                all_goals clear ha0
                · rintro L A W K hL hC hW ⟨V, rfl, HV, s0⟩ hK
                  have hB := s0
                  have H := Lib.hid (show ∀ W', Ext W W' → K (fr (upd V 0 (.agg #[na, ns, np]))) W' from fun W' he => hK _ _ ⟨upd V 0 (.agg #[na, ns, np]), rfl, HV.up 0 _ (fun x hx => Option.some.inj hx), S22.ext s0 he⟩)
                  clear hK hC hW hL HV s0
                  rw [HFR.out]
                  have HWW := Lib.hid hB.2.1
                  clear hB
                  refine wpList_loadX rfl (.tmp 9) rfl g9 na ns np rfl HWW.out ?_
                  show K _ _
                  have := H.out _ (Ext.refl _)
                  rw [HFR.out] at this
                  exact this
                · rintro L A W K hL hC hW ⟨V, rfl, HV, s0⟩ hK
                  have H := Lib.hid (show ∀ W', Ext W W' → K (fr (upd V 1 (.pointer (some ⟨g8, 1, none⟩)))) W' from fun W' he => hK _ _ ⟨upd V 1 (.pointer (some ⟨g8, 1, none⟩)), rfl, HV.up 1 _ (fun x hx => Option.some.inj hx), S22.ext s0 he⟩)
                  clear hK hC hW hL HV s0
                  rw [HFR.out]
                  go_wp2_with fail
                  show K _ _
                  have := H.out _ (Ext.refl _)
                  rw [HFR.out] at this
                  exact this
                · rintro L A W K hL hC hW ⟨V, rfl, HV, s0⟩ hK
                  have e1 : V 1 = .pointer (some ⟨g8, 1, none⟩) := HV 1 _ rfl (hW 1 rfl)
                  have hB := s0
                  have H := Lib.hid (show ∀ W', Ext W W' → K (fr (upd V 2 (.agg (cS d.q)))) W' from fun W' he => hK _ _ ⟨upd V 2 (.agg (cS d.q)), rfl, HV.up 2 _ (fun x hx => Option.some.inj hx), S22.ext s0 he⟩)
                  have HU := Lib.hid (show (upd V 2 (.agg (cS d.q))) 1 = .pointer (some ⟨g8, 1, none⟩) from e1)
                  clear hK hC hW hL HV s0
                  rw [HFR.out]
                  rw [e1]
                  clear e1
                  have HWW := Lib.hid (de_spot hB.2.2.2.1)
                  clear hB
                  refine wpList_loadS rfl (.tmp 108) rfl g8 1 d.q rfl HWW.out ?_
                  show K _ _
                  have := H.out _ (Ext.refl _)
                  rw [HFR.out] at this
                  obtain u1 := HU.out
                  rw [u1] at this
                  exact this
                · rintro L A W K hL hC hW ⟨V, rfl, HV, s0⟩ hK
                  have e0 : V 0 = .agg #[na, ns, np] := HV 0 _ rfl (hW 0 rfl)
                  have e2 : V 2 = .agg (cS d.q) := HV 2 _ rfl (hW 2 rfl)
                  have hB := s0
                  have H := Lib.hid (show ∀ W', Ext W W' → K (fr (upd V 3 (wv d.p.val))) W' from fun W' he => hK _ _ ⟨upd V 3 (wv d.p.val), rfl, HV.up 3 _ (fun x hx => Option.some.inj hx), S22.ext s0 he⟩)
                  have HU := Lib.hid (show (upd V 3 (wv d.p.val)) 0 = .agg #[na, ns, np] ∧ (upd V 3 (wv d.p.val)) 2 = .agg (cS d.q) from ⟨e0, e2⟩)
                  clear hK hC hW hL HV s0
                  rw [HFR.out]
                  rw [e0, e2]
                  clear e0 e2
                  have HB := Lib.hid hB.2.2.2.2
                  clear hB
                  go_wp2_with fail
                  refine (HLD.out _ HB.out).mono ?_
                  rintro e wx ⟨rfl, he⟩
                  have := H.out _ he
                  clear H
                  go_wp2_with fail
                  show K _ _
                  rw [HFR.out] at this
                  obtain ⟨u0, u2⟩ := HU.out
                  rw [u0, u2] at this
                  exact this
                · rintro L A W K hL hC hW ⟨V, rfl, HV, s0⟩ hK
                  have H := Lib.hid (show ∀ W', Ext W W' → K (fr (upd V 4 (.pointer (some ⟨g8, 6, none⟩)))) W' from fun W' he => hK _ _ ⟨upd V 4 (.pointer (some ⟨g8, 6, none⟩)), rfl, HV.up 4 _ (fun x hx => Option.some.inj hx), S22.ext s0 he⟩)
                  clear hK hC hW hL HV s0
                  rw [HFR.out]
                  go_wp2_with fail
                  show K _ _
                  have := H.out _ (Ext.refl _)
                  rw [HFR.out] at this
                  exact this
                · rintro L A W K hL hC hW ⟨V, rfl, HV, s0⟩ hK
                  have e4 : V 4 = .pointer (some ⟨g8, 6, none⟩) := HV 4 _ rfl (hW 4 rfl)
                  have hB := s0
                  have H := Lib.hid (show ∀ W', Ext W W' → K (fr (upd V 5 (wv d.p.val))) W' from fun W' he => hK _ _ ⟨upd V 5 (wv d.p.val), rfl, HV.up 5 _ (fun x hx => Option.some.inj hx), S22.ext s0 he⟩)
                  have HU := Lib.hid (show (upd V 5 (wv d.p.val)) 4 = .pointer (some ⟨g8, 6, none⟩) from e4)
                  clear hK hC hW hL HV s0
                  rw [HFR.out]
                  rw [e4]
                  clear e4
                  have HWW := Lib.hid (de_word hB.2.2.2.1)
                  clear hB
                  refine wpList_load_wordIn rfl (.tmp 111) rfl g8 6 d.p.val rfl HWW.out ?_
                  show K _ _
                  have := H.out _ (Ext.refl _)
                  rw [HFR.out] at this
                  obtain u4 := HU.out
                  rw [u4] at this
                  exact this
                · rintro L A W K hL hC hW ⟨V, rfl, HV, s0⟩ hK
                  have e3 : V 3 = wv d.p.val := HV 3 _ rfl (hW 3 rfl)
                  have e5 : V 5 = wv d.p.val := HV 5 _ rfl (hW 5 rfl)
                  have hB := s0
                  have H := Lib.hid (show ∀ W', Ext W W' → K (fr (upd V 6 (.bool false))) W' from fun W' he => hK _ _ ⟨upd V 6 (.bool false), rfl, HV.up 6 _ (fun x hx => Option.some.inj hx), S22.ext s0 he⟩)
                  have HU := Lib.hid (show (upd V 6 (.bool false)) 3 = wv d.p.val ∧ (upd V 6 (.bool false)) 5 = wv d.p.val from ⟨e3, e5⟩)
                  clear hK hC hW hL HV s0
                  rw [HFR.out]
                  rw [e3, e5]
                  clear e3 e5
                  clear hB
                  refine wpList_neq_word rfl (.tmp 110) (.tmp 112) rfl d.p.val d.p.val HDV.out HDV.out rfl rfl ?_
                  rw [show (d.p.val != d.p.val) = false from bne_self_eq_false d.p.val]
                  show K _ _
                  have := H.out _ (Ext.refl _)
                  rw [HFR.out] at this
                  obtain ⟨u3, u5⟩ := HU.out
                  rw [u3, u5] at this
                  exact this
                · rintro L A W K hL hC hW ⟨V, rfl, HV, s0⟩ hK
                  have e6 : V 6 = .bool false := HV 6 _ rfl (hW 6 rfl)
                  have H := Lib.hid (show ∀ W', Ext W W' → K (fr (upd V 7 (.bool false))) W' from fun W' he => hK _ _ ⟨upd V 7 (.bool false), rfl, HV.up 7 _ (fun x hx => Option.some.inj hx), S22.ext s0 he⟩)
                  have HU := Lib.hid (show (upd V 7 (.bool false)) 6 = .bool false from e6)
                  clear hK hC hW hL HV s0
                  rw [HFR.out]
                  rw [e6]
                  clear e6
                  go_wp2_with fail
                  show K _ _
                  have := H.out _ (Ext.refl _)
                  rw [HFR.out] at this
                  obtain u6 := HU.out
                  rw [u6] at this
                  exact this
                · rintro L A W K hL hC hW ⟨V, rfl, HV, s0⟩ hK
                  have e7 : V 7 = .bool false := HV 7 _ rfl (hW 7 rfl)
                  have hB := s0
                  have H := Lib.hid (show ∀ W', Ext W W' → K (fr (upd V 8 (.agg (cS q)))) W' from fun W' he => hK _ _ ⟨upd V 8 (.agg (cS q)), rfl, HV.up 8 _ (fun x hx => Option.some.inj hx), S22.ext s0 he⟩)
                  have HU := Lib.hid (show (upd V 8 (.agg (cS q))) 7 = .bool false from e7)
                  clear hK hC hW hL HV s0
                  rw [HFR.out]
                  rw [e7]
                  clear e7
                  have HWW := Lib.hid (Cs.rg hB.2.2.1)
                  clear hB
                  refine wpList_loadS rfl (.tmp 5) rfl g5 0 q rfl HWW.out ?_
                  show K _ _
                  have := H.out _ (Ext.refl _)
                  rw [HFR.out] at this
                  obtain u7 := HU.out
                  rw [u7] at this
                  exact this
                · rintro L A W K hL hC hW ⟨V, rfl, HV, s0⟩ hK
                  have e7 : V 7 = .bool false := HV 7 _ rfl (hW 7 rfl)
                  have H := Lib.hid (show ∀ W', Ext W W' → K (fr (upd V 9 (.pointer (some ⟨g8, 1, none⟩)))) W' from fun W' he => hK _ _ ⟨upd V 9 (.pointer (some ⟨g8, 1, none⟩)), rfl, HV.up 9 _ (fun x hx => Option.some.inj hx), S22.ext s0 he⟩)
                  have HU := Lib.hid (show (upd V 9 (.pointer (some ⟨g8, 1, none⟩))) 7 = .bool false from e7)
                  clear hK hC hW hL HV s0
                  rw [HFR.out]
                  rw [e7]
                  clear e7
                  go_wp2_with fail
                  show K _ _
                  have := H.out _ (Ext.refl _)
                  rw [HFR.out] at this
                  obtain u7 := HU.out
                  rw [u7] at this
                  exact this
                · rintro L A W K hL hC hW ⟨V, rfl, HV, s0⟩ hK
                  have e7 : V 7 = .bool false := HV 7 _ rfl (hW 7 rfl)
                  have e9 : V 9 = .pointer (some ⟨g8, 1, none⟩) := HV 9 _ rfl (hW 9 rfl)
                  have hB := s0
                  have H := Lib.hid (show ∀ W', Ext W W' → K (fr (upd V 10 (.agg (cS d.q)))) W' from fun W' he => hK _ _ ⟨upd V 10 (.agg (cS d.q)), rfl, HV.up 10 _ (fun x hx => Option.some.inj hx), S22.ext s0 he⟩)
                  have HU := Lib.hid (show (upd V 10 (.agg (cS d.q))) 7 = .bool false ∧ (upd V 10 (.agg (cS d.q))) 9 = .pointer (some ⟨g8, 1, none⟩) from ⟨e7, e9⟩)
                  clear hK hC hW hL HV s0
                  rw [HFR.out]
                  rw [e7, e9]
                  clear e7 e9
                  have HWW := Lib.hid (de_spot hB.2.2.2.1)
                  clear hB
                  refine wpList_loadS rfl (.tmp 116) rfl g8 1 d.q rfl HWW.out ?_
                  show K _ _
                  have := H.out _ (Ext.refl _)
                  rw [HFR.out] at this
                  obtain ⟨u7, u9⟩ := HU.out
                  rw [u7, u9] at this
                  exact this
                · rintro L A W K hL hC hW ⟨V, rfl, HV, s0⟩ hK
                  have e7 : V 7 = .bool false := HV 7 _ rfl (hW 7 rfl)
                  have e8 : V 8 = .agg (cS q) := HV 8 _ rfl (hW 8 rfl)
                  have e10 : V 10 = .agg (cS d.q) := HV 10 _ rfl (hW 10 rfl)
                  have hB := s0
                  have H := Lib.hid (show ∀ W', Ext W W' → K (fr (upd V 11 (.bool true))) W' from fun W' he => hK _ _ ⟨upd V 11 (.bool true), rfl, HV.up 11 _ (fun x hx => Option.some.inj hx), S22.ext s0 he⟩)
                  have HU := Lib.hid (show (upd V 11 (.bool true)) 7 = .bool false ∧ (upd V 11 (.bool true)) 8 = .agg (cS q) ∧ (upd V 11 (.bool true)) 10 = .agg (cS d.q) from ⟨e7, e8, e10⟩)
                  clear hK hC hW hL HV s0
                  rw [HFR.out]
                  rw [e7, e8, e10]
                  clear e7 e8 e10
                  clear hB
                  refine wpList_neqS rfl (.tmp 115) (.tmp 117) rfl q d.q HQK.out HDK.out rfl rfl ?_
                  rw [HNB.out]
                  show K _ _
                  have := H.out _ (Ext.refl _)
                  rw [HFR.out] at this
                  obtain ⟨u7, u8, u10⟩ := HU.out
                  rw [u7, u8, u10] at this
                  exact this
                · rintro L A W K hL hC hW ⟨V, rfl, HV, s0⟩ hK
                  have e7 : V 7 = .bool false := HV 7 _ rfl (hW 7 rfl)
                  have e11 : V 11 = .bool true := HV 11 _ rfl (hW 11 rfl)
                  have H := Lib.hid (show ∀ W', Ext W W' → K (fr (upd V 12 (.bool true))) W' from fun W' he => hK _ _ ⟨upd V 12 (.bool true), rfl, HV.up 12 _ (fun x hx => Option.some.inj hx), S22.ext s0 he⟩)
                  have HU := Lib.hid (show (upd V 12 (.bool true)) 7 = .bool false ∧ (upd V 12 (.bool true)) 11 = .bool true from ⟨e7, e11⟩)
                  clear hK hC hW hL HV s0
                  rw [HFR.out]
                  rw [e7, e11]
                  clear e7 e11
                  go_wp2_with fail
                  show K _ _
                  have := H.out _ (Ext.refl _)
                  rw [HFR.out] at this
                  obtain ⟨u7, u11⟩ := HU.out
                  rw [u7, u11] at this
                  exact this
                · rintro L A W K hL hC hW ⟨V, rfl, HV, s0⟩ hK
                  have e12 : V 12 = .bool true := HV 12 _ rfl (hW 12 rfl)
                  have hB := s0
                  have H := Lib.hid (show ∀ W', Ext W W' → K (fr (upd V 13 (.agg #[na, ns, np]))) W' from fun W' he => hK _ _ ⟨upd V 13 (.agg #[na, ns, np]), rfl, HV.up 13 _ (fun x hx => Option.some.inj hx), S22.ext s0 he⟩)
                  have HU := Lib.hid (show (upd V 13 (.agg #[na, ns, np])) 12 = .bool true from e12)
                  clear hK hC hW hL HV s0
                  rw [HFR.out]
                  rw [e12]
                  clear e12
                  have HWW := Lib.hid hB.2.1
                  clear hB
                  refine wpList_loadX rfl (.tmp 9) rfl g9 na ns np rfl HWW.out ?_
                  show K _ _
                  have := H.out _ (Ext.refl _)
                  rw [HFR.out] at this
                  obtain u12 := HU.out
                  rw [u12] at this
                  exact this
                · rintro L A W K hL hC hW ⟨V, rfl, HV, s0⟩ hK
                  have e12 : V 12 = .bool true := HV 12 _ rfl (hW 12 rfl)
                  have hB := s0
                  have H := Lib.hid (show ∀ W', Ext W W' → K (fr (upd V 14 (.agg (cS q)))) W' from fun W' he => hK _ _ ⟨upd V 14 (.agg (cS q)), rfl, HV.up 14 _ (fun x hx => Option.some.inj hx), S22.ext s0 he⟩)
                  have HU := Lib.hid (show (upd V 14 (.agg (cS q))) 12 = .bool true from e12)
                  clear hK hC hW hL HV s0
                  rw [HFR.out]
                  rw [e12]
                  clear e12
                  have HWW := Lib.hid (Cs.rg hB.2.2.1)
                  clear hB
                  refine wpList_loadS rfl (.tmp 5) rfl g5 0 q rfl HWW.out ?_
                  show K _ _
                  have := H.out _ (Ext.refl _)
                  rw [HFR.out] at this
                  obtain u12 := HU.out
                  rw [u12] at this
                  exact this
                · rintro L A W K hL hC hW ⟨V, rfl, HV, s0⟩ hK
                  have e12 : V 12 = .bool true := HV 12 _ rfl (hW 12 rfl)
                  have e13 : V 13 = .agg #[na, ns, np] := HV 13 _ rfl (hW 13 rfl)
                  have e14 : V 14 = .agg (cS q) := HV 14 _ rfl (hW 14 rfl)
                  have hB := s0
                  have H := Lib.hid (show ∀ W', Ext W W' → K (fr (upd V 15 (wv lq))) W' from fun W' he => hK _ _ ⟨upd V 15 (wv lq), rfl, HV.up 15 _ (fun x hx => Option.some.inj hx), S22.ext s0 he⟩)
                  have HU := Lib.hid (show (upd V 15 (wv lq)) 12 = .bool true ∧ (upd V 15 (wv lq)) 13 = .agg #[na, ns, np] ∧ (upd V 15 (wv lq)) 14 = .agg (cS q) from ⟨e12, e13, e14⟩)
                  clear hK hC hW hL HV s0
                  rw [HFR.out]
                  rw [e12, e13, e14]
                  clear e12 e13 e14
                  have HB := Lib.hid hB.2.2.2.2
                  clear hB
                  go_wp2_with fail
                  refine (HLN.out _ HB.out).mono ?_
                  rintro e wx ⟨rfl, he⟩
                  have := H.out _ he
                  clear H
                  go_wp2_with fail
                  show K _ _
                  rw [HFR.out] at this
                  obtain ⟨u12, u13, u14⟩ := HU.out
                  rw [u12, u13, u14] at this
                  exact this
                · rintro L A W K hL hC hW ⟨V, rfl, HV, s0⟩ hK
                  have e12 : V 12 = .bool true := HV 12 _ rfl (hW 12 rfl)
                  have hB := s0
                  have H := Lib.hid (show ∀ W', Ext W W' → K (fr (upd V 16 (.agg #[xa, .slice XS x.s.length cxs, xp]))) W' from fun W' he => hK _ _ ⟨upd V 16 (.agg #[xa, .slice XS x.s.length cxs, xp]), rfl, HV.up 16 _ (fun x hx => Option.some.inj hx), S22.ext s0 he⟩)
                  have HU := Lib.hid (show (upd V 16 (.agg #[xa, .slice XS x.s.length cxs, xp])) 12 = .bool true from e12)
                  clear hK hC hW hL HV s0
                  rw [HFR.out]
                  rw [e12]
                  clear e12
                  have HWW := Lib.hid hB.1
                  clear hB
                  refine wpList_loadX rfl (.tmp 3) rfl g3 xa (.slice XS x.s.length cxs) xp rfl HWW.out ?_
                  show K _ _
                  have := H.out _ (Ext.refl _)
                  rw [HFR.out] at this
                  obtain u12 := HU.out
                  rw [u12] at this
                  exact this
                · rintro L A W K hL hC hW ⟨V, rfl, HV, s0⟩ hK
                  have e12 : V 12 = .bool true := HV 12 _ rfl (hW 12 rfl)
                  have hB := s0
                  have H := Lib.hid (show ∀ W', Ext W W' → K (fr (upd V 17 (.agg (cS q)))) W' from fun W' he => hK _ _ ⟨upd V 17 (.agg (cS q)), rfl, HV.up 17 _ (fun x hx => Option.some.inj hx), S22.ext s0 he⟩)
                  have HU := Lib.hid (show (upd V 17 (.agg (cS q))) 12 = .bool true from e12)
                  clear hK hC hW hL HV s0
                  rw [HFR.out]
                  rw [e12]
                  clear e12
                  have HWW := Lib.hid (Cs.rg hB.2.2.1)
                  clear hB
                  refine wpList_loadS rfl (.tmp 5) rfl g5 0 q rfl HWW.out ?_
                  show K _ _
                  have := H.out _ (Ext.refl _)
                  rw [HFR.out] at this
                  obtain u12 := HU.out
                  rw [u12] at this
                  exact this
                · rintro L A W K hL hC hW ⟨V, rfl, HV, s0⟩ hK
                  have e12 : V 12 = .bool true := HV 12 _ rfl (hW 12 rfl)
                  have e16 : V 16 = .agg #[xa, .slice XS x.s.length cxs, xp] := HV 16 _ rfl (hW 16 rfl)
                  have e17 : V 17 = .agg (cS q) := HV 17 _ rfl (hW 17 rfl)
                  have hB := s0
                  have H := Lib.hid (show ∀ W', Ext W W' → K (fr (upd V 18 (wv lq))) W' from fun W' he => hK _ _ ⟨upd V 18 (wv lq), rfl, HV.up 18 _ (fun x hx => Option.some.inj hx), S22.ext s0 he⟩)
                  have HU := Lib.hid (show (upd V 18 (wv lq)) 12 = .bool true ∧ (upd V 18 (wv lq)) 16 = .agg #[xa, .slice XS x.s.length cxs, xp] ∧ (upd V 18 (wv lq)) 17 = .agg (cS q) from ⟨e12, e16, e17⟩)
                  clear hK hC hW hL HV s0
                  rw [HFR.out]
                  rw [e12, e16, e17]
                  clear e12 e16 e17
                  have HB := Lib.hid hB.2.2.2.2
                  clear hB
                  go_wp2_with fail
                  refine (HLX.out _ HB.out).mono ?_
                  rintro e wx ⟨rfl, he⟩
                  have := H.out _ he
                  clear H
                  go_wp2_with fail
                  show K _ _
                  rw [HFR.out] at this
                  obtain ⟨u12, u16, u17⟩ := HU.out
                  rw [u12, u16, u17] at this
                  exact this
                · rintro L A W K hL hC hW ⟨V, rfl, HV, s0⟩ hK
                  have e12 : V 12 = .bool true := HV 12 _ rfl (hW 12 rfl)
                  have e15 : V 15 = wv lq := HV 15 _ rfl (hW 15 rfl)
                  have e18 : V 18 = wv lq := HV 18 _ rfl (hW 18 rfl)
                  have hB := s0
                  have H := Lib.hid (show ∀ W', Ext W W' → K (fr (upd V 19 (.bool false))) W' from fun W' he => hK _ _ ⟨upd V 19 (.bool false), rfl, HV.up 19 _ (fun x hx => Option.some.inj hx), S22.ext s0 he⟩)
                  have HU := Lib.hid (show (upd V 19 (.bool false)) 12 = .bool true ∧ (upd V 19 (.bool false)) 15 = wv lq ∧ (upd V 19 (.bool false)) 18 = wv lq from ⟨e12, e15, e18⟩)
                  clear hK hC hW hL HV s0
                  rw [HFR.out]
                  rw [e12, e15, e18]
                  clear e12 e15 e18
                  clear hB
                  refine wpList_neq_word rfl (.tmp 122) (.tmp 125) rfl lq lq HLV.out HLV.out rfl rfl ?_
                  rw [show (lq != lq) = false from bne_self_eq_false lq]
                  show K _ _
                  have := H.out _ (Ext.refl _)
                  rw [HFR.out] at this
                  obtain ⟨u12, u15, u18⟩ := HU.out
                  rw [u12, u15, u18] at this
                  exact this
                · rintro L A W K hL hC hW ⟨V, rfl, HV, s0⟩ hK
                  have e7 : V 7 = .bool false := HV 7 _ rfl (hW 7 rfl)
                  have e12 : V 12 = .bool true := HV 12 _ rfl (hW 12 rfl)
                  have e19 : V 19 = .bool false := HV 19 _ rfl (hW 19 rfl)
                  have H := Lib.hid (show ∀ W', Ext W W' → K (fr (upd V 20 (.bool false))) W' from fun W' he => hK _ _ ⟨upd V 20 (.bool false), rfl, HV.up 20 _ (fun x hx => Option.some.inj hx), S22.ext s0 he⟩)
                  have HU := Lib.hid (show (upd V 20 (.bool false)) 7 = .bool false ∧ (upd V 20 (.bool false)) 12 = .bool true ∧ (upd V 20 (.bool false)) 19 = .bool false from ⟨e7, e12, e19⟩)
                  clear hK hC hW hL HV s0
                  rw [HFR.out]
                  rw [e7, e12, e19]
                  clear e7 e12 e19
                  go_wp2_with fail
                  show K _ _
                  have := H.out _ (Ext.refl _)
                  rw [HFR.out] at this
                  obtain ⟨u7, u12, u19⟩ := HU.out
                  rw [u7, u12, u19] at this
                  exact this
                · rintro L A W K hL hC hW ⟨V, rfl, HV, s0⟩ hK
                  have e7 : V 7 = .bool false := HV 7 _ rfl (hW 7 rfl)
                  have e20 : V 20 = .bool false := HV 20 _ rfl (hW 20 rfl)
                  have H := Lib.hid (show ∀ W', Ext W W' → K (fr (upd V 21 (.bool false))) W' from fun W' he => hK _ _ ⟨upd V 21 (.bool false), rfl, HV.up 21 _ (fun x hx => Option.some.inj hx), S22.ext s0 he⟩)
                  have HU := Lib.hid (show (upd V 21 (.bool false)) 7 = .bool false ∧ (upd V 21 (.bool false)) 20 = .bool false from ⟨e7, e20⟩)
                  clear hK hC hW hL HV s0
                  rw [HFR.out]
                  rw [e7, e20]
                  clear e7 e20
                  go_wp2_with fail
                  show K _ _
                  have := H.out _ (Ext.refl _)
                  rw [HFR.out] at this
                  obtain ⟨u7, u20⟩ := HU.out
                  rw [u7, u20] at this
                  exact this
                · rintro L A W hL ⟨V, rfl, HV, s0⟩
                  have e0 : V 0 = .agg #[na, ns, np] := HV 0 _ rfl (hL 0 (by simp))
                  have e1 : V 1 = .pointer (some ⟨g8, 1, none⟩) := HV 1 _ rfl (hL 1 (by simp))
                  have e2 : V 2 = .agg (cS d.q) := HV 2 _ rfl (hL 2 (by simp))
                  have e3 : V 3 = wv d.p.val := HV 3 _ rfl (hL 3 (by simp))
                  have e4 : V 4 = .pointer (some ⟨g8, 6, none⟩) := HV 4 _ rfl (hL 4 (by simp))
                  have e5 : V 5 = wv d.p.val := HV 5 _ rfl (hL 5 (by simp))
                  have e6 : V 6 = .bool false := HV 6 _ rfl (hL 6 (by simp))
                  have e7 : V 7 = .bool false := HV 7 _ rfl (hL 7 (by simp))
                  have e8 : V 8 = .agg (cS q) := HV 8 _ rfl (hL 8 (by simp))
                  have e9 : V 9 = .pointer (some ⟨g8, 1, none⟩) := HV 9 _ rfl (hL 9 (by simp))
                  have e10 : V 10 = .agg (cS d.q) := HV 10 _ rfl (hL 10 (by simp))
                  have e11 : V 11 = .bool true := HV 11 _ rfl (hL 11 (by simp))
                  have e12 : V 12 = .bool true := HV 12 _ rfl (hL 12 (by simp))
                  have e13 : V 13 = .agg #[na, ns, np] := HV 13 _ rfl (hL 13 (by simp))
                  have e14 : V 14 = .agg (cS q) := HV 14 _ rfl (hL 14 (by simp))
                  have e15 : V 15 = wv lq := HV 15 _ rfl (hL 15 (by simp))
                  have e16 : V 16 = .agg #[xa, .slice XS x.s.length cxs, xp] := HV 16 _ rfl (hL 16 (by simp))
                  have e17 : V 17 = .agg (cS q) := HV 17 _ rfl (hL 17 (by simp))
                  have e18 : V 18 = wv lq := HV 18 _ rfl (hL 18 (by simp))
                  have e19 : V 19 = .bool false := HV 19 _ rfl (hL 19 (by simp))
                  have e20 : V 20 = .bool false := HV 20 _ rfl (hL 20 (by simp))
                  have e21 : V 21 = .bool false := HV 21 _ rfl (hL 21 (by simp))
                  have hA := s0
                  rw [HFR.out]
                  rw [e0, e1, e2, e3, e4, e5, e6, e7, e8, e9, e10, e11, e12, e13, e14, e15, e16, e17, e18, e19, e20, e21]
                  clear hL HV HFR e0 e1 e2 e3 e4 e5 e6 e7 e8 e9 e10 e11 e12 e13 e14 e15 e16 e17 e18 e19 e20 e21 s0
                  have HAA := Lib.hid hA.2.2.2.2
                  clear hA
                  have HJ := Lib.hid (HJ.out.ext HAA.out)
                  have HRN := Lib.hid (HRN.out.ext HAA.out)
                  have G9 := Lib.hid (Cs.ext G9.out HAA.out)
                  have G3 := Lib.hid (Cs.ext G3.out HAA.out)
                  clear HAA
                  go_wp2_with (first
                    | ((with_reducible refine wpList_loadX ?_ (.tmp 9) ?_ g9 na ns np ?_ G9.out ?_); (exact rfl); (exact rfl); (exact rfl))
                    | ((with_reducible refine wpList_storeX ?_ ?_ (.tmp 3) (.tmp 129) ?_ g3 xa (.slice XS x.s.length cxs) xp na ns np ?_ ?_ Z1.out Z2.out Z3.out G3.out ?_); (exact rfl); (exact rfl); (exact rfl); (exact rfl); (exact rfl); intro we ke ge; have HJN := Lib.hid (StJ.next HJ.out HRN.out ke ge HN.out.1 HN.out.2); clear ke ge))
                  exact ⟨⟨i + 1, na, ns, np, _, by omega, by go_num, HRR, HJN⟩, by simp [intOf]; omega⟩
        | true =>
          have HWN := Lib.hid (HWM.out hwx)
          have q50 : wy.cell? ⟨g5, 0, none⟩ = some (.int .u64 (q.addr : Nat)) := HJ.out.2.2.2.cell 0 _ rfl
          clear hwx
          go_wp2_with ((with_reducible refine wpList_loadX ?_ (.tmp 9) ?_ g9 na ns np ?_ G9.out ?_); (exact rfl); (exact rfl); (exact rfl))
          refine (warmX_any _ _ _ (doX x d).1 ⟨q.addr, 0, 0⟩ _ HRN.out.rowsS ⟨HQ.out.1, rfl, rfl⟩).mono ?_
          rintro e wy ⟨rfl, he⟩
          rw [HWN.out]
          have HJ := Lib.hid (HJ.out.ext he)
          have G3 := Lib.hid (Cs.ext G3.out he)
          have G8 := Lib.hid (Cs.ext G8.out he)
          have G9 := Lib.hid (Cs.ext G9.out he)
          have HRN := Lib.hid (HRN.out.ext he)
          clear he q50
          have q31 : wy.cell? ⟨g3, 1, none⟩ = some (.slice XS x.s.length cxs) := G3.out.cell 1 _ rfl
          go_wp2_with fail
          clear q31
          go_loopw [65] (fun jv wr => ∃ j : Nat, j ≤ x.s.length ∧ jv = .int .i64 j ∧ Hid (Ext wy wr)) (fun jv _ => x.s.length - (intOf jv).toNat)
          case atStart => exact ⟨0, Nat.zero_le _, rfl, Lib.hid (Ext.refl _)⟩
          case round =>
            obtain ⟨j, hj, rfl, HZ⟩ := hrel
            have HJ := Lib.hid (HJ.out.ext HZ.out)
            have G3 := Lib.hid (Cs.ext G3.out HZ.out)
            have G8 := Lib.hid (Cs.ext G8.out HZ.out)
            have G9 := Lib.hid (Cs.ext G9.out HZ.out)
            have HRN := Lib.hid (HRN.out.ext HZ.out)
            by_cases hjl : j < x.s.length
            · have hd5 : decide (j < x.s.length) = true := decide_eq_true hjl
              have hd6 : decide ((j : Int) < (x.s.length : Int)) = true := decide_eq_true (by omega)
              obtain ⟨b2, o2, rfl, hrg, hok⟩ := (HJ.out.2.2.1.rows HJ.out.1).2.1.at j hjl
              have HR2 := Lib.hid hrg
              have HO2 := Lib.hid hok
              have HM := Lib.hid (HSP.out _ (getX_mem hjl))
              clear hrg hok
              generalize x.s.getD j pz0 = y at *
              go_wp2_with (first
                | ((with_reducible refine wpList_loadS ?_ (.tmp 67) ?_ b2 (o2 + j * 5) y ?_ ?_ ?_); (exact rfl); (exact rfl); (exact rfl); (exact HR2.out))
                | ((with_reducible refine wpList_storeS ?_ ?_ (.tmp 13) (.tmp 68) ?_ wr.heap.size pz0 y ?_ ?_ ?_ ?_); (exact rfl); (exact rfl); (exact rfl); (exact rfl); (exact rfl); (exact Cs.new _ _ _ _ rfl); intro wb kb gb; have EB := Lib.hid (((Ext.refl wr).alloc _).grown gb (Nat.le_refl _)); have RB := Lib.hid (Cs.rg kb); have q91 : wb.cell? ⟨g9, 1, none⟩ = some ns := (Cs.ext G9.out EB.out).cell 1 _ rfl; clear kb gb)
                | ((with_reducible refine wpList_loadS ?_ (.tmp 13) ?_ wr.heap.size 0 y ?_ ?_ ?_); (exact rfl); (exact rfl); (exact rfl); (exact RB.out)))
              refine (containsS_any ns (doX x d).1.s y _ (HRN.out.ext EB.out).rowsS.2.1 HO2.out).mono ?_
              rintro e wq ⟨rfl, he⟩
              rw [decide_eq_true HM.out]
              have HZQ := Lib.hid ((HZ.out.trans EB.out).trans he)
              clear he q91
              go_wp2_with fail
              exact ⟨⟨j + 1, by omega, by go_num, HZQ⟩, by simp [intOf]; omega⟩
            · obtain rfl : j = x.s.length := by omega
              have hd5 : decide (x.s.length < x.s.length) = false := decide_eq_false (by omega)
              have hd6 : decide ((x.s.length : Int) < (x.s.length : Int)) = false := decide_eq_false (by omega)
              have q80 : wr.cell? ⟨g8, 0, none⟩ = some (.int .i64 d.kind) := G8.out.cell 0 _ rfl
              obtain ⟨lq, hlq⟩ : ∃ n, loadX x q = n := ⟨_, rfl⟩
              have HLQ := Lib.hid hlq
              have HLV := Lib.hid (show lq < M256 by rw [← hlq]; exact load_val (HJ.out.2.2.1.rows HJ.out.1).2.2.oks q)
              clear hlq
              by_cases hk : kdE d = 2
              case neg =>
                have fk : decide ((IntKind.u64.wrap d.kind).tmod 3 < 2) = true := decide_eq_true (by
                  rcases kdE_cases d with h | h | h
                  · rw [show (IntKind.u64.wrap d.kind).tmod 3 = kdE d from rfl, h]; decide
                  · rw [show (IntKind.u64.wrap d.kind).tmod 3 = kdE d from rfl, h]; decide
                  · exact absurd h hk)
                have HAG := Lib.hid (HAG.out hk)
                have HLS := Lib.hid ((HLS.out hk).trans HLQ.out)
                have R8 := Lib.hid (Cs.rg G8.out)
                clear hk
                go_wp2_with (first
                  | ((with_reducible refine wpList_loadDm ?_ (.tmp 8) ?_ g8 0 d ?_ ?_ ?_); (exact rfl); (exact rfl); (exact rfl); (exact R8.out))
                  | ((with_reducible refine wpList_loadX ?_ (.tmp 9) ?_ g9 na ns np ?_ G9.out ?_); (exact rfl); (exact rfl); (exact rfl)))
                refine (does_any d _ _ _ (doX x d).1 _ HD.out HRN.out.rowsS).mono ?_
                rintro e wk ⟨vk, rfl, hr, he⟩
                rw [HAG.out] at hr ⊢
                dsimp only at hr ⊢
                have HJ := Lib.hid (HJ.out.ext he)
                have G3 := Lib.hid (Cs.ext G3.out he)
                have G8 := Lib.hid (Cs.ext G8.out he)
                have G9 := Lib.hid (Cs.ext G9.out he)
                have HRN := Lib.hid (HRN.out.ext he)
                obtain ⟨ga, gs, gp, rfl, hgr, y1, y2, y3⟩ := hr.ax
                have HGR := Lib.hid hgr
                have V1 := Lib.hid y1
                have V2 := Lib.hid y2
                have V3 := Lib.hid y3
                clear hr he hgr y1 y2 y3 q80
                go_upto_region 20 with ((with_reducible refine wpList_storeX ?_ ?_ (.tmp 14) (.tmp 84) ?_ wk.heap.size (.slice none 0 0) (.slice none 0 0) (.slice none 0 0) ga gs gp ?_ ?_ V1.out V2.out V3.out (Cs.new _ _ _ _ rfl) ?_); (exact rfl); (exact rfl); (exact rfl); (exact rfl); (exact rfl); intro wz kz gz; have EZ := Lib.hid (((Ext.refl wk).alloc _).grown gz (Nat.le_refl _)); have G14 := Lib.hid kz; clear kz gz)
                have HJ := Lib.hid (HJ.out.ext EZ.out)
                have G3 := Lib.hid (Cs.ext G3.out EZ.out)
                have G8 := Lib.hid (Cs.ext G8.out EZ.out)
                have G9 := Lib.hid (Cs.ext G9.out EZ.out)
                have HRN := Lib.hid (HRN.out.ext EZ.out)
                have HGR := Lib.hid (HGR.out.ext EZ.out)
                obtain ⟨g14, hg14⟩ : ∃ g, wk.heap.size = g := ⟨_, rfl⟩
                rw [hg14] at G14 ⊢
                clear hg14
                have HSM := Lib.hid (fun W (h : Ext wz W) => show Calls Try.prog 12 #[.agg #[ga, gs, gp], .agg #[na, ns, np]] W (fun e w' => e = .returned (.bool true) ∧ Ext W w') from by have := sameX_any ga gs gp na ns np _ _ W (HGR.out.ext h) (HRN.out.ext h).rowsS; rwa [sameX_iff.2 rfl] at this)
                have HLN := Lib.hid (fun W (h : Ext wz W) => show Calls Try.prog 15 #[.agg #[na, ns, np], .agg (cS q)] W (fun e w' => e = .returned (wv lq) ∧ Ext W w') from by have := loadX_any na ns np _ q W (HRN.out.ext h).rowsS HQ.out; rwa [HLS.out] at this)
                have HLX := Lib.hid (fun W (h : Ext wz W) => show Calls Try.prog 15 #[.agg #[xa, .slice XS x.s.length cxs, xp], .agg (cS q)] W (fun e w' => e = .returned (wv lq) ∧ Ext W w') from by have := loadX_any _ _ _ x q W ((HJ.out.2.2.1.rows HJ.out.1).ext h) HQ.out; rwa [HLQ.out] at this)
                have G5 : Hid (Cs wz g5 32 (cS q)) := Lib.hid HJ.out.2.2.2
                refine wp_named fun a0 ha0 => ?_
                obtain ⟨fr, hfr⟩ : ∃ fr : (Nat → Value) → Act, ∀ V, fr V = ((((((((((((((((((((a0.put (some 87) (V 0)).put (some 88) (V 1)).put (some 89) (V 2)).put (some 90) (V 3)).put (some 91) (V 4)).put (some 92) (V 5)).put (some 93) (V 6)).put (some 94) (V 7)).put (some 95) (V 8)).put (some 96) (V 9)).put (some 97) (V 10)).put (some 98) (V 11)).put (some 99) (V 12)).put (some 100) (V 13)).put (some 101) (V 14)).put (some 102) (V 15)).put (some 103) (V 16)).put (some 104) (V 17)).put (some 105) (V 18)).put (some 106) (V 19)) := ⟨fun V => ((((((((((((((((((((a0.put (some 87) (V 0)).put (some 88) (V 1)).put (some 89) (V 2)).put (some 90) (V 3)).put (some 91) (V 4)).put (some 92) (V 5)).put (some 93) (V 6)).put (some 94) (V 7)).put (some 95) (V 8)).put (some 96) (V 9)).put (some 97) (V 10)).put (some 98) (V 11)).put (some 99) (V 12)).put (some 100) (V 13)).put (some 101) (V 14)).put (some 102) (V 15)).put (some 103) (V 16)).put (some 104) (V 17)).put (some 105) (V 18)).put (some 106) (V 19)), fun _ => rfl⟩
                rw [ha0] at hfr
                simp only [Act.put, List.setIfInBounds_toArray, List.set_cons_zero, List.set_cons_succ] at hfr
                have HFR := Lib.hid hfr
                clear hfr
                refine wp_region_inv (by kernel_rfl) (by kernel_rfl) (fun L A W => ∃ V : Nat → Value, A = fr V ∧ Vals (fun j => ([some (.bool false), some (.bool false), some (.int .i64 0), some (.bool false), some (.bool false), some (.bool false), some (.agg #[ga, gs, gp]), some (.agg #[na, ns, np]), some (.bool true), some (.bool false), some (.bool false), some (.bool false), some (.agg #[na, ns, np]), some (.agg (cS q)), some (wv lq), some (.agg #[xa, .slice XS x.s.length cxs, xp]), some (.agg (cS q)), some (wv lq), some (.bool false), some (.bool false)] : List (Option Value)).getD j none) L V ∧ (Cs W g3 26 #[xa, .slice XS x.s.length cxs, xp] ∧ Cs W g9 26 #[na, ns, np] ∧ Cs W g5 32 (cS q) ∧ Cs W g14 26 #[ga, gs, gp] ∧ Ext wz W)) ?_ ⟨?_, ?_, ?_, ?_, ?_, ?_, ?_, ?_, ?_, ?_, ?_, ?_, ?_, ?_, ?_, ?_, ?_, ?_, ?_, ?_, trivial⟩ ?_
                · refine ⟨fun j => a0.tmps.getD (([87, 88, 89, 90, 91, 92, 93, 94, 95, 96, 97, 98, 99, 100, 101, 102, 103, 104, 105, 106] : List Nat).getD j 0) undef, ?_, Vals.no _ _ _ (far_none _ _ rfl), ⟨Cs.ext G3.out (Ext.refl _).drew, Cs.ext G9.out (Ext.refl _).drew, Cs.ext G5.out (Ext.refl _).drew, Cs.ext G14.out (Ext.refl _).drew, (Ext.refl _).drew⟩⟩
                  rw [HFR.out, ha0]
                  rfl
                all_goals clear ha0
                · rintro L A W K hL hC hW ⟨V, rfl, HV, s0⟩ hK
                  have H := Lib.hid (show ∀ W', Ext W W' → K (fr (upd V 0 (.bool false))) W' from fun W' he => hK _ _ ⟨upd V 0 (.bool false), rfl, HV.up 0 _ (fun x hx => Option.some.inj hx), S20.ext s0 he⟩)
                  clear hK hC hW hL HV s0
                  rw [HFR.out]
                  go_wp2_with fail
                  show K _ _
                  have := H.out _ (Ext.refl _)
                  rw [HFR.out] at this
                  exact this
                · rintro L A W K hL hC hW ⟨V, rfl, HV, s0⟩ hK
                  have e0 : V 0 = .bool false := HV 0 _ rfl (hW 0 rfl)
                  have H := Lib.hid (show ∀ W', Ext W W' → K (fr (upd V 1 (.bool false))) W' from fun W' he => hK _ _ ⟨upd V 1 (.bool false), rfl, HV.up 1 _ (fun x hx => Option.some.inj hx), S20.ext s0 he⟩)
                  have HU := Lib.hid (show (upd V 1 (.bool false)) 0 = .bool false from e0)
                  clear hK hC hW hL HV s0
                  rw [HFR.out]
                  rw [e0]
                  clear e0
                  go_wp2_with fail
                  show K _ _
                  have := H.out _ (Ext.refl _)
                  rw [HFR.out] at this
                  obtain u0 := HU.out
                  rw [u0] at this
                  exact this
                · rintro L A W K hL hC hW ⟨V, rfl, HV, s0⟩ hK
                  have e1 : V 1 = .bool false := HV 1 _ rfl (hW 1 rfl)
                  have H := Lib.hid (show ∀ W', Ext W W' → K (fr (upd V 2 (.int .i64 0))) W' from fun W' he => hK _ _ ⟨upd V 2 (.int .i64 0), rfl, HV.up 2 _ (fun x hx => Option.some.inj hx), S20.ext s0 he⟩)
                  have HU := Lib.hid (show (upd V 2 (.int .i64 0)) 1 = .bool false from e1)
                  clear hK hC hW hL HV s0
                  rw [HFR.out]
                  rw [e1]
                  clear e1
                  go_wp2_with fail
                  show K _ _
                  have := H.out _ (Ext.refl _)
                  rw [HFR.out] at this
                  obtain u1 := HU.out
                  rw [u1] at this
                  exact this
                · rintro L A W K hL hC hW ⟨V, rfl, HV, s0⟩ hK
                  have e1 : V 1 = .bool false := HV 1 _ rfl (hW 1 rfl)
                  have e2 : V 2 = .int .i64 0 := HV 2 _ rfl (hW 2 rfl)
                  have H := Lib.hid (show ∀ W', Ext W W' → K (fr (upd V 3 (.bool false))) W' from fun W' he => hK _ _ ⟨upd V 3 (.bool false), rfl, HV.up 3 _ (fun x hx => Option.some.inj hx), S20.ext s0 he⟩)
                  have HU := Lib.hid (show (upd V 3 (.bool false)) 1 = .bool false ∧ (upd V 3 (.bool false)) 2 = .int .i64 0 from ⟨e1, e2⟩)
                  clear hK hC hW hL HV s0
                  rw [HFR.out]
                  rw [e1, e2]
                  clear e1 e2
                  go_wp2_with fail
                  show K _ _
                  have := H.out _ (Ext.refl _)
                  rw [HFR.out] at this
                  obtain ⟨u1, u2⟩ := HU.out
                  rw [u1, u2] at this
                  exact this
                · rintro L A W K hL hC hW ⟨V, rfl, HV, s0⟩ hK
                  have e1 : V 1 = .bool false := HV 1 _ rfl (hW 1 rfl)
                  have e3 : V 3 = .bool false := HV 3 _ rfl (hW 3 rfl)
                  have H := Lib.hid (show ∀ W', Ext W W' → K (fr (upd V 4 (.bool false))) W' from fun W' he => hK _ _ ⟨upd V 4 (.bool false), rfl, HV.up 4 _ (fun x hx => Option.some.inj hx), S20.ext s0 he⟩)
                  have HU := Lib.hid (show (upd V 4 (.bool false)) 1 = .bool false ∧ (upd V 4 (.bool false)) 3 = .bool false from ⟨e1, e3⟩)
                  clear hK hC hW hL HV s0
                  rw [HFR.out]
                  rw [e1, e3]
                  clear e1 e3
                  go_wp2_with fail
                  show K _ _
                  have := H.out _ (Ext.refl _)
                  rw [HFR.out] at this
                  obtain ⟨u1, u3⟩ := HU.out
                  rw [u1, u3] at this
                  exact this
                · rintro L A W K hL hC hW ⟨V, rfl, HV, s0⟩ hK
                  have e4 : V 4 = .bool false := HV 4 _ rfl (hW 4 rfl)
                  have H := Lib.hid (show ∀ W', Ext W W' → K (fr (upd V 5 (.bool false))) W' from fun W' he => hK _ _ ⟨upd V 5 (.bool false), rfl, HV.up 5 _ (fun x hx => Option.some.inj hx), S20.ext s0 he⟩)
                  have HU := Lib.hid (show (upd V 5 (.bool false)) 4 = .bool false from e4)
                  clear hK hC hW hL HV s0
                  rw [HFR.out]
                  rw [e4]
                  clear e4
                  go_wp2_with fail
                  show K _ _
                  have := H.out _ (Ext.refl _)
                  rw [HFR.out] at this
                  obtain u4 := HU.out
                  rw [u4] at this
                  exact this
                · rintro L A W K hL hC hW ⟨V, rfl, HV, s0⟩ hK
                  have e5 : V 5 = .bool false := HV 5 _ rfl (hW 5 rfl)
                  have hB := s0
                  have H := Lib.hid (show ∀ W', Ext W W' → K (fr (upd V 6 (.agg #[ga, gs, gp]))) W' from fun W' he => hK _ _ ⟨upd V 6 (.agg #[ga, gs, gp]), rfl, HV.up 6 _ (fun x hx => Option.some.inj hx), S20.ext s0 he⟩)
                  have HU := Lib.hid (show (upd V 6 (.agg #[ga, gs, gp])) 5 = .bool false from e5)
                  clear hK hC hW hL HV s0
                  rw [HFR.out]
                  rw [e5]
                  clear e5
                  have HWW := Lib.hid hB.2.2.2.1
                  clear hB
                  refine wpList_loadX rfl (.tmp 14) rfl g14 ga gs gp rfl HWW.out ?_
                  show K _ _
                  have := H.out _ (Ext.refl _)
                  rw [HFR.out] at this
                  obtain u5 := HU.out
                  rw [u5] at this
                  exact this
                · rintro L A W K hL hC hW ⟨V, rfl, HV, s0⟩ hK
                  have e5 : V 5 = .bool false := HV 5 _ rfl (hW 5 rfl)
                  have hB := s0
                  have H := Lib.hid (show ∀ W', Ext W W' → K (fr (upd V 7 (.agg #[na, ns, np]))) W' from fun W' he => hK _ _ ⟨upd V 7 (.agg #[na, ns, np]), rfl, HV.up 7 _ (fun x hx => Option.some.inj hx), S20.ext s0 he⟩)
                  have HU := Lib.hid (show (upd V 7 (.agg #[na, ns, np])) 5 = .bool false from e5)
                  clear hK hC hW hL HV s0
                  rw [HFR.out]
                  rw [e5]
                  clear e5
                  have HWW := Lib.hid hB.2.1
                  clear hB
                  refine wpList_loadX rfl (.tmp 9) rfl g9 na ns np rfl HWW.out ?_
                  show K _ _
                  have := H.out _ (Ext.refl _)
                  rw [HFR.out] at this
                  obtain u5 := HU.out
                  rw [u5] at this
                  exact this
                · rintro L A W K hL hC hW ⟨V, rfl, HV, s0⟩ hK
                  have e5 : V 5 = .bool false := HV 5 _ rfl (hW 5 rfl)
                  have e6 : V 6 = .agg #[ga, gs, gp] := HV 6 _ rfl (hW 6 rfl)
                  have e7 : V 7 = .agg #[na, ns, np] := HV 7 _ rfl (hW 7 rfl)
                  have hB := s0
                  have H := Lib.hid (show ∀ W', Ext W W' → K (fr (upd V 8 (.bool true))) W' from fun W' he => hK _ _ ⟨upd V 8 (.bool true), rfl, HV.up 8 _ (fun x hx => Option.some.inj hx), S20.ext s0 he⟩)
                  have HU := Lib.hid (show (upd V 8 (.bool true)) 5 = .bool false ∧ (upd V 8 (.bool true)) 6 = .agg #[ga, gs, gp] ∧ (upd V 8 (.bool true)) 7 = .agg #[na, ns, np] from ⟨e5, e6, e7⟩)
                  clear hK hC hW hL HV s0
                  rw [HFR.out]
                  rw [e5, e6, e7]
                  clear e5 e6 e7
                  have HB := Lib.hid hB.2.2.2.2
                  clear hB
                  go_wp2_with fail
                  refine (HSM.out _ HB.out).mono ?_
                  rintro e wx ⟨rfl, he⟩
                  have := H.out _ he
                  clear H
                  go_wp2_with fail
                  show K _ _
                  rw [HFR.out] at this
                  obtain ⟨u5, u6, u7⟩ := HU.out
                  rw [u5, u6, u7] at this
                  exact this
                · rintro L A W K hL hC hW ⟨V, rfl, HV, s0⟩ hK
                  have e5 : V 5 = .bool false := HV 5 _ rfl (hW 5 rfl)
                  have e8 : V 8 = .bool true := HV 8 _ rfl (hW 8 rfl)
                  have H := Lib.hid (show ∀ W', Ext W W' → K (fr (upd V 9 (.bool false))) W' from fun W' he => hK _ _ ⟨upd V 9 (.bool false), rfl, HV.up 9 _ (fun x hx => Option.some.inj hx), S20.ext s0 he⟩)
                  have HU := Lib.hid (show (upd V 9 (.bool false)) 5 = .bool false ∧ (upd V 9 (.bool false)) 8 = .bool true from ⟨e5, e8⟩)
                  clear hK hC hW hL HV s0
                  rw [HFR.out]
                  rw [e5, e8]
                  clear e5 e8
                  go_wp2_with fail
                  show K _ _
                  have := H.out _ (Ext.refl _)
                  rw [HFR.out] at this
                  obtain ⟨u5, u8⟩ := HU.out
                  rw [u5, u8] at this
                  exact this
                · rintro L A W K hL hC hW ⟨V, rfl, HV, s0⟩ hK
                  have e5 : V 5 = .bool false := HV 5 _ rfl (hW 5 rfl)
                  have e9 : V 9 = .bool false := HV 9 _ rfl (hW 9 rfl)
                  have H := Lib.hid (show ∀ W', Ext W W' → K (fr (upd V 10 (.bool false))) W' from fun W' he => hK _ _ ⟨upd V 10 (.bool false), rfl, HV.up 10 _ (fun x hx => Option.some.inj hx), S20.ext s0 he⟩)
                  have HU := Lib.hid (show (upd V 10 (.bool false)) 5 = .bool false ∧ (upd V 10 (.bool false)) 9 = .bool false from ⟨e5, e9⟩)
                  clear hK hC hW hL HV s0
                  rw [HFR.out]
                  rw [e5, e9]
                  clear e5 e9
                  go_wp2_with fail
                  show K _ _
                  have := H.out _ (Ext.refl _)
                  rw [HFR.out] at this
                  obtain ⟨u5, u9⟩ := HU.out
                  rw [u5, u9] at this
                  exact this
                · rintro L A W K hL hC hW ⟨V, rfl, HV, s0⟩ hK
                  have e10 : V 10 = .bool false := HV 10 _ rfl (hW 10 rfl)
                  have H := Lib.hid (show ∀ W', Ext W W' → K (fr (upd V 11 (.bool false))) W' from fun W' he => hK _ _ ⟨upd V 11 (.bool false), rfl, HV.up 11 _ (fun x hx => Option.some.inj hx), S20.ext s0 he⟩)
                  have HU := Lib.hid (show (upd V 11 (.bool false)) 10 = .bool false from e10)
                  clear hK hC hW hL HV s0
                  rw [HFR.out]
                  rw [e10]
                  clear e10
                  go_wp2_with fail
                  show K _ _
                  have := H.out _ (Ext.refl _)
                  rw [HFR.out] at this
                  obtain u10 := HU.out
                  rw [u10] at this
                  exact this
                · rintro L A W K hL hC hW ⟨V, rfl, HV, s0⟩ hK
                  have e11 : V 11 = .bool false := HV 11 _ rfl (hW 11 rfl)
                  have hB := s0
                  have H := Lib.hid (show ∀ W', Ext W W' → K (fr (upd V 12 (.agg #[na, ns, np]))) W' from fun W' he => hK _ _ ⟨upd V 12 (.agg #[na, ns, np]), rfl, HV.up 12 _ (fun x hx => Option.some.inj hx), S20.ext s0 he⟩)
                  have HU := Lib.hid (show (upd V 12 (.agg #[na, ns, np])) 11 = .bool false from e11)
                  clear hK hC hW hL HV s0
                  rw [HFR.out]
                  rw [e11]
                  clear e11
                  have HWW := Lib.hid hB.2.1
                  clear hB
                  refine wpList_loadX rfl (.tmp 9) rfl g9 na ns np rfl HWW.out ?_
                  show K _ _
                  have := H.out _ (Ext.refl _)
                  rw [HFR.out] at this
                  obtain u11 := HU.out
                  rw [u11] at this
                  exact this
                · rintro L A W K hL hC hW ⟨V, rfl, HV, s0⟩ hK
                  have e11 : V 11 = .bool false := HV 11 _ rfl (hW 11 rfl)
                  have hB := s0
                  have H := Lib.hid (show ∀ W', Ext W W' → K (fr (upd V 13 (.agg (cS q)))) W' from fun W' he => hK _ _ ⟨upd V 13 (.agg (cS q)), rfl, HV.up 13 _ (fun x hx => Option.some.inj hx), S20.ext s0 he⟩)
                  have HU := Lib.hid (show (upd V 13 (.agg (cS q))) 11 = .bool false from e11)
                  clear hK hC hW hL HV s0
                  rw [HFR.out]
                  rw [e11]
                  clear e11
                  have HWW := Lib.hid (Cs.rg hB.2.2.1)
                  clear hB
                  refine wpList_loadS rfl (.tmp 5) rfl g5 0 q rfl HWW.out ?_
                  show K _ _
                  have := H.out _ (Ext.refl _)
                  rw [HFR.out] at this
                  obtain u11 := HU.out
                  rw [u11] at this
                  exact this
                · rintro L A W K hL hC hW ⟨V, rfl, HV, s0⟩ hK
                  have e11 : V 11 = .bool false := HV 11 _ rfl (hW 11 rfl)
                  have e12 : V 12 = .agg #[na, ns, np] := HV 12 _ rfl (hW 12 rfl)
                  have e13 : V 13 = .agg (cS q) := HV 13 _ rfl (hW 13 rfl)
                  have hB := s0
                  have H := Lib.hid (show ∀ W', Ext W W' → K (fr (upd V 14 (wv lq))) W' from fun W' he => hK _ _ ⟨upd V 14 (wv lq), rfl, HV.up 14 _ (fun x hx => Option.some.inj hx), S20.ext s0 he⟩)
                  have HU := Lib.hid (show (upd V 14 (wv lq)) 11 = .bool false ∧ (upd V 14 (wv lq)) 12 = .agg #[na, ns, np] ∧ (upd V 14 (wv lq)) 13 = .agg (cS q) from ⟨e11, e12, e13⟩)
                  clear hK hC hW hL HV s0
                  rw [HFR.out]
                  rw [e11, e12, e13]
                  clear e11 e12 e13
                  have HB := Lib.hid hB.2.2.2.2
                  clear hB
                  go_wp2_with fail
                  refine (HLN.out _ HB.out).mono ?_
                  rintro e wx ⟨rfl, he⟩
                  have := H.out _ he
                  clear H
                  go_wp2_with fail
                  show K _ _
                  rw [HFR.out] at this
                  obtain ⟨u11, u12, u13⟩ := HU.out
                  rw [u11, u12, u13] at this
                  exact this
                · rintro L A W K hL hC hW ⟨V, rfl, HV, s0⟩ hK
                  have e11 : V 11 = .bool false := HV 11 _ rfl (hW 11 rfl)
                  have hB := s0
                  have H := Lib.hid (show ∀ W', Ext W W' → K (fr (upd V 15 (.agg #[xa, .slice XS x.s.length cxs, xp]))) W' from fun W' he => hK _ _ ⟨upd V 15 (.agg #[xa, .slice XS x.s.length cxs, xp]), rfl, HV.up 15 _ (fun x hx => Option.some.inj hx), S20.ext s0 he⟩)
                  have HU := Lib.hid (show (upd V 15 (.agg #[xa, .slice XS x.s.length cxs, xp])) 11 = .bool false from e11)
                  clear hK hC hW hL HV s0
                  rw [HFR.out]
                  rw [e11]
                  clear e11
                  have HWW := Lib.hid hB.1
                  clear hB
                  refine wpList_loadX rfl (.tmp 3) rfl g3 xa (.slice XS x.s.length cxs) xp rfl HWW.out ?_
                  show K _ _
                  have := H.out _ (Ext.refl _)
                  rw [HFR.out] at this
                  obtain u11 := HU.out
                  rw [u11] at this
                  exact this
                · rintro L A W K hL hC hW ⟨V, rfl, HV, s0⟩ hK
                  have e11 : V 11 = .bool false := HV 11 _ rfl (hW 11 rfl)
                  have hB := s0
                  have H := Lib.hid (show ∀ W', Ext W W' → K (fr (upd V 16 (.agg (cS q)))) W' from fun W' he => hK _ _ ⟨upd V 16 (.agg (cS q)), rfl, HV.up 16 _ (fun x hx => Option.some.inj hx), S20.ext s0 he⟩)
                  have HU := Lib.hid (show (upd V 16 (.agg (cS q))) 11 = .bool false from e11)
                  clear hK hC hW hL HV s0
                  rw [HFR.out]
                  rw [e11]
                  clear e11
                  have HWW := Lib.hid (Cs.rg hB.2.2.1)
                  clear hB
                  refine wpList_loadS rfl (.tmp 5) rfl g5 0 q rfl HWW.out ?_
                  show K _ _
                  have := H.out _ (Ext.refl _)
                  rw [HFR.out] at this
                  obtain u11 := HU.out
                  rw [u11] at this
                  exact this
                · rintro L A W K hL hC hW ⟨V, rfl, HV, s0⟩ hK
                  have e11 : V 11 = .bool false := HV 11 _ rfl (hW 11 rfl)
                  have e15 : V 15 = .agg #[xa, .slice XS x.s.length cxs, xp] := HV 15 _ rfl (hW 15 rfl)
                  have e16 : V 16 = .agg (cS q) := HV 16 _ rfl (hW 16 rfl)
                  have hB := s0
                  have H := Lib.hid (show ∀ W', Ext W W' → K (fr (upd V 17 (wv lq))) W' from fun W' he => hK _ _ ⟨upd V 17 (wv lq), rfl, HV.up 17 _ (fun x hx => Option.some.inj hx), S20.ext s0 he⟩)
                  have HU := Lib.hid (show (upd V 17 (wv lq)) 11 = .bool false ∧ (upd V 17 (wv lq)) 15 = .agg #[xa, .slice XS x.s.length cxs, xp] ∧ (upd V 17 (wv lq)) 16 = .agg (cS q) from ⟨e11, e15, e16⟩)
                  clear hK hC hW hL HV s0
                  rw [HFR.out]
                  rw [e11, e15, e16]
                  clear e11 e15 e16
                  have HB := Lib.hid hB.2.2.2.2
                  clear hB
                  go_wp2_with fail
                  refine (HLX.out _ HB.out).mono ?_
                  rintro e wx ⟨rfl, he⟩
                  have := H.out _ he
                  clear H
                  go_wp2_with fail
                  show K _ _
                  rw [HFR.out] at this
                  obtain ⟨u11, u15, u16⟩ := HU.out
                  rw [u11, u15, u16] at this
                  exact this
                · rintro L A W K hL hC hW ⟨V, rfl, HV, s0⟩ hK
                  have e11 : V 11 = .bool false := HV 11 _ rfl (hW 11 rfl)
                  have e14 : V 14 = wv lq := HV 14 _ rfl (hW 14 rfl)
                  have e17 : V 17 = wv lq := HV 17 _ rfl (hW 17 rfl)
                  have hB := s0
                  have H := Lib.hid (show ∀ W', Ext W W' → K (fr (upd V 18 (.bool false))) W' from fun W' he => hK _ _ ⟨upd V 18 (.bool false), rfl, HV.up 18 _ (fun x hx => Option.some.inj hx), S20.ext s0 he⟩)
                  have HU := Lib.hid (show (upd V 18 (.bool false)) 11 = .bool false ∧ (upd V 18 (.bool false)) 14 = wv lq ∧ (upd V 18 (.bool false)) 17 = wv lq from ⟨e11, e14, e17⟩)
                  clear hK hC hW hL HV s0
                  rw [HFR.out]
                  rw [e11, e14, e17]
                  clear e11 e14 e17
                  clear hB
                  refine wpList_neq_word rfl (.tmp 101) (.tmp 104) rfl lq lq HLV.out HLV.out rfl rfl ?_
                  rw [show (lq != lq) = false from bne_self_eq_false lq]
                  show K _ _
                  have := H.out _ (Ext.refl _)
                  rw [HFR.out] at this
                  obtain ⟨u11, u14, u17⟩ := HU.out
                  rw [u11, u14, u17] at this
                  exact this
                · rintro L A W K hL hC hW ⟨V, rfl, HV, s0⟩ hK
                  have e11 : V 11 = .bool false := HV 11 _ rfl (hW 11 rfl)
                  have e18 : V 18 = .bool false := HV 18 _ rfl (hW 18 rfl)
                  have H := Lib.hid (show ∀ W', Ext W W' → K (fr (upd V 19 (.bool false))) W' from fun W' he => hK _ _ ⟨upd V 19 (.bool false), rfl, HV.up 19 _ (fun x hx => Option.some.inj hx), S20.ext s0 he⟩)
                  have HU := Lib.hid (show (upd V 19 (.bool false)) 11 = .bool false ∧ (upd V 19 (.bool false)) 18 = .bool false from ⟨e11, e18⟩)
                  clear hK hC hW hL HV s0
                  rw [HFR.out]
                  rw [e11, e18]
                  clear e11 e18
                  go_wp2_with fail
                  show K _ _
                  have := H.out _ (Ext.refl _)
                  rw [HFR.out] at this
                  obtain ⟨u11, u18⟩ := HU.out
                  rw [u11, u18] at this
                  exact this
                · rintro L A W hL ⟨V, rfl, HV, s0⟩
                  have e0 : V 0 = .bool false := HV 0 _ rfl (hL 0 (by simp))
                  have e1 : V 1 = .bool false := HV 1 _ rfl (hL 1 (by simp))
                  have e2 : V 2 = .int .i64 0 := HV 2 _ rfl (hL 2 (by simp))
                  have e3 : V 3 = .bool false := HV 3 _ rfl (hL 3 (by simp))
                  have e4 : V 4 = .bool false := HV 4 _ rfl (hL 4 (by simp))
                  have e5 : V 5 = .bool false := HV 5 _ rfl (hL 5 (by simp))
                  have e6 : V 6 = .agg #[ga, gs, gp] := HV 6 _ rfl (hL 6 (by simp))
                  have e7 : V 7 = .agg #[na, ns, np] := HV 7 _ rfl (hL 7 (by simp))
                  have e8 : V 8 = .bool true := HV 8 _ rfl (hL 8 (by simp))
                  have e9 : V 9 = .bool false := HV 9 _ rfl (hL 9 (by simp))
                  have e10 : V 10 = .bool false := HV 10 _ rfl (hL 10 (by simp))
                  have e11 : V 11 = .bool false := HV 11 _ rfl (hL 11 (by simp))
                  have e12 : V 12 = .agg #[na, ns, np] := HV 12 _ rfl (hL 12 (by simp))
                  have e13 : V 13 = .agg (cS q) := HV 13 _ rfl (hL 13 (by simp))
                  have e14 : V 14 = wv lq := HV 14 _ rfl (hL 14 (by simp))
                  have e15 : V 15 = .agg #[xa, .slice XS x.s.length cxs, xp] := HV 15 _ rfl (hL 15 (by simp))
                  have e16 : V 16 = .agg (cS q) := HV 16 _ rfl (hL 16 (by simp))
                  have e17 : V 17 = wv lq := HV 17 _ rfl (hL 17 (by simp))
                  have e18 : V 18 = .bool false := HV 18 _ rfl (hL 18 (by simp))
                  have e19 : V 19 = .bool false := HV 19 _ rfl (hL 19 (by simp))
                  have hA := s0
                  rw [HFR.out]
                  rw [e0, e1, e2, e3, e4, e5, e6, e7, e8, e9, e10, e11, e12, e13, e14, e15, e16, e17, e18, e19]
                  clear hL HV HFR e0 e1 e2 e3 e4 e5 e6 e7 e8 e9 e10 e11 e12 e13 e14 e15 e16 e17 e18 e19 s0
                  have HAA := Lib.hid hA.2.2.2.2
                  clear hA
                  have HJ := Lib.hid (HJ.out.ext HAA.out)
                  have HRN := Lib.hid (HRN.out.ext HAA.out)
                  have G9 := Lib.hid (Cs.ext G9.out HAA.out)
                  have G3 := Lib.hid (Cs.ext G3.out HAA.out)
                  clear HAA
                  go_wp2_with (first
                    | ((with_reducible refine wpList_loadX ?_ (.tmp 9) ?_ g9 na ns np ?_ G9.out ?_); (exact rfl); (exact rfl); (exact rfl))
                    | ((with_reducible refine wpList_storeX ?_ ?_ (.tmp 3) (.tmp 129) ?_ g3 xa (.slice XS x.s.length cxs) xp na ns np ?_ ?_ Z1.out Z2.out Z3.out G3.out ?_); (exact rfl); (exact rfl); (exact rfl); (exact rfl); (exact rfl); intro we ke ge; have HJN := Lib.hid (StJ.next HJ.out HRN.out ke ge HN.out.1 HN.out.2); clear ke ge))
                  exact ⟨⟨i + 1, na, ns, np, _, by omega, by go_num, HRR, HJN⟩, by simp [intOf]; omega⟩
              have fk : decide ((IntKind.u64.wrap d.kind).tmod 3 < 2) = false := decide_eq_false (by rw [show (IntKind.u64.wrap d.kind).tmod 3 = kdE d from rfl, hk]; decide)
              have HKP := Lib.hid (HKP.out hk)
              have HDV := Lib.hid (show d.p.val < M256 from HD.out.2.2.2)
              have HQK := Lib.hid (show q.key < M256 from HQ.out.2.1)
              have HDK := Lib.hid (show d.q.key < M256 from HD.out.2.2.1)
              have G5 : Hid (Cs wr g5 32 (cS q)) := Lib.hid HJ.out.2.2.2
              have HLD := Lib.hid (fun W (h : Ext wr W) => show Calls Try.prog 15 #[.agg #[na, ns, np], .agg (cS d.q)] W (fun e w' => e = .returned (wv d.p.val) ∧ Ext W w') from by have := loadX_any na ns np _ d.q W (HRN.out.ext h).rowsS (De.q_ok HD.out); rwa [HKP.out] at this)
              have HLX := Lib.hid (fun W (h : Ext wr W) => show Calls Try.prog 15 #[.agg #[xa, .slice XS x.s.length cxs, xp], .agg (cS q)] W (fun e w' => e = .returned (wv lq) ∧ Ext W w') from by have := loadX_any _ _ _ x q W ((HJ.out.2.2.1.rows HJ.out.1).ext h) HQ.out; rwa [HLQ.out] at this)
              cases hnb : q.eqS d.q with
              | true =>
                have HNB : Hid ((!q.eqS d.q) = false) := Lib.hid (by rw [hnb]; rfl)
                clear hnb hk
                go_upto_region 22 with fail
                clear q80
                refine wp_named fun a0 ha0 => ?_
                obtain ⟨fr, hfr⟩ : ∃ fr : (Nat → Value) → Act, ∀ V, fr V = ((((((((((((((((((((((a0.put (some 107) (V 0)).put (some 108) (V 1)).put (some 109) (V 2)).put (some 110) (V 3)).put (some 111) (V 4)).put (some 112) (V 5)).put (some 113) (V 6)).put (some 114) (V 7)).put (some 115) (V 8)).put (some 116) (V 9)).put (some 117) (V 10)).put (some 118) (V 11)).put (some 119) (V 12)).put (some 120) (V 13)).put (some 121) (V 14)).put (some 122) (V 15)).put (some 123) (V 16)).put (some 124) (V 17)).put (some 125) (V 18)).put (some 126) (V 19)).put (some 127) (V 20)).put (some 128) (V 21)) := ⟨fun V => ((((((((((((((((((((((a0.put (some 107) (V 0)).put (some 108) (V 1)).put (some 109) (V 2)).put (some 110) (V 3)).put (some 111) (V 4)).put (some 112) (V 5)).put (some 113) (V 6)).put (some 114) (V 7)).put (some 115) (V 8)).put (some 116) (V 9)).put (some 117) (V 10)).put (some 118) (V 11)).put (some 119) (V 12)).put (some 120) (V 13)).put (some 121) (V 14)).put (some 122) (V 15)).put (some 123) (V 16)).put (some 124) (V 17)).put (some 125) (V 18)).put (some 126) (V 19)).put (some 127) (V 20)).put (some 128) (V 21)), fun _ => rfl⟩
                rw [ha0] at hfr
                simp only [Act.put, List.setIfInBounds_toArray, List.set_cons_zero, List.set_cons_succ] at hfr
                have HFR := Lib.hid hfr
                clear hfr
                refine wp_region_inv (by kernel_rfl) (by kernel_rfl) (fun L A W => ∃ V : Nat → Value, A = fr V ∧ Vals (fun j => ([some (.agg #[na, ns, np]), some (.pointer (some ⟨g8, 1, none⟩)), some (.agg (cS d.q)), some (wv d.p.val), some (.pointer (some ⟨g8, 6, none⟩)), some (wv d.p.val), some (.bool false), some (.bool false), some (.agg (cS q)), some (.pointer (some ⟨g8, 1, none⟩)), some (.agg (cS d.q)), some (.bool false), some (.bool false), some (undef), some (undef), some (undef), some (undef), some (undef), some (undef), some (undef), some (.bool false), some (.bool false)] : List (Option Value)).getD j none) L V ∧ (Cs W g3 26 #[xa, .slice XS x.s.length cxs, xp] ∧ Cs W g9 26 #[na, ns, np] ∧ Cs W g5 32 (cS q) ∧ Cs W g8 52 (dec d) ∧ Ext wr W)) ?_ ⟨?_, ?_, ?_, ?_, ?_, ?_, ?_, ?_, ?_, ?_, ?_, ?_, ?_, ?_, ?_, ?_, ?_, ?_, ?_, ?_, ?_, ?_, trivial⟩ ?_
                · refine ⟨fun j => a0.tmps.getD (([107, 108, 109, 110, 111, 112, 113, 114, 115, 116, 117, 118, 119, 120, 121, 122, 123, 124, 125, 126, 127, 128] : List Nat).getD j 0) undef, ?_, Vals.no _ _ _ (far_none _ _ rfl), ⟨Cs.ext G3.out (Ext.refl _).drew, Cs.ext G9.out (Ext.refl _).drew, Cs.ext G5.out (Ext.refl _).drew, Cs.ext G8.out (Ext.refl _).drew, (Ext.refl _).drew⟩⟩
                  rw [HFR.out, ha0]
                  rfl
                all_goals clear ha0
                · rintro L A W K hL hC hW ⟨V, rfl, HV, s0⟩ hK
                  have hB := s0
                  have H := Lib.hid (show ∀ W', Ext W W' → K (fr (upd V 0 (.agg #[na, ns, np]))) W' from fun W' he => hK _ _ ⟨upd V 0 (.agg #[na, ns, np]), rfl, HV.up 0 _ (fun x hx => Option.some.inj hx), S22.ext s0 he⟩)
                  clear hK hC hW hL HV s0
                  rw [HFR.out]
                  have HWW := Lib.hid hB.2.1
                  clear hB
                  refine wpList_loadX rfl (.tmp 9) rfl g9 na ns np rfl HWW.out ?_
                  show K _ _
                  have := H.out _ (Ext.refl _)
                  rw [HFR.out] at this
                  exact this
                · rintro L A W K hL hC hW ⟨V, rfl, HV, s0⟩ hK
                  have H := Lib.hid (show ∀ W', Ext W W' → K (fr (upd V 1 (.pointer (some ⟨g8, 1, none⟩)))) W' from fun W' he => hK _ _ ⟨upd V 1 (.pointer (some ⟨g8, 1, none⟩)), rfl, HV.up 1 _ (fun x hx => Option.some.inj hx), S22.ext s0 he⟩)
                  clear hK hC hW hL HV s0
                  rw [HFR.out]
                  go_wp2_with fail
                  show K _ _
                  have := H.out _ (Ext.refl _)
                  rw [HFR.out] at this
                  exact this
                · rintro L A W K hL hC hW ⟨V, rfl, HV, s0⟩ hK
                  have e1 : V 1 = .pointer (some ⟨g8, 1, none⟩) := HV 1 _ rfl (hW 1 rfl)
                  have hB := s0
                  have H := Lib.hid (show ∀ W', Ext W W' → K (fr (upd V 2 (.agg (cS d.q)))) W' from fun W' he => hK _ _ ⟨upd V 2 (.agg (cS d.q)), rfl, HV.up 2 _ (fun x hx => Option.some.inj hx), S22.ext s0 he⟩)
                  have HU := Lib.hid (show (upd V 2 (.agg (cS d.q))) 1 = .pointer (some ⟨g8, 1, none⟩) from e1)
                  clear hK hC hW hL HV s0
                  rw [HFR.out]
                  rw [e1]
                  clear e1
                  have HWW := Lib.hid (de_spot hB.2.2.2.1)
                  clear hB
                  refine wpList_loadS rfl (.tmp 108) rfl g8 1 d.q rfl HWW.out ?_
                  show K _ _
                  have := H.out _ (Ext.refl _)
                  rw [HFR.out] at this
                  obtain u1 := HU.out
                  rw [u1] at this
                  exact this
                · rintro L A W K hL hC hW ⟨V, rfl, HV, s0⟩ hK
                  have e0 : V 0 = .agg #[na, ns, np] := HV 0 _ rfl (hW 0 rfl)
                  have e2 : V 2 = .agg (cS d.q) := HV 2 _ rfl (hW 2 rfl)
                  have hB := s0
                  have H := Lib.hid (show ∀ W', Ext W W' → K (fr (upd V 3 (wv d.p.val))) W' from fun W' he => hK _ _ ⟨upd V 3 (wv d.p.val), rfl, HV.up 3 _ (fun x hx => Option.some.inj hx), S22.ext s0 he⟩)
                  have HU := Lib.hid (show (upd V 3 (wv d.p.val)) 0 = .agg #[na, ns, np] ∧ (upd V 3 (wv d.p.val)) 2 = .agg (cS d.q) from ⟨e0, e2⟩)
                  clear hK hC hW hL HV s0
                  rw [HFR.out]
                  rw [e0, e2]
                  clear e0 e2
                  have HB := Lib.hid hB.2.2.2.2
                  clear hB
                  go_wp2_with fail
                  refine (HLD.out _ HB.out).mono ?_
                  rintro e wx ⟨rfl, he⟩
                  have := H.out _ he
                  clear H
                  go_wp2_with fail
                  show K _ _
                  rw [HFR.out] at this
                  obtain ⟨u0, u2⟩ := HU.out
                  rw [u0, u2] at this
                  exact this
                · rintro L A W K hL hC hW ⟨V, rfl, HV, s0⟩ hK
                  have H := Lib.hid (show ∀ W', Ext W W' → K (fr (upd V 4 (.pointer (some ⟨g8, 6, none⟩)))) W' from fun W' he => hK _ _ ⟨upd V 4 (.pointer (some ⟨g8, 6, none⟩)), rfl, HV.up 4 _ (fun x hx => Option.some.inj hx), S22.ext s0 he⟩)
                  clear hK hC hW hL HV s0
                  rw [HFR.out]
                  go_wp2_with fail
                  show K _ _
                  have := H.out _ (Ext.refl _)
                  rw [HFR.out] at this
                  exact this
                · rintro L A W K hL hC hW ⟨V, rfl, HV, s0⟩ hK
                  have e4 : V 4 = .pointer (some ⟨g8, 6, none⟩) := HV 4 _ rfl (hW 4 rfl)
                  have hB := s0
                  have H := Lib.hid (show ∀ W', Ext W W' → K (fr (upd V 5 (wv d.p.val))) W' from fun W' he => hK _ _ ⟨upd V 5 (wv d.p.val), rfl, HV.up 5 _ (fun x hx => Option.some.inj hx), S22.ext s0 he⟩)
                  have HU := Lib.hid (show (upd V 5 (wv d.p.val)) 4 = .pointer (some ⟨g8, 6, none⟩) from e4)
                  clear hK hC hW hL HV s0
                  rw [HFR.out]
                  rw [e4]
                  clear e4
                  have HWW := Lib.hid (de_word hB.2.2.2.1)
                  clear hB
                  refine wpList_load_wordIn rfl (.tmp 111) rfl g8 6 d.p.val rfl HWW.out ?_
                  show K _ _
                  have := H.out _ (Ext.refl _)
                  rw [HFR.out] at this
                  obtain u4 := HU.out
                  rw [u4] at this
                  exact this
                · rintro L A W K hL hC hW ⟨V, rfl, HV, s0⟩ hK
                  have e3 : V 3 = wv d.p.val := HV 3 _ rfl (hW 3 rfl)
                  have e5 : V 5 = wv d.p.val := HV 5 _ rfl (hW 5 rfl)
                  have hB := s0
                  have H := Lib.hid (show ∀ W', Ext W W' → K (fr (upd V 6 (.bool false))) W' from fun W' he => hK _ _ ⟨upd V 6 (.bool false), rfl, HV.up 6 _ (fun x hx => Option.some.inj hx), S22.ext s0 he⟩)
                  have HU := Lib.hid (show (upd V 6 (.bool false)) 3 = wv d.p.val ∧ (upd V 6 (.bool false)) 5 = wv d.p.val from ⟨e3, e5⟩)
                  clear hK hC hW hL HV s0
                  rw [HFR.out]
                  rw [e3, e5]
                  clear e3 e5
                  clear hB
                  refine wpList_neq_word rfl (.tmp 110) (.tmp 112) rfl d.p.val d.p.val HDV.out HDV.out rfl rfl ?_
                  rw [show (d.p.val != d.p.val) = false from bne_self_eq_false d.p.val]
                  show K _ _
                  have := H.out _ (Ext.refl _)
                  rw [HFR.out] at this
                  obtain ⟨u3, u5⟩ := HU.out
                  rw [u3, u5] at this
                  exact this
                · rintro L A W K hL hC hW ⟨V, rfl, HV, s0⟩ hK
                  have e6 : V 6 = .bool false := HV 6 _ rfl (hW 6 rfl)
                  have H := Lib.hid (show ∀ W', Ext W W' → K (fr (upd V 7 (.bool false))) W' from fun W' he => hK _ _ ⟨upd V 7 (.bool false), rfl, HV.up 7 _ (fun x hx => Option.some.inj hx), S22.ext s0 he⟩)
                  have HU := Lib.hid (show (upd V 7 (.bool false)) 6 = .bool false from e6)
                  clear hK hC hW hL HV s0
                  rw [HFR.out]
                  rw [e6]
                  clear e6
                  go_wp2_with fail
                  show K _ _
                  have := H.out _ (Ext.refl _)
                  rw [HFR.out] at this
                  obtain u6 := HU.out
                  rw [u6] at this
                  exact this
                · rintro L A W K hL hC hW ⟨V, rfl, HV, s0⟩ hK
                  have e7 : V 7 = .bool false := HV 7 _ rfl (hW 7 rfl)
                  have hB := s0
                  have H := Lib.hid (show ∀ W', Ext W W' → K (fr (upd V 8 (.agg (cS q)))) W' from fun W' he => hK _ _ ⟨upd V 8 (.agg (cS q)), rfl, HV.up 8 _ (fun x hx => Option.some.inj hx), S22.ext s0 he⟩)
                  have HU := Lib.hid (show (upd V 8 (.agg (cS q))) 7 = .bool false from e7)
                  clear hK hC hW hL HV s0
                  rw [HFR.out]
                  rw [e7]
                  clear e7
                  have HWW := Lib.hid (Cs.rg hB.2.2.1)
                  clear hB
                  refine wpList_loadS rfl (.tmp 5) rfl g5 0 q rfl HWW.out ?_
                  show K _ _
                  have := H.out _ (Ext.refl _)
                  rw [HFR.out] at this
                  obtain u7 := HU.out
                  rw [u7] at this
                  exact this
                · rintro L A W K hL hC hW ⟨V, rfl, HV, s0⟩ hK
                  have e7 : V 7 = .bool false := HV 7 _ rfl (hW 7 rfl)
                  have H := Lib.hid (show ∀ W', Ext W W' → K (fr (upd V 9 (.pointer (some ⟨g8, 1, none⟩)))) W' from fun W' he => hK _ _ ⟨upd V 9 (.pointer (some ⟨g8, 1, none⟩)), rfl, HV.up 9 _ (fun x hx => Option.some.inj hx), S22.ext s0 he⟩)
                  have HU := Lib.hid (show (upd V 9 (.pointer (some ⟨g8, 1, none⟩))) 7 = .bool false from e7)
                  clear hK hC hW hL HV s0
                  rw [HFR.out]
                  rw [e7]
                  clear e7
                  go_wp2_with fail
                  show K _ _
                  have := H.out _ (Ext.refl _)
                  rw [HFR.out] at this
                  obtain u7 := HU.out
                  rw [u7] at this
                  exact this
                · rintro L A W K hL hC hW ⟨V, rfl, HV, s0⟩ hK
                  have e7 : V 7 = .bool false := HV 7 _ rfl (hW 7 rfl)
                  have e9 : V 9 = .pointer (some ⟨g8, 1, none⟩) := HV 9 _ rfl (hW 9 rfl)
                  have hB := s0
                  have H := Lib.hid (show ∀ W', Ext W W' → K (fr (upd V 10 (.agg (cS d.q)))) W' from fun W' he => hK _ _ ⟨upd V 10 (.agg (cS d.q)), rfl, HV.up 10 _ (fun x hx => Option.some.inj hx), S22.ext s0 he⟩)
                  have HU := Lib.hid (show (upd V 10 (.agg (cS d.q))) 7 = .bool false ∧ (upd V 10 (.agg (cS d.q))) 9 = .pointer (some ⟨g8, 1, none⟩) from ⟨e7, e9⟩)
                  clear hK hC hW hL HV s0
                  rw [HFR.out]
                  rw [e7, e9]
                  clear e7 e9
                  have HWW := Lib.hid (de_spot hB.2.2.2.1)
                  clear hB
                  refine wpList_loadS rfl (.tmp 116) rfl g8 1 d.q rfl HWW.out ?_
                  show K _ _
                  have := H.out _ (Ext.refl _)
                  rw [HFR.out] at this
                  obtain ⟨u7, u9⟩ := HU.out
                  rw [u7, u9] at this
                  exact this
                · rintro L A W K hL hC hW ⟨V, rfl, HV, s0⟩ hK
                  have e7 : V 7 = .bool false := HV 7 _ rfl (hW 7 rfl)
                  have e8 : V 8 = .agg (cS q) := HV 8 _ rfl (hW 8 rfl)
                  have e10 : V 10 = .agg (cS d.q) := HV 10 _ rfl (hW 10 rfl)
                  have hB := s0
                  have H := Lib.hid (show ∀ W', Ext W W' → K (fr (upd V 11 (.bool false))) W' from fun W' he => hK _ _ ⟨upd V 11 (.bool false), rfl, HV.up 11 _ (fun x hx => Option.some.inj hx), S22.ext s0 he⟩)
                  have HU := Lib.hid (show (upd V 11 (.bool false)) 7 = .bool false ∧ (upd V 11 (.bool false)) 8 = .agg (cS q) ∧ (upd V 11 (.bool false)) 10 = .agg (cS d.q) from ⟨e7, e8, e10⟩)
                  clear hK hC hW hL HV s0
                  rw [HFR.out]
                  rw [e7, e8, e10]
                  clear e7 e8 e10
                  clear hB
                  refine wpList_neqS rfl (.tmp 115) (.tmp 117) rfl q d.q HQK.out HDK.out rfl rfl ?_
                  rw [HNB.out]
                  show K _ _
                  have := H.out _ (Ext.refl _)
                  rw [HFR.out] at this
                  obtain ⟨u7, u8, u10⟩ := HU.out
                  rw [u7, u8, u10] at this
                  exact this
                · rintro L A W K hL hC hW ⟨V, rfl, HV, s0⟩ hK
                  have e7 : V 7 = .bool false := HV 7 _ rfl (hW 7 rfl)
                  have e11 : V 11 = .bool false := HV 11 _ rfl (hW 11 rfl)
                  have H := Lib.hid (show ∀ W', Ext W W' → K (fr (upd V 12 (.bool false))) W' from fun W' he => hK _ _ ⟨upd V 12 (.bool false), rfl, HV.up 12 _ (fun x hx => Option.some.inj hx), S22.ext s0 he⟩)
                  have HU := Lib.hid (show (upd V 12 (.bool false)) 7 = .bool false ∧ (upd V 12 (.bool false)) 11 = .bool false from ⟨e7, e11⟩)
                  clear hK hC hW hL HV s0
                  rw [HFR.out]
                  rw [e7, e11]
                  clear e7 e11
                  go_wp2_with fail
                  show K _ _
                  have := H.out _ (Ext.refl _)
                  rw [HFR.out] at this
                  obtain ⟨u7, u11⟩ := HU.out
                  rw [u7, u11] at this
                  exact this
                · rintro L A W K hL hC hW ⟨V, rfl, HV, s0⟩ hK
                  have e12 : V 12 = .bool false := HV 12 _ rfl (hW 12 rfl)
                  have H := Lib.hid (show ∀ W', Ext W W' → K (fr (upd V 13 (undef))) W' from fun W' he => hK _ _ ⟨upd V 13 (undef), rfl, HV.up 13 _ (fun x hx => Option.some.inj hx), S22.ext s0 he⟩)
                  have HU := Lib.hid (show (upd V 13 (undef)) 12 = .bool false from e12)
                  clear hK hC hW hL HV s0
                  rw [HFR.out]
                  rw [e12]
                  clear e12
                  go_wp2_with fail
                  show K _ _
                  have := H.out _ (Ext.refl _)
                  rw [HFR.out] at this
                  obtain u12 := HU.out
                  rw [u12] at this
                  exact this
                · rintro L A W K hL hC hW ⟨V, rfl, HV, s0⟩ hK
                  have e12 : V 12 = .bool false := HV 12 _ rfl (hW 12 rfl)
                  have H := Lib.hid (show ∀ W', Ext W W' → K (fr (upd V 14 (undef))) W' from fun W' he => hK _ _ ⟨upd V 14 (undef), rfl, HV.up 14 _ (fun x hx => Option.some.inj hx), S22.ext s0 he⟩)
                  have HU := Lib.hid (show (upd V 14 (undef)) 12 = .bool false from e12)
                  clear hK hC hW hL HV s0
                  rw [HFR.out]
                  rw [e12]
                  clear e12
                  go_wp2_with fail
                  show K _ _
                  have := H.out _ (Ext.refl _)
                  rw [HFR.out] at this
                  obtain u12 := HU.out
                  rw [u12] at this
                  exact this
                · rintro L A W K hL hC hW ⟨V, rfl, HV, s0⟩ hK
                  have e12 : V 12 = .bool false := HV 12 _ rfl (hW 12 rfl)
                  have e13 : V 13 = undef := HV 13 _ rfl (hW 13 rfl)
                  have e14 : V 14 = undef := HV 14 _ rfl (hW 14 rfl)
                  have H := Lib.hid (show ∀ W', Ext W W' → K (fr (upd V 15 (undef))) W' from fun W' he => hK _ _ ⟨upd V 15 (undef), rfl, HV.up 15 _ (fun x hx => Option.some.inj hx), S22.ext s0 he⟩)
                  have HU := Lib.hid (show (upd V 15 (undef)) 12 = .bool false ∧ (upd V 15 (undef)) 13 = undef ∧ (upd V 15 (undef)) 14 = undef from ⟨e12, e13, e14⟩)
                  clear hK hC hW hL HV s0
                  rw [HFR.out]
                  rw [e12, e13, e14]
                  clear e12 e13 e14
                  go_wp2_with fail
                  show K _ _
                  have := H.out _ (Ext.refl _)
                  rw [HFR.out] at this
                  obtain ⟨u12, u13, u14⟩ := HU.out
                  rw [u12, u13, u14] at this
                  exact this
                · rintro L A W K hL hC hW ⟨V, rfl, HV, s0⟩ hK
                  have e12 : V 12 = .bool false := HV 12 _ rfl (hW 12 rfl)
                  have H := Lib.hid (show ∀ W', Ext W W' → K (fr (upd V 16 (undef))) W' from fun W' he => hK _ _ ⟨upd V 16 (undef), rfl, HV.up 16 _ (fun x hx => Option.some.inj hx), S22.ext s0 he⟩)
                  have HU := Lib.hid (show (upd V 16 (undef)) 12 = .bool false from e12)
                  clear hK hC hW hL HV s0
                  rw [HFR.out]
                  rw [e12]
                  clear e12
                  go_wp2_with fail
                  show K _ _
                  have := H.out _ (Ext.refl _)
                  rw [HFR.out] at this
                  obtain u12 := HU.out
                  rw [u12] at this
                  exact this
                · rintro L A W K hL hC hW ⟨V, rfl, HV, s0⟩ hK
                  have e12 : V 12 = .bool false := HV 12 _ rfl (hW 12 rfl)
                  have H := Lib.hid (show ∀ W', Ext W W' → K (fr (upd V 17 (undef))) W' from fun W' he => hK _ _ ⟨upd V 17 (undef), rfl, HV.up 17 _ (fun x hx => Option.some.inj hx), S22.ext s0 he⟩)
                  have HU := Lib.hid (show (upd V 17 (undef)) 12 = .bool false from e12)
                  clear hK hC hW hL HV s0
                  rw [HFR.out]
                  rw [e12]
                  clear e12
                  go_wp2_with fail
                  show K _ _
                  have := H.out _ (Ext.refl _)
                  rw [HFR.out] at this
                  obtain u12 := HU.out
                  rw [u12] at this
                  exact this
                · rintro L A W K hL hC hW ⟨V, rfl, HV, s0⟩ hK
                  have e12 : V 12 = .bool false := HV 12 _ rfl (hW 12 rfl)
                  have e16 : V 16 = undef := HV 16 _ rfl (hW 16 rfl)
                  have e17 : V 17 = undef := HV 17 _ rfl (hW 17 rfl)
                  have H := Lib.hid (show ∀ W', Ext W W' → K (fr (upd V 18 (undef))) W' from fun W' he => hK _ _ ⟨upd V 18 (undef), rfl, HV.up 18 _ (fun x hx => Option.some.inj hx), S22.ext s0 he⟩)
                  have HU := Lib.hid (show (upd V 18 (undef)) 12 = .bool false ∧ (upd V 18 (undef)) 16 = undef ∧ (upd V 18 (undef)) 17 = undef from ⟨e12, e16, e17⟩)
                  clear hK hC hW hL HV s0
                  rw [HFR.out]
                  rw [e12, e16, e17]
                  clear e12 e16 e17
                  go_wp2_with fail
                  show K _ _
                  have := H.out _ (Ext.refl _)
                  rw [HFR.out] at this
                  obtain ⟨u12, u16, u17⟩ := HU.out
                  rw [u12, u16, u17] at this
                  exact this
                · rintro L A W K hL hC hW ⟨V, rfl, HV, s0⟩ hK
                  have e12 : V 12 = .bool false := HV 12 _ rfl (hW 12 rfl)
                  have e15 : V 15 = undef := HV 15 _ rfl (hW 15 rfl)
                  have e18 : V 18 = undef := HV 18 _ rfl (hW 18 rfl)
                  have H := Lib.hid (show ∀ W', Ext W W' → K (fr (upd V 19 (undef))) W' from fun W' he => hK _ _ ⟨upd V 19 (undef), rfl, HV.up 19 _ (fun x hx => Option.some.inj hx), S22.ext s0 he⟩)
                  have HU := Lib.hid (show (upd V 19 (undef)) 12 = .bool false ∧ (upd V 19 (undef)) 15 = undef ∧ (upd V 19 (undef)) 18 = undef from ⟨e12, e15, e18⟩)
                  clear hK hC hW hL HV s0
                  rw [HFR.out]
                  rw [e12, e15, e18]
                  clear e12 e15 e18
                  go_wp2_with fail
                  show K _ _
                  have := H.out _ (Ext.refl _)
                  rw [HFR.out] at this
                  obtain ⟨u12, u15, u18⟩ := HU.out
                  rw [u12, u15, u18] at this
                  exact this
                · rintro L A W K hL hC hW ⟨V, rfl, HV, s0⟩ hK
                  have e7 : V 7 = .bool false := HV 7 _ rfl (hW 7 rfl)
                  have e12 : V 12 = .bool false := HV 12 _ rfl (hW 12 rfl)
                  have e19 : V 19 = undef := HV 19 _ rfl (hW 19 rfl)
                  have H := Lib.hid (show ∀ W', Ext W W' → K (fr (upd V 20 (.bool false))) W' from fun W' he => hK _ _ ⟨upd V 20 (.bool false), rfl, HV.up 20 _ (fun x hx => Option.some.inj hx), S22.ext s0 he⟩)
                  have HU := Lib.hid (show (upd V 20 (.bool false)) 7 = .bool false ∧ (upd V 20 (.bool false)) 12 = .bool false ∧ (upd V 20 (.bool false)) 19 = undef from ⟨e7, e12, e19⟩)
                  clear hK hC hW hL HV s0
                  rw [HFR.out]
                  rw [e7, e12, e19]
                  clear e7 e12 e19
                  go_wp2_with fail
                  show K _ _
                  have := H.out _ (Ext.refl _)
                  rw [HFR.out] at this
                  obtain ⟨u7, u12, u19⟩ := HU.out
                  rw [u7, u12, u19] at this
                  exact this
                · rintro L A W K hL hC hW ⟨V, rfl, HV, s0⟩ hK
                  have e7 : V 7 = .bool false := HV 7 _ rfl (hW 7 rfl)
                  have e20 : V 20 = .bool false := HV 20 _ rfl (hW 20 rfl)
                  have H := Lib.hid (show ∀ W', Ext W W' → K (fr (upd V 21 (.bool false))) W' from fun W' he => hK _ _ ⟨upd V 21 (.bool false), rfl, HV.up 21 _ (fun x hx => Option.some.inj hx), S22.ext s0 he⟩)
                  have HU := Lib.hid (show (upd V 21 (.bool false)) 7 = .bool false ∧ (upd V 21 (.bool false)) 20 = .bool false from ⟨e7, e20⟩)
                  clear hK hC hW hL HV s0
                  rw [HFR.out]
                  rw [e7, e20]
                  clear e7 e20
                  go_wp2_with fail
                  show K _ _
                  have := H.out _ (Ext.refl _)
                  rw [HFR.out] at this
                  obtain ⟨u7, u20⟩ := HU.out
                  rw [u7, u20] at this
                  exact this
                · rintro L A W hL ⟨V, rfl, HV, s0⟩
                  have e0 : V 0 = .agg #[na, ns, np] := HV 0 _ rfl (hL 0 (by simp))
                  have e1 : V 1 = .pointer (some ⟨g8, 1, none⟩) := HV 1 _ rfl (hL 1 (by simp))
                  have e2 : V 2 = .agg (cS d.q) := HV 2 _ rfl (hL 2 (by simp))
                  have e3 : V 3 = wv d.p.val := HV 3 _ rfl (hL 3 (by simp))
                  have e4 : V 4 = .pointer (some ⟨g8, 6, none⟩) := HV 4 _ rfl (hL 4 (by simp))
                  have e5 : V 5 = wv d.p.val := HV 5 _ rfl (hL 5 (by simp))
                  have e6 : V 6 = .bool false := HV 6 _ rfl (hL 6 (by simp))
                  have e7 : V 7 = .bool false := HV 7 _ rfl (hL 7 (by simp))
                  have e8 : V 8 = .agg (cS q) := HV 8 _ rfl (hL 8 (by simp))
                  have e9 : V 9 = .pointer (some ⟨g8, 1, none⟩) := HV 9 _ rfl (hL 9 (by simp))
                  have e10 : V 10 = .agg (cS d.q) := HV 10 _ rfl (hL 10 (by simp))
                  have e11 : V 11 = .bool false := HV 11 _ rfl (hL 11 (by simp))
                  have e12 : V 12 = .bool false := HV 12 _ rfl (hL 12 (by simp))
                  have e13 : V 13 = undef := HV 13 _ rfl (hL 13 (by simp))
                  have e14 : V 14 = undef := HV 14 _ rfl (hL 14 (by simp))
                  have e15 : V 15 = undef := HV 15 _ rfl (hL 15 (by simp))
                  have e16 : V 16 = undef := HV 16 _ rfl (hL 16 (by simp))
                  have e17 : V 17 = undef := HV 17 _ rfl (hL 17 (by simp))
                  have e18 : V 18 = undef := HV 18 _ rfl (hL 18 (by simp))
                  have e19 : V 19 = undef := HV 19 _ rfl (hL 19 (by simp))
                  have e20 : V 20 = .bool false := HV 20 _ rfl (hL 20 (by simp))
                  have e21 : V 21 = .bool false := HV 21 _ rfl (hL 21 (by simp))
                  have hA := s0
                  rw [HFR.out]
                  rw [e0, e1, e2, e3, e4, e5, e6, e7, e8, e9, e10, e11, e12, e13, e14, e15, e16, e17, e18, e19, e20, e21]
                  clear hL HV HFR e0 e1 e2 e3 e4 e5 e6 e7 e8 e9 e10 e11 e12 e13 e14 e15 e16 e17 e18 e19 e20 e21 s0
                  have HAA := Lib.hid hA.2.2.2.2
                  clear hA
                  have HJ := Lib.hid (HJ.out.ext HAA.out)
                  have HRN := Lib.hid (HRN.out.ext HAA.out)
                  have G9 := Lib.hid (Cs.ext G9.out HAA.out)
                  have G3 := Lib.hid (Cs.ext G3.out HAA.out)
                  clear HAA
                  go_wp2_with (first
                    | ((with_reducible refine wpList_loadX ?_ (.tmp 9) ?_ g9 na ns np ?_ G9.out ?_); (exact rfl); (exact rfl); (exact rfl))
                    | ((with_reducible refine wpList_storeX ?_ ?_ (.tmp 3) (.tmp 129) ?_ g3 xa (.slice XS x.s.length cxs) xp na ns np ?_ ?_ Z1.out Z2.out Z3.out G3.out ?_); (exact rfl); (exact rfl); (exact rfl); (exact rfl); (exact rfl); intro we ke ge; have HJN := Lib.hid (StJ.next HJ.out HRN.out ke ge HN.out.1 HN.out.2); clear ke ge))
                  exact ⟨⟨i + 1, na, ns, np, _, by omega, by go_num, HRR, HJN⟩, by simp [intOf]; omega⟩
              | false =>
                have HNB : Hid ((!q.eqS d.q) = true) := Lib.hid (by rw [hnb]; rfl)
                have HLS := Lib.hid ((HOT.out hk (cod_ne HQ.out (De.q_ok HD.out) hnb)).trans HLQ.out)
                have HLN := Lib.hid (fun W (h : Ext wr W) => show Calls Try.prog 15 #[.agg #[na, ns, np], .agg (cS q)] W (fun e w' => e = .returned (wv lq) ∧ Ext W w') from by have := loadX_any na ns np _ q W (HRN.out.ext h).rowsS HQ.out; rwa [HLS.out] at this)
                clear hnb hk
                go_upto_region 22 with fail
                clear q80
                refine wp_named fun a0 ha0 => ?_
                obtain ⟨fr, hfr⟩ : ∃ fr : (Nat → Value) → Act, ∀ V, fr V = ((((((((((((((((((((((a0.put (some 107) (V 0)).put (some 108) (V 1)).put (some 109) (V 2)).put (some 110) (V 3)).put (some 111) (V 4)).put (some 112) (V 5)).put (some 113) (V 6)).put (some 114) (V 7)).put (some 115) (V 8)).put (some 116) (V 9)).put (some 117) (V 10)).put (some 118) (V 11)).put (some 119) (V 12)).put (some 120) (V 13)).put (some 121) (V 14)).put (some 122) (V 15)).put (some 123) (V 16)).put (some 124) (V 17)).put (some 125) (V 18)).put (some 126) (V 19)).put (some 127) (V 20)).put (some 128) (V 21)) := ⟨fun V => ((((((((((((((((((((((a0.put (some 107) (V 0)).put (some 108) (V 1)).put (some 109) (V 2)).put (some 110) (V 3)).put (some 111) (V 4)).put (some 112) (V 5)).put (some 113) (V 6)).put (some 114) (V 7)).put (some 115) (V 8)).put (some 116) (V 9)).put (some 117) (V 10)).put (some 118) (V 11)).put (some 119) (V 12)).put (some 120) (V 13)).put (some 121) (V 14)).put (some 122) (V 15)).put (some 123) (V 16)).put (some 124) (V 17)).put (some 125) (V 18)).put (some 126) (V 19)).put (some 127) (V 20)).put (some 128) (V 21)), fun _ => rfl⟩
                rw [ha0] at hfr
                simp only [Act.put, List.setIfInBounds_toArray, List.set_cons_zero, List.set_cons_succ] at hfr
                have HFR := Lib.hid hfr
                clear hfr
                refine wp_region_inv (by kernel_rfl) (by kernel_rfl) (fun L A W => ∃ V : Nat → Value, A = fr V ∧ Vals (fun j => ([some (.agg #[na, ns, np]), some (.pointer (some ⟨g8, 1, none⟩)), some (.agg (cS d.q)), some (wv d.p.val), some (.pointer (some ⟨g8, 6, none⟩)), some (wv d.p.val), some (.bool false), some (.bool false), some (.agg (cS q)), some (.pointer (some ⟨g8, 1, none⟩)), some (.agg (cS d.q)), some (.bool true), some (.bool true), some (.agg #[na, ns, np]), some (.agg (cS q)), some (wv lq), some (.agg #[xa, .slice XS x.s.length cxs, xp]), some (.agg (cS q)), some (wv lq), some (.bool false), some (.bool false), some (.bool false)] : List (Option Value)).getD j none) L V ∧ (Cs W g3 26 #[xa, .slice XS x.s.length cxs, xp] ∧ Cs W g9 26 #[na, ns, np] ∧ Cs W g5 32 (cS q) ∧ Cs W g8 52 (dec d) ∧ Ext wr W)) ?_ ⟨?_, ?_, ?_, ?_, ?_, ?_, ?_, ?_, ?_, ?_, ?_, ?_, ?_, ?_, ?_, ?_, ?_, ?_, ?_, ?_, ?_, ?_, trivial⟩ ?_
                · refine ⟨fun j => a0.tmps.getD (([107, 108, 109, 110, 111, 112, 113, 114, 115, 116, 117, 118, 119, 120, 121, 122, 123, 124, 125, 126, 127, 128] : List Nat).getD j 0) undef, ?_, Vals.no _ _ _ (far_none _ _ rfl), ⟨Cs.ext G3.out (Ext.refl _).drew, Cs.ext G9.out (Ext.refl _).drew, Cs.ext G5.out (Ext.refl _).drew, Cs.ext G8.out (Ext.refl _).drew, (Ext.refl _).drew⟩⟩
                  rw [HFR.out, ha0]
                  rfl
                all_goals clear ha0
                · rintro L A W K hL hC hW ⟨V, rfl, HV, s0⟩ hK
                  have hB := s0
                  have H := Lib.hid (show ∀ W', Ext W W' → K (fr (upd V 0 (.agg #[na, ns, np]))) W' from fun W' he => hK _ _ ⟨upd V 0 (.agg #[na, ns, np]), rfl, HV.up 0 _ (fun x hx => Option.some.inj hx), S22.ext s0 he⟩)
                  clear hK hC hW hL HV s0
                  rw [HFR.out]
                  have HWW := Lib.hid hB.2.1
                  clear hB
                  refine wpList_loadX rfl (.tmp 9) rfl g9 na ns np rfl HWW.out ?_
                  show K _ _
                  have := H.out _ (Ext.refl _)
                  rw [HFR.out] at this
                  exact this
                · rintro L A W K hL hC hW ⟨V, rfl, HV, s0⟩ hK
                  have H := Lib.hid (show ∀ W', Ext W W' → K (fr (upd V 1 (.pointer (some ⟨g8, 1, none⟩)))) W' from fun W' he => hK _ _ ⟨upd V 1 (.pointer (some ⟨g8, 1, none⟩)), rfl, HV.up 1 _ (fun x hx => Option.some.inj hx), S22.ext s0 he⟩)
                  clear hK hC hW hL HV s0
                  rw [HFR.out]
                  go_wp2_with fail
                  show K _ _
                  have := H.out _ (Ext.refl _)
                  rw [HFR.out] at this
                  exact this
                · rintro L A W K hL hC hW ⟨V, rfl, HV, s0⟩ hK
                  have e1 : V 1 = .pointer (some ⟨g8, 1, none⟩) := HV 1 _ rfl (hW 1 rfl)
                  have hB := s0
                  have H := Lib.hid (show ∀ W', Ext W W' → K (fr (upd V 2 (.agg (cS d.q)))) W' from fun W' he => hK _ _ ⟨upd V 2 (.agg (cS d.q)), rfl, HV.up 2 _ (fun x hx => Option.some.inj hx), S22.ext s0 he⟩)
                  have HU := Lib.hid (show (upd V 2 (.agg (cS d.q))) 1 = .pointer (some ⟨g8, 1, none⟩) from e1)
                  clear hK hC hW hL HV s0
                  rw [HFR.out]
                  rw [e1]
                  clear e1
                  have HWW := Lib.hid (de_spot hB.2.2.2.1)
                  clear hB
                  refine wpList_loadS rfl (.tmp 108) rfl g8 1 d.q rfl HWW.out ?_
                  show K _ _
                  have := H.out _ (Ext.refl _)
                  rw [HFR.out] at this
                  obtain u1 := HU.out
                  rw [u1] at this
                  exact this
                · rintro L A W K hL hC hW ⟨V, rfl, HV, s0⟩ hK
                  have e0 : V 0 = .agg #[na, ns, np] := HV 0 _ rfl (hW 0 rfl)
                  have e2 : V 2 = .agg (cS d.q) := HV 2 _ rfl (hW 2 rfl)
                  have hB := s0
                  have H := Lib.hid (show ∀ W', Ext W W' → K (fr (upd V 3 (wv d.p.val))) W' from fun W' he => hK _ _ ⟨upd V 3 (wv d.p.val), rfl, HV.up 3 _ (fun x hx => Option.some.inj hx), S22.ext s0 he⟩)
                  have HU := Lib.hid (show (upd V 3 (wv d.p.val)) 0 = .agg #[na, ns, np] ∧ (upd V 3 (wv d.p.val)) 2 = .agg (cS d.q) from ⟨e0, e2⟩)
                  clear hK hC hW hL HV s0
                  rw [HFR.out]
                  rw [e0, e2]
                  clear e0 e2
                  have HB := Lib.hid hB.2.2.2.2
                  clear hB
                  go_wp2_with fail
                  refine (HLD.out _ HB.out).mono ?_
                  rintro e wx ⟨rfl, he⟩
                  have := H.out _ he
                  clear H
                  go_wp2_with fail
                  show K _ _
                  rw [HFR.out] at this
                  obtain ⟨u0, u2⟩ := HU.out
                  rw [u0, u2] at this
                  exact this
                · rintro L A W K hL hC hW ⟨V, rfl, HV, s0⟩ hK
                  have H := Lib.hid (show ∀ W', Ext W W' → K (fr (upd V 4 (.pointer (some ⟨g8, 6, none⟩)))) W' from fun W' he => hK _ _ ⟨upd V 4 (.pointer (some ⟨g8, 6, none⟩)), rfl, HV.up 4 _ (fun x hx => Option.some.inj hx), S22.ext s0 he⟩)
                  clear hK hC hW hL HV s0
                  rw [HFR.out]
                  go_wp2_with fail
                  show K _ _
                  have := H.out _ (Ext.refl _)
                  rw [HFR.out] at this
                  exact this
                · rintro L A W K hL hC hW ⟨V, rfl, HV, s0⟩ hK
                  have e4 : V 4 = .pointer (some ⟨g8, 6, none⟩) := HV 4 _ rfl (hW 4 rfl)
                  have hB := s0
                  have H := Lib.hid (show ∀ W', Ext W W' → K (fr (upd V 5 (wv d.p.val))) W' from fun W' he => hK _ _ ⟨upd V 5 (wv d.p.val), rfl, HV.up 5 _ (fun x hx => Option.some.inj hx), S22.ext s0 he⟩)
                  have HU := Lib.hid (show (upd V 5 (wv d.p.val)) 4 = .pointer (some ⟨g8, 6, none⟩) from e4)
                  clear hK hC hW hL HV s0
                  rw [HFR.out]
                  rw [e4]
                  clear e4
                  have HWW := Lib.hid (de_word hB.2.2.2.1)
                  clear hB
                  refine wpList_load_wordIn rfl (.tmp 111) rfl g8 6 d.p.val rfl HWW.out ?_
                  show K _ _
                  have := H.out _ (Ext.refl _)
                  rw [HFR.out] at this
                  obtain u4 := HU.out
                  rw [u4] at this
                  exact this
                · rintro L A W K hL hC hW ⟨V, rfl, HV, s0⟩ hK
                  have e3 : V 3 = wv d.p.val := HV 3 _ rfl (hW 3 rfl)
                  have e5 : V 5 = wv d.p.val := HV 5 _ rfl (hW 5 rfl)
                  have hB := s0
                  have H := Lib.hid (show ∀ W', Ext W W' → K (fr (upd V 6 (.bool false))) W' from fun W' he => hK _ _ ⟨upd V 6 (.bool false), rfl, HV.up 6 _ (fun x hx => Option.some.inj hx), S22.ext s0 he⟩)
                  have HU := Lib.hid (show (upd V 6 (.bool false)) 3 = wv d.p.val ∧ (upd V 6 (.bool false)) 5 = wv d.p.val from ⟨e3, e5⟩)
                  clear hK hC hW hL HV s0
                  rw [HFR.out]
                  rw [e3, e5]
                  clear e3 e5
                  clear hB
                  refine wpList_neq_word rfl (.tmp 110) (.tmp 112) rfl d.p.val d.p.val HDV.out HDV.out rfl rfl ?_
                  rw [show (d.p.val != d.p.val) = false from bne_self_eq_false d.p.val]
                  show K _ _
                  have := H.out _ (Ext.refl _)
                  rw [HFR.out] at this
                  obtain ⟨u3, u5⟩ := HU.out
                  rw [u3, u5] at this
                  exact this
                · rintro L A W K hL hC hW ⟨V, rfl, HV, s0⟩ hK
                  have e6 : V 6 = .bool false := HV 6 _ rfl (hW 6 rfl)
                  have H := Lib.hid (show ∀ W', Ext W W' → K (fr (upd V 7 (.bool false))) W' from fun W' he => hK _ _ ⟨upd V 7 (.bool false), rfl, HV.up 7 _ (fun x hx => Option.some.inj hx), S22.ext s0 he⟩)
                  have HU := Lib.hid (show (upd V 7 (.bool false)) 6 = .bool false from e6)
                  clear hK hC hW hL HV s0
                  rw [HFR.out]
                  rw [e6]
                  clear e6
                  go_wp2_with fail
                  show K _ _
                  have := H.out _ (Ext.refl _)
                  rw [HFR.out] at this
                  obtain u6 := HU.out
                  rw [u6] at this
                  exact this
                · rintro L A W K hL hC hW ⟨V, rfl, HV, s0⟩ hK
                  have e7 : V 7 = .bool false := HV 7 _ rfl (hW 7 rfl)
                  have hB := s0
                  have H := Lib.hid (show ∀ W', Ext W W' → K (fr (upd V 8 (.agg (cS q)))) W' from fun W' he => hK _ _ ⟨upd V 8 (.agg (cS q)), rfl, HV.up 8 _ (fun x hx => Option.some.inj hx), S22.ext s0 he⟩)
                  have HU := Lib.hid (show (upd V 8 (.agg (cS q))) 7 = .bool false from e7)
                  clear hK hC hW hL HV s0
                  rw [HFR.out]
                  rw [e7]
                  clear e7
                  have HWW := Lib.hid (Cs.rg hB.2.2.1)
                  clear hB
                  refine wpList_loadS rfl (.tmp 5) rfl g5 0 q rfl HWW.out ?_
                  show K _ _
                  have := H.out _ (Ext.refl _)
                  rw [HFR.out] at this
                  obtain u7 := HU.out
                  rw [u7] at this
                  exact this
                · rintro L A W K hL hC hW ⟨V, rfl, HV, s0⟩ hK
                  have e7 : V 7 = .bool false := HV 7 _ rfl (hW 7 rfl)
                  have H := Lib.hid (show ∀ W', Ext W W' → K (fr (upd V 9 (.pointer (some ⟨g8, 1, none⟩)))) W' from fun W' he => hK _ _ ⟨upd V 9 (.pointer (some ⟨g8, 1, none⟩)), rfl, HV.up 9 _ (fun x hx => Option.some.inj hx), S22.ext s0 he⟩)
                  have HU := Lib.hid (show (upd V 9 (.pointer (some ⟨g8, 1, none⟩))) 7 = .bool false from e7)
                  clear hK hC hW hL HV s0
                  rw [HFR.out]
                  rw [e7]
                  clear e7
                  go_wp2_with fail
                  show K _ _
                  have := H.out _ (Ext.refl _)
                  rw [HFR.out] at this
                  obtain u7 := HU.out
                  rw [u7] at this
                  exact this
                · rintro L A W K hL hC hW ⟨V, rfl, HV, s0⟩ hK
                  have e7 : V 7 = .bool false := HV 7 _ rfl (hW 7 rfl)
                  have e9 : V 9 = .pointer (some ⟨g8, 1, none⟩) := HV 9 _ rfl (hW 9 rfl)
                  have hB := s0
                  have H := Lib.hid (show ∀ W', Ext W W' → K (fr (upd V 10 (.agg (cS d.q)))) W' from fun W' he => hK _ _ ⟨upd V 10 (.agg (cS d.q)), rfl, HV.up 10 _ (fun x hx => Option.some.inj hx), S22.ext s0 he⟩)
                  have HU := Lib.hid (show (upd V 10 (.agg (cS d.q))) 7 = .bool false ∧ (upd V 10 (.agg (cS d.q))) 9 = .pointer (some ⟨g8, 1, none⟩) from ⟨e7, e9⟩)
                  clear hK hC hW hL HV s0
                  rw [HFR.out]
                  rw [e7, e9]
                  clear e7 e9
                  have HWW := Lib.hid (de_spot hB.2.2.2.1)
                  clear hB
                  refine wpList_loadS rfl (.tmp 116) rfl g8 1 d.q rfl HWW.out ?_
                  show K _ _
                  have := H.out _ (Ext.refl _)
                  rw [HFR.out] at this
                  obtain ⟨u7, u9⟩ := HU.out
                  rw [u7, u9] at this
                  exact this
                · rintro L A W K hL hC hW ⟨V, rfl, HV, s0⟩ hK
                  have e7 : V 7 = .bool false := HV 7 _ rfl (hW 7 rfl)
                  have e8 : V 8 = .agg (cS q) := HV 8 _ rfl (hW 8 rfl)
                  have e10 : V 10 = .agg (cS d.q) := HV 10 _ rfl (hW 10 rfl)
                  have hB := s0
                  have H := Lib.hid (show ∀ W', Ext W W' → K (fr (upd V 11 (.bool true))) W' from fun W' he => hK _ _ ⟨upd V 11 (.bool true), rfl, HV.up 11 _ (fun x hx => Option.some.inj hx), S22.ext s0 he⟩)
                  have HU := Lib.hid (show (upd V 11 (.bool true)) 7 = .bool false ∧ (upd V 11 (.bool true)) 8 = .agg (cS q) ∧ (upd V 11 (.bool true)) 10 = .agg (cS d.q) from ⟨e7, e8, e10⟩)
                  clear hK hC hW hL HV s0
                  rw [HFR.out]
                  rw [e7, e8, e10]
                  clear e7 e8 e10
                  clear hB
                  refine wpList_neqS rfl (.tmp 115) (.tmp 117) rfl q d.q HQK.out HDK.out rfl rfl ?_
                  rw [HNB.out]
                  show K _ _
                  have := H.out _ (Ext.refl _)
                  rw [HFR.out] at this
                  obtain ⟨u7, u8, u10⟩ := HU.out
                  rw [u7, u8, u10] at this
                  exact this
                · rintro L A W K hL hC hW ⟨V, rfl, HV, s0⟩ hK
                  have e7 : V 7 = .bool false := HV 7 _ rfl (hW 7 rfl)
                  have e11 : V 11 = .bool true := HV 11 _ rfl (hW 11 rfl)
                  have H := Lib.hid (show ∀ W', Ext W W' → K (fr (upd V 12 (.bool true))) W' from fun W' he => hK _ _ ⟨upd V 12 (.bool true), rfl, HV.up 12 _ (fun x hx => Option.some.inj hx), S22.ext s0 he⟩)
                  have HU := Lib.hid (show (upd V 12 (.bool true)) 7 = .bool false ∧ (upd V 12 (.bool true)) 11 = .bool true from ⟨e7, e11⟩)
                  clear hK hC hW hL HV s0
                  rw [HFR.out]
                  rw [e7, e11]
                  clear e7 e11
                  go_wp2_with fail
                  show K _ _
                  have := H.out _ (Ext.refl _)
                  rw [HFR.out] at this
                  obtain ⟨u7, u11⟩ := HU.out
                  rw [u7, u11] at this
                  exact this
                · rintro L A W K hL hC hW ⟨V, rfl, HV, s0⟩ hK
                  have e12 : V 12 = .bool true := HV 12 _ rfl (hW 12 rfl)
                  have hB := s0
                  have H := Lib.hid (show ∀ W', Ext W W' → K (fr (upd V 13 (.agg #[na, ns, np]))) W' from fun W' he => hK _ _ ⟨upd V 13 (.agg #[na, ns, np]), rfl, HV.up 13 _ (fun x hx => Option.some.inj hx), S22.ext s0 he⟩)
                  have HU := Lib.hid (show (upd V 13 (.agg #[na, ns, np])) 12 = .bool true from e12)
                  clear hK hC hW hL HV s0
                  rw [HFR.out]
                  rw [e12]
                  clear e12
                  have HWW := Lib.hid hB.2.1
                  clear hB
                  refine wpList_loadX rfl (.tmp 9) rfl g9 na ns np rfl HWW.out ?_
                  show K _ _
                  have := H.out _ (Ext.refl _)
                  rw [HFR.out] at this
                  obtain u12 := HU.out
                  rw [u12] at this
                  exact this
                · rintro L A W K hL hC hW ⟨V, rfl, HV, s0⟩ hK
                  have e12 : V 12 = .bool true := HV 12 _ rfl (hW 12 rfl)
                  have hB := s0
                  have H := Lib.hid (show ∀ W', Ext W W' → K (fr (upd V 14 (.agg (cS q)))) W' from fun W' he => hK _ _ ⟨upd V 14 (.agg (cS q)), rfl, HV.up 14 _ (fun x hx => Option.some.inj hx), S22.ext s0 he⟩)
                  have HU := Lib.hid (show (upd V 14 (.agg (cS q))) 12 = .bool true from e12)
                  clear hK hC hW hL HV s0
                  rw [HFR.out]
                  rw [e12]
                  clear e12
                  have HWW := Lib.hid (Cs.rg hB.2.2.1)
                  clear hB
                  refine wpList_loadS rfl (.tmp 5) rfl g5 0 q rfl HWW.out ?_
                  show K _ _
                  have := H.out _ (Ext.refl _)
                  rw [HFR.out] at this
                  obtain u12 := HU.out
                  rw [u12] at this
                  exact this
                · rintro L A W K hL hC hW ⟨V, rfl, HV, s0⟩ hK
                  have e12 : V 12 = .bool true := HV 12 _ rfl (hW 12 rfl)
                  have e13 : V 13 = .agg #[na, ns, np] := HV 13 _ rfl (hW 13 rfl)
                  have e14 : V 14 = .agg (cS q) := HV 14 _ rfl (hW 14 rfl)
                  have hB := s0
                  have H := Lib.hid (show ∀ W', Ext W W' → K (fr (upd V 15 (wv lq))) W' from fun W' he => hK _ _ ⟨upd V 15 (wv lq), rfl, HV.up 15 _ (fun x hx => Option.some.inj hx), S22.ext s0 he⟩)
                  have HU := Lib.hid (show (upd V 15 (wv lq)) 12 = .bool true ∧ (upd V 15 (wv lq)) 13 = .agg #[na, ns, np] ∧ (upd V 15 (wv lq)) 14 = .agg (cS q) from ⟨e12, e13, e14⟩)
                  clear hK hC hW hL HV s0
                  rw [HFR.out]
                  rw [e12, e13, e14]
                  clear e12 e13 e14
                  have HB := Lib.hid hB.2.2.2.2
                  clear hB
                  go_wp2_with fail
                  refine (HLN.out _ HB.out).mono ?_
                  rintro e wx ⟨rfl, he⟩
                  have := H.out _ he
                  clear H
                  go_wp2_with fail
                  show K _ _
                  rw [HFR.out] at this
                  obtain ⟨u12, u13, u14⟩ := HU.out
                  rw [u12, u13, u14] at this
                  exact this
                · rintro L A W K hL hC hW ⟨V, rfl, HV, s0⟩ hK
                  have e12 : V 12 = .bool true := HV 12 _ rfl (hW 12 rfl)
                  have hB := s0
                  have H := Lib.hid (show ∀ W', Ext W W' → K (fr (upd V 16 (.agg #[xa, .slice XS x.s.length cxs, xp]))) W' from fun W' he => hK _ _ ⟨upd V 16 (.agg #[xa, .slice XS x.s.length cxs, xp]), rfl, HV.up 16 _ (fun x hx => Option.some.inj hx), S22.ext s0 he⟩)
                  have HU := Lib.hid (show (upd V 16 (.agg #[xa, .slice XS x.s.length cxs, xp])) 12 = .bool true from e12)
                  clear hK hC hW hL HV s0
                  rw [HFR.out]
                  rw [e12]
                  clear e12
                  have HWW := Lib.hid hB.1
                  clear hB
                  refine wpList_loadX rfl (.tmp 3) rfl g3 xa (.slice XS x.s.length cxs) xp rfl HWW.out ?_
                  show K _ _
                  have := H.out _ (Ext.refl _)
                  rw [HFR.out] at this
                  obtain u12 := HU.out
                  rw [u12] at this
                  exact this
                · rintro L A W K hL hC hW ⟨V, rfl, HV, s0⟩ hK
                  have e12 : V 12 = .bool true := HV 12 _ rfl (hW 12 rfl)
                  have hB := s0
                  have H := Lib.hid (show ∀ W', Ext W W' → K (fr (upd V 17 (.agg (cS q)))) W' from fun W' he => hK _ _ ⟨upd V 17 (.agg (cS q)), rfl, HV.up 17 _ (fun x hx => Option.some.inj hx), S22.ext s0 he⟩)
                  have HU := Lib.hid (show (upd V 17 (.agg (cS q))) 12 = .bool true from e12)
                  clear hK hC hW hL HV s0
                  rw [HFR.out]
                  rw [e12]
                  clear e12
                  have HWW := Lib.hid (Cs.rg hB.2.2.1)
                  clear hB
                  refine wpList_loadS rfl (.tmp 5) rfl g5 0 q rfl HWW.out ?_
                  show K _ _
                  have := H.out _ (Ext.refl _)
                  rw [HFR.out] at this
                  obtain u12 := HU.out
                  rw [u12] at this
                  exact this
                · rintro L A W K hL hC hW ⟨V, rfl, HV, s0⟩ hK
                  have e12 : V 12 = .bool true := HV 12 _ rfl (hW 12 rfl)
                  have e16 : V 16 = .agg #[xa, .slice XS x.s.length cxs, xp] := HV 16 _ rfl (hW 16 rfl)
                  have e17 : V 17 = .agg (cS q) := HV 17 _ rfl (hW 17 rfl)
                  have hB := s0
                  have H := Lib.hid (show ∀ W', Ext W W' → K (fr (upd V 18 (wv lq))) W' from fun W' he => hK _ _ ⟨upd V 18 (wv lq), rfl, HV.up 18 _ (fun x hx => Option.some.inj hx), S22.ext s0 he⟩)
                  have HU := Lib.hid (show (upd V 18 (wv lq)) 12 = .bool true ∧ (upd V 18 (wv lq)) 16 = .agg #[xa, .slice XS x.s.length cxs, xp] ∧ (upd V 18 (wv lq)) 17 = .agg (cS q) from ⟨e12, e16, e17⟩)
                  clear hK hC hW hL HV s0
                  rw [HFR.out]
                  rw [e12, e16, e17]
                  clear e12 e16 e17
                  have HB := Lib.hid hB.2.2.2.2
                  clear hB
                  go_wp2_with fail
                  refine (HLX.out _ HB.out).mono ?_
                  rintro e wx ⟨rfl, he⟩
                  have := H.out _ he
                  clear H
                  go_wp2_with fail
                  show K _ _
                  rw [HFR.out] at this
                  obtain ⟨u12, u16, u17⟩ := HU.out
                  rw [u12, u16, u17] at this
                  exact this
                · rintro L A W K hL hC hW ⟨V, rfl, HV, s0⟩ hK
                  have e12 : V 12 = .bool true := HV 12 _ rfl (hW 12 rfl)
                  have e15 : V 15 = wv lq := HV 15 _ rfl (hW 15 rfl)
                  have e18 : V 18 = wv lq := HV 18 _ rfl (hW 18 rfl)
                  have hB := s0
                  have H := Lib.hid (show ∀ W', Ext W W' → K (fr (upd V 19 (.bool false))) W' from fun W' he => hK _ _ ⟨upd V 19 (.bool false), rfl, HV.up 19 _ (fun x hx => Option.some.inj hx), S22.ext s0 he⟩)
                  have HU := Lib.hid (show (upd V 19 (.bool false)) 12 = .bool true ∧ (upd V 19 (.bool false)) 15 = wv lq ∧ (upd V 19 (.bool false)) 18 = wv lq from ⟨e12, e15, e18⟩)
                  clear hK hC hW hL HV s0
                  rw [HFR.out]
                  rw [e12, e15, e18]
                  clear e12 e15 e18
                  clear hB
                  refine wpList_neq_word rfl (.tmp 122) (.tmp 125) rfl lq lq HLV.out HLV.out rfl rfl ?_
                  rw [show (lq != lq) = false from bne_self_eq_false lq]
                  show K _ _
                  have := H.out _ (Ext.refl _)
                  rw [HFR.out] at this
                  obtain ⟨u12, u15, u18⟩ := HU.out
                  rw [u12, u15, u18] at this
                  exact this
                · rintro L A W K hL hC hW ⟨V, rfl, HV, s0⟩ hK
                  have e7 : V 7 = .bool false := HV 7 _ rfl (hW 7 rfl)
                  have e12 : V 12 = .bool true := HV 12 _ rfl (hW 12 rfl)
                  have e19 : V 19 = .bool false := HV 19 _ rfl (hW 19 rfl)
                  have H := Lib.hid (show ∀ W', Ext W W' → K (fr (upd V 20 (.bool false))) W' from fun W' he => hK _ _ ⟨upd V 20 (.bool false), rfl, HV.up 20 _ (fun x hx => Option.some.inj hx), S22.ext s0 he⟩)
                  have HU := Lib.hid (show (upd V 20 (.bool false)) 7 = .bool false ∧ (upd V 20 (.bool false)) 12 = .bool true ∧ (upd V 20 (.bool false)) 19 = .bool false from ⟨e7, e12, e19⟩)
                  clear hK hC hW hL HV s0
                  rw [HFR.out]
                  rw [e7, e12, e19]
                  clear e7 e12 e19
                  go_wp2_with fail
                  show K _ _
                  have := H.out _ (Ext.refl _)
                  rw [HFR.out] at this
                  obtain ⟨u7, u12, u19⟩ := HU.out
                  rw [u7, u12, u19] at this
                  exact this
                · rintro L A W K hL hC hW ⟨V, rfl, HV, s0⟩ hK
                  have e7 : V 7 = .bool false := HV 7 _ rfl (hW 7 rfl)
                  have e20 : V 20 = .bool false := HV 20 _ rfl (hW 20 rfl)
                  have H := Lib.hid (show ∀ W', Ext W W' → K (fr (upd V 21 (.bool false))) W' from fun W' he => hK _ _ ⟨upd V 21 (.bool false), rfl, HV.up 21 _ (fun x hx => Option.some.inj hx), S22.ext s0 he⟩)
                  have HU := Lib.hid (show (upd V 21 (.bool false)) 7 = .bool false ∧ (upd V 21 (.bool false)) 20 = .bool false from ⟨e7, e20⟩)
                  clear hK hC hW hL HV s0
                  rw [HFR.out]
                  rw [e7, e20]
                  clear e7 e20
                  go_wp2_with fail
                  show K _ _
                  have := H.out _ (Ext.refl _)
                  rw [HFR.out] at this
                  obtain ⟨u7, u20⟩ := HU.out
                  rw [u7, u20] at this
                  exact this
                · rintro L A W hL ⟨V, rfl, HV, s0⟩
                  have e0 : V 0 = .agg #[na, ns, np] := HV 0 _ rfl (hL 0 (by simp))
                  have e1 : V 1 = .pointer (some ⟨g8, 1, none⟩) := HV 1 _ rfl (hL 1 (by simp))
                  have e2 : V 2 = .agg (cS d.q) := HV 2 _ rfl (hL 2 (by simp))
                  have e3 : V 3 = wv d.p.val := HV 3 _ rfl (hL 3 (by simp))
                  have e4 : V 4 = .pointer (some ⟨g8, 6, none⟩) := HV 4 _ rfl (hL 4 (by simp))
                  have e5 : V 5 = wv d.p.val := HV 5 _ rfl (hL 5 (by simp))
                  have e6 : V 6 = .bool false := HV 6 _ rfl (hL 6 (by simp))
                  have e7 : V 7 = .bool false := HV 7 _ rfl (hL 7 (by simp))
                  have e8 : V 8 = .agg (cS q) := HV 8 _ rfl (hL 8 (by simp))
                  have e9 : V 9 = .pointer (some ⟨g8, 1, none⟩) := HV 9 _ rfl (hL 9 (by simp))
                  have e10 : V 10 = .agg (cS d.q) := HV 10 _ rfl (hL 10 (by simp))
                  have e11 : V 11 = .bool true := HV 11 _ rfl (hL 11 (by simp))
                  have e12 : V 12 = .bool true := HV 12 _ rfl (hL 12 (by simp))
                  have e13 : V 13 = .agg #[na, ns, np] := HV 13 _ rfl (hL 13 (by simp))
                  have e14 : V 14 = .agg (cS q) := HV 14 _ rfl (hL 14 (by simp))
                  have e15 : V 15 = wv lq := HV 15 _ rfl (hL 15 (by simp))
                  have e16 : V 16 = .agg #[xa, .slice XS x.s.length cxs, xp] := HV 16 _ rfl (hL 16 (by simp))
                  have e17 : V 17 = .agg (cS q) := HV 17 _ rfl (hL 17 (by simp))
                  have e18 : V 18 = wv lq := HV 18 _ rfl (hL 18 (by simp))
                  have e19 : V 19 = .bool false := HV 19 _ rfl (hL 19 (by simp))
                  have e20 : V 20 = .bool false := HV 20 _ rfl (hL 20 (by simp))
                  have e21 : V 21 = .bool false := HV 21 _ rfl (hL 21 (by simp))
                  have hA := s0
                  rw [HFR.out]
                  rw [e0, e1, e2, e3, e4, e5, e6, e7, e8, e9, e10, e11, e12, e13, e14, e15, e16, e17, e18, e19, e20, e21]
                  clear hL HV HFR e0 e1 e2 e3 e4 e5 e6 e7 e8 e9 e10 e11 e12 e13 e14 e15 e16 e17 e18 e19 e20 e21 s0
                  have HAA := Lib.hid hA.2.2.2.2
                  clear hA
                  have HJ := Lib.hid (HJ.out.ext HAA.out)
                  have HRN := Lib.hid (HRN.out.ext HAA.out)
                  have G9 := Lib.hid (Cs.ext G9.out HAA.out)
                  have G3 := Lib.hid (Cs.ext G3.out HAA.out)
                  clear HAA
                  go_wp2_with (first
                    | ((with_reducible refine wpList_loadX ?_ (.tmp 9) ?_ g9 na ns np ?_ G9.out ?_); (exact rfl); (exact rfl); (exact rfl))
                    | ((with_reducible refine wpList_storeX ?_ ?_ (.tmp 3) (.tmp 129) ?_ g3 xa (.slice XS x.s.length cxs) xp na ns np ?_ ?_ Z1.out Z2.out Z3.out G3.out ?_); (exact rfl); (exact rfl); (exact rfl); (exact rfl); (exact rfl); intro we ke ge; have HJN := Lib.hid (StJ.next HJ.out HRN.out ke ge HN.out.1 HN.out.2); clear ke ge))
                  exact ⟨⟨i + 1, na, ns, np, _, by omega, by go_num, HRR, HJN⟩, by simp [intOf]; omega⟩
set_option maxRecDepth 100000 in
theorem spotX_came {H : Type} {enc : TypeId × Value → H} {W : World} {base : Nat} {v : Value} {d : DataW H} {p : List MemPlace}
    (hval : Value.okWide Try.prog W .any base 32 v) (h : DataW.Trod enc Try.prog W 0 (fun _ => true) true 32 v d p) : ∃ q : Pe, v = .agg (cS q) ∧ okS q := by
  simp only [Value.okWide, Try.underlying32] at hval
  obtain ⟨cs, rfl, hsz, _⟩ := hval
  obtain ⟨fuel, hf⟩ := h
  obtain ⟨q, hok, e⟩ := spot_trod hf
  have e' : cs = cS q := by
    apply Array.toList_inj.1
    rw [← e]
    rfl
  exact ⟨q, by rw [e'], hok⟩
set_option maxRecDepth 100000 in
theorem des_came {H : Type} {enc : TypeId × Value → H} {W : World} {v : Value} {d : DataW H} {p : List MemPlace}
    (h : DataW.Trod enc Try.prog W 0 (fun _ => true) true 50 v d p) (hv : v.cells.toList = [v]) : ∃ l : List De, Des W v l := by
  obtain ⟨fuel, hf⟩ := h
  obtain ⟨s, l, hc, hl⟩ := slice_came (α := De) (s := 10) Try.underlying50 (by kernel_rfl) (by decide) DER (fun _ _ _ h => deedX_trod h) hf
  rw [hv] at hc
  injection hc with hc _
  rw [hc]
  exact ⟨l, hl⟩
set_option maxRecDepth 100000 in
theorem accessStays_told (W : World) (args : Array Value) (h : Told Try.f6 W args) : Calls Try.prog 6 args W (RetT W) := by
  obtain ⟨H, enc, base, ds, p, hval, hA⟩ := h
  rw [Try.params6] at hA hval
  obtain ⟨v0, v1, v2, d0, d1, d2, p0, p1, p2, rfl, rfl, rfl, h0, h1, h2⟩ := trodAll_three hA
  obtain ⟨va, vs, vp, x, rfl, hx⟩ := access_came (hval 0 _ v0 rfl rfl) h0
  obtain ⟨a0, len0, cap0, rfl⟩ := okWide_slice Try.underlying50 (hval 1 _ v1 rfl rfl)
  obtain ⟨l, hl⟩ := des_came h1 (by simp [Value.cells])
  obtain ⟨q, rfl, hq⟩ := spotX_came (hval 2 _ v2 rfl rfl) h2
  exact accessStays_any va vs vp _ x l q W hx hl hq

set_option maxRecDepth 100000 in
theorem accessStays_spec (H : Type) : ∀ ds : List (DataW H), ds.length = Try.f6.params.toList.length → Rows.accessStaysSpec.fn H ds = { results := [.lit (.bool true)], args := ds }
  | [_, _, _], _ => rfl
  | [], h | [_], h | [_, _], h | _ :: _ :: _ :: _ :: _, h => by rw [Try.params6] at h; simp at h

set_option maxRecDepth 100000 in
theorem accessStays_holds : Rows.AccessStaysSaid :=
  OpenClaim.holds_of_wide 6 Try.f6 rfl rfl rfl rfl rfl rfl rfl ⟨rfl, rfl, rfl, rfl, rfl⟩ rfl rfl rfl rfl rfl (by kernel_rfl) Try.func6 (by kernel_rfl)
    (of_decide_eq_true (by kernel_rfl)) (by unfold Func.isWrapper; first | (rw [if_pos (by decide +kernel)]; kernel_rfl) | (rw [if_neg (by decide +kernel)]; exact ⟨rfl, rfl⟩))
    (fun os started H enc _ => law_lifted started (by kernel_rfl) Try.func6 rfl rfl (accessStays_spec H) (of_decide_eq_true (by kernel_rfl))
      (ChangeSpec.witness6 (enc := enc) (C := Try.checked) false ⟨#[], #[.agg #[.slice none 0 0, .slice none 0 0, .slice none 0 0], .slice none 0 0, .agg #[.int .u64 0, .int .u64 0, .int .u64 0, .int .u64 0, .int .u64 0]], []⟩ 8 (by kernel_rfl) (by kernel_rfl) (by kernel_rfl) (by kernel_rfl)) accessStays_told)
end Go.Proofs.Ytjampleddeidaaa
