/- Package access: the law's copied, Deed.wants. -/
import Derived.Deep.Upon
import Derived.Test.YtjampleddeidaaaQAez
import Derived.Test.YtjampleddeidaaaQAeh
namespace Go.Proofs.Ytjampleddeidaaa
open Go.ChangeShapes Go.WideShapes Go.ChangeAt Go.RowKit Go.Shelf

set_option maxRecDepth 100000 in
theorem step_append_fresh {P : Program} {w : World} {ops : Array Oper} {o : Oper} {a : Act} {K : Act → World → Prop} {Q : Exit → Act → World → Prop} (hgd : Region.wanted o (yielded ops a.tmps) = true) (s x : Operand) (t : TypeId)
    (ho : o.op = .call { callee := .builtin .append, args := #[s, x], argTypes := #[t, t] }) (e : TypeId) (ht : P.underlying t = some (.slice e)) (z : Value) (sz bytes : Nat)
    (hinfo : (P.info? e).map (fun i => (i.zero, i.size, i.bytes)) = some (some z, sz, bytes)) (hzs : z.cells.size = sz) (hsz : 0 < sz)
    (g lo : Nat) (hs : a.eval s = .slice (some ⟨g, 0, none⟩) 0 0) (hcg : Cs w g e #[]) (hlo : lo ≤ g) (sv : Value) (m : Nat) (ds : List Value) (hx : a.eval x = sv) (hb : Rs w sz sv m ds) (h1c : ∀ u ∈ ds, u.oneCell' = true)
    (hlen : m ≤ 1099511627776) (hby : bytes ≤ 128)
    (hK : ∀ v' w', w'.ownsRow lo e sz v' m ds → Ext w w' → K (a.put o.dst v') w') :
    if Region.wanted o (yielded ops a.tmps) = true then Oper.wp P o a w K Q else K (a.put o.dst undef) w := by
  rcases Nat.eq_zero_or_pos m with rfl | hm
  · obtain ⟨hl2, A2, c2, rfl, _, _, _⟩ := hb
    obtain rfl : ds = [] := List.eq_nil_of_length_eq_zero (by rw [hl2]; simp)
    obtain ⟨i0, hi, _, hz1, _⟩ := info_parts hinfo
    have hrun := run_append_nothing (P := P) w t t o.type e i0 ht hi (some ⟨g, 0, none⟩) 0 0 (Nat.le_refl _) (.slice A2 0 c2) (by
      cases A2 with
      | none => exact Src.ofNil w ht c2
      | some b => exact Src.ofSlice w ht b 0 c2 [] (by simp) (fun j u hu => by simp at hu) (fun u hu => by simp at hu))
    rw [if_pos hgd]
    unfold Oper.wp
    simp [execOp, ho, resolve, invoke, builtin, hs, hx, hrun, Result.andThen]
    exact hK _ _ ⟨by simp, .inr ⟨g, 0, #[], rfl, hlo, hcg, Nat.le_refl _, Nat.zero_le _, by simp, by simp⟩⟩ (Ext.refl _)
  · exact step_append_grows hgd s x t ho e ht z sz bytes hinfo hzs hsz (.slice (some ⟨g, 0, none⟩) 0 0) 0 [] hs (some ⟨g, 0, none⟩) rfl ⟨by simp, _, 0, rfl, Nat.le_refl _, Nat.zero_le _, fun h => absurd h (by simp)⟩ sv m ds hx hb h1c hm (by omega) hby (fun h => nomatch h)
      (fun v' w' h5 h6 => hK v' w' (own_mono (by simpa using h5) (Nat.le_trans hlo (Nat.le_of_lt hcg.lt))) (ext_of_grown h6))
set_option maxRecDepth 100000 in
theorem wpList_append_fresh {P : Program} {w : World} {ops : Array Oper} {rest : List Oper} {o : Oper} {a : Act} {Q : Exit → Act → World → Prop} (hgd : Region.wanted o (yielded ops a.tmps) = true) (s x : Operand) (t : TypeId)
    (ho : o.op = .call { callee := .builtin .append, args := #[s, x], argTypes := #[t, t] }) (e : TypeId) (ht : P.underlying t = some (.slice e)) (z : Value) (sz bytes : Nat)
    (hinfo : (P.info? e).map (fun i => (i.zero, i.size, i.bytes)) = some (some z, sz, bytes)) (hzs : z.cells.size = sz) (hsz : 0 < sz)
    (g lo : Nat) (hs : a.eval s = .slice (some ⟨g, 0, none⟩) 0 0) (hcg : Cs w g e #[]) (hlo : lo ≤ g) (sv : Value) (m : Nat) (ds : List Value) (hx : a.eval x = sv) (hb : Rs w sz sv m ds) (h1c : ∀ u ∈ ds, u.oneCell' = true)
    (hlen : m ≤ 1099511627776) (hby : bytes ≤ 128)
    (hK : ∀ v' w', w'.ownsRow lo e sz v' m ds → Ext w w' → wpList P ops Q rest (a.put o.dst v') w') : wpList P ops Q (o :: rest) a w :=
  wpList_step fun _ hK' => step_append_fresh hgd s x t ho e ht z sz bytes hinfo hzs hsz g lo hs hcg hlo sv m ds hx hb h1c hlen hby fun v' w' h1 h2 => hK' _ _ (hK v' w' h1 h2)
def EmK (lo : Nat) (t : TypeId) (W : World) (v : Value) : Prop := ∃ g, v = .slice (some ⟨g, 0, none⟩) 0 0 ∧ Cs W g t #[] ∧ lo ≤ g
set_option maxRecDepth 100000 in
theorem EmK.ext {lo : Nat} {t : TypeId} {W W' : World} {v : Value} (h : EmK lo t W v) (he : Ext W W') : EmK lo t W' v := by
  obtain ⟨g, e, h1, h2⟩ := h
  exact ⟨g, e, Cs.ext h1 he, h2⟩
def ShA (lo : Nat) (W : World) (v : Value) (l : List Pe) : Prop := ∃ A c, v = .slice A l.length c ∧ OwnA W lo (.slice A l.length c) l
def ShS (lo : Nat) (W : World) (v : Value) (l : List Pe) : Prop := ∃ A c, v = .slice A l.length c ∧ OwnS W lo (.slice A l.length c) l
def ShP (lo : Nat) (W : World) (v : Value) (l : List Pe) : Prop := ∃ A c, v = .slice A l.length c ∧ OwnP W lo (.slice A l.length c) l
set_option maxRecDepth 100000 in
theorem ShA.ext {lo : Nat} {W W' : World} {v : Value} {l : List Pe} (h : ShA lo W v l) (he : Ext W W') : ShA lo W' v l := by obtain ⟨A, c, e, h⟩ := h; exact ⟨A, c, e, h.ext he⟩
set_option maxRecDepth 100000 in
theorem ShS.ext {lo : Nat} {W W' : World} {v : Value} {l : List Pe} (h : ShS lo W v l) (he : Ext W W') : ShS lo W' v l := by obtain ⟨A, c, e, h⟩ := h; exact ⟨A, c, e, h.ext he⟩
set_option maxRecDepth 100000 in
theorem ShP.ext {lo : Nat} {W W' : World} {v : Value} {l : List Pe} (h : ShP lo W v l) (he : Ext W W') : ShP lo W' v l := by obtain ⟨A, c, e, h⟩ := h; exact ⟨A, c, e, h.ext he⟩
def RtX (lo : Nat) (W : World) (v : Value) (x : Ax) : Prop := ∃ a1 a2 a3 m1 m2 m3, v = .agg #[.slice a1 x.a.length m1, .slice a2 x.s.length m2, .slice a3 x.p.length m3] ∧ OwnA W lo (.slice a1 x.a.length m1) x.a ∧ OwnS W lo (.slice a2 x.s.length m2) x.s ∧ OwnP W lo (.slice a3 x.p.length m3) x.p
set_option maxRecDepth 100000 in
theorem RtX.ext {lo : Nat} {W W' : World} {v : Value} {x : Ax} (h : RtX lo W v x) (he : Ext W W') : RtX lo W' v x := by
  obtain ⟨a1, a2, a3, m1, m2, m3, e, h1, h2, h3⟩ := h
  exact ⟨a1, a2, a3, m1, m2, m3, e, h1.ext he, h2.ext he, h3.ext he⟩
set_option maxRecDepth 100000 in
theorem CpJ.ext {w0 W W' : World} {g1 g2 : Nat} {cs ds : Array Value} (h : Cs W g1 26 cs ∧ Cs W g2 26 ds ∧ Ext w0 W) (he : Ext W W') : Cs W' g1 26 cs ∧ Cs W' g2 26 ds ∧ Ext w0 W' := ⟨Cs.ext h.1 he, Cs.ext h.2.1 he, h.2.2.trans he⟩
def CpD (w : World) (g2 lo : Nat) (x : Ax) (W : World) : Prop := ∃ a1 a2 a3 m1 m2 m3, Cs W g2 26 #[.slice a1 x.a.length m1, .slice a2 x.s.length m2, .slice a3 x.p.length m3] ∧ OwnA W lo (.slice a1 x.a.length m1) x.a ∧ OwnS W lo (.slice a2 x.s.length m2) x.s ∧ OwnP W lo (.slice a3 x.p.length m3) x.p ∧ Ext w W
set_option maxRecDepth 100000 in
theorem CpD.ext {w : World} {g2 lo : Nat} {x : Ax} {W W' : World} (h : CpD w g2 lo x W) (he : Ext W W') : CpD w g2 lo x W' := by
  obtain ⟨a1, a2, a3, m1, m2, m3, h0, h1, h2, h3, h4⟩ := h
  exact ⟨a1, a2, a3, m1, m2, m3, Cs.ext h0 he, h1.ext he, h2.ext he, h3.ext he, h4.trans he⟩
set_option maxRecDepth 100000 in
theorem results_ax1 {fn : Func} {p : Tmp} (h : fn.results = #[.cell p 26]) (tmps : Array Value) (w : World) (g : Nat) (cs : Array Value) (hp : tmps.getD p undef = .pointer (some ⟨g, 0, none⟩)) (hg : Cs w g 26 cs) (hs : cs.size = 3) : (results fn tmps).run Try.prog w = .ok (.agg cs) w :=
  results_cell_row h tmps w g 26 cs (0, 0) _ hp hg Try.underlying26 rfl (by rw [axinfo, hs])
set_option maxRecDepth 100000 in
set_option maxHeartbeats 8000000 in
theorem copiedX_any (va vs vp : Value) (x : Ax) (w : World) (hx : AxR w va vs vp x) (h1 : x.a.length ≤ 500) (h2 : x.s.length ≤ 500) (h3 : x.p.length ≤ 500) :
    Calls Try.prog 23 #[.agg #[va, vs, vp]] w fun e w' => ∃ v', e = .returned v' ∧ RetX w.heap.size w' v' x ∧ Ext w w' := by
  have HX := Lib.hid hx
  have HLA := Lib.hid (show x.a.length ≤ 1099511627776 by omega)
  have HLS := Lib.hid (show x.s.length ≤ 1099511627776 by omega)
  have HLP := Lib.hid (show x.p.length ≤ 1099511627776 by omega)
  obtain ⟨A1, c1, rfl, _, _⟩ := hx.1.len
  obtain ⟨A2, c2, rfl, _, _⟩ := hx.2.1.len
  obtain ⟨A3, c3, rfl, _, _⟩ := hx.2.2.len
  obtain ⟨w0, hw0⟩ : ∃ w0, (w.alloc (.cells #[.slice A1 x.a.length c1, .slice A2 x.s.length c2, .slice A3 x.p.length c3] 26)).alloc (.cells #[.slice none 0 0, .slice none 0 0, .slice none 0 0] 26) = w0 := ⟨_, rfl⟩
  have HJ : Hid (Cs w0 w.heap.size 26 #[.slice A1 x.a.length c1, .slice A2 x.s.length c2, .slice A3 x.p.length c3] ∧ Cs w0 (w.heap.size + 1) 26 #[.slice none 0 0, .slice none 0 0, .slice none 0 0] ∧ Ext w0 w0) := Lib.hid ⟨by rw [← hw0]; exact Cs.alloc (Cs.new _ _ _ _ rfl) _, by rw [← hw0]; exact Cs.new _ _ _ _ (by simp), Ext.refl _⟩
  have HE0 : Hid (Ext w w0) := Lib.hid (by rw [← hw0]; exact ((Ext.refl w).alloc _).alloc _)
  have HW0 := Lib.hid hw0
  clear hx hw0 h1 h2 h3
  go_enter Try.func23, Try.ntmps23
  go_upto_region 1 with fail
  rw [HW0.out]
  clear HW0
  obtain ⟨lo, hlo⟩ : ∃ lo, lo = w0.heap.size := ⟨_, rfl⟩
  have HLO := Lib.hid hlo
  obtain ⟨g2, hg2⟩ : ∃ g, w.heap.size + 1 = g := ⟨_, rfl⟩
  have HG2 : Hid (w.heap.size ≤ g2) := Lib.hid (by omega)
  rw [hg2] at HJ ⊢
  obtain ⟨g1, hg1⟩ : ∃ g, w.heap.size = g := ⟨_, rfl⟩
  rw [hg1] at HJ ⊢
  clear hlo hg1 hg2
  refine wp_named fun a0 ha0 => ?_
  obtain ⟨fr, hfr⟩ : ∃ fr : (Nat → Value) → Act, ∀ V, fr V = (((((((((((((a0.put (some 3) (V 0)).put (some 4) (V 1)).put (some 5) (V 2)).put (some 6) (V 3)).put (some 7) (V 4)).put (some 8) (V 5)).put (some 9) (V 6)).put (some 10) (V 7)).put (some 11) (V 8)).put (some 12) (V 9)).put (some 13) (V 10)).put (some 14) (V 11)).put (some 15) (V 12)) := ⟨fun V => (((((((((((((a0.put (some 3) (V 0)).put (some 4) (V 1)).put (some 5) (V 2)).put (some 6) (V 3)).put (some 7) (V 4)).put (some 8) (V 5)).put (some 9) (V 6)).put (some 10) (V 7)).put (some 11) (V 8)).put (some 12) (V 9)).put (some 13) (V 10)).put (some 14) (V 11)).put (some 15) (V 12)), fun _ => rfl⟩
  rw [ha0] at hfr
  simp only [Act.put, List.setIfInBounds_toArray, List.set_cons_zero, List.set_cons_succ] at hfr
  have HFR := Lib.hid hfr
  clear hfr
  refine wp_region_inv (by kernel_rfl) (by kernel_rfl) (fun L A W => ∃ V : Nat → Value, A = fr V ∧ Vals (fun j => ([none, some (.pointer (some ⟨g1, 0, none⟩)), some (.slice A1 x.a.length c1), none, none, some (.pointer (some ⟨g1, 1, none⟩)), some (.slice A2 x.s.length c2), none, none, some (.pointer (some ⟨g1, 2, none⟩)), some (.slice A3 x.p.length c3), none, none, none] : List (Option Value)).getD j none) L V ∧ (L 13 = false → Cs W g1 26 #[.slice A1 x.a.length c1, .slice A2 x.s.length c2, .slice A3 x.p.length c3] ∧ Cs W g2 26 #[.slice none 0 0, .slice none 0 0, .slice none 0 0] ∧ Ext w0 W) ∧ (L 13 = true → CpD w g2 lo x W) ∧ (L 13 = false → L 0 = true → EmK lo 28 W (V 0)) ∧ (L 13 = false → L 3 = true → ShA lo W (V 3) x.a) ∧ (L 13 = false → L 4 = true → EmK lo 32 W (V 4)) ∧ (L 13 = false → L 7 = true → ShS lo W (V 7) x.s) ∧ (L 13 = false → L 8 = true → EmK lo 69 W (V 8)) ∧ (L 13 = false → L 11 = true → ShP lo W (V 11) x.p) ∧ (L 13 = false → L 12 = true → RtX lo W (V 12) x)) ?_ ⟨?_, ?_, ?_, ?_, ?_, ?_, ?_, ?_, ?_, ?_, ?_, ?_, ?_, ?_, trivial⟩ ?_
  · refine ⟨fun j => a0.tmps.getD (([3, 4, 5, 6, 7, 8, 9, 10, 11, 12, 13, 14, 15, 0] : List Nat).getD j 0) undef, ?_, Vals.no _ _ _ (far_none _ _ rfl), fun _ => CpJ.ext HJ.out (Ext.refl _).drew, fun h0 => absurd h0 (by decide), fun h0 h1 => absurd h1 (by decide), fun h0 h1 => absurd h1 (by decide), fun h0 h1 => absurd h1 (by decide), fun h0 h1 => absurd h1 (by decide), fun h0 h1 => absurd h1 (by decide), fun h0 h1 => absurd h1 (by decide), fun h0 h1 => absurd h1 (by decide)⟩
    rw [HFR.out, ha0]
    rfl
  all_goals clear ha0
  · rintro L A W K hL hC hW ⟨V, rfl, HV, s0, s1, f0, f3, f4, f7, f8, f11, f12⟩ hK
    have hB := s0 (hC.no (hC.no (hC.no hL 3 _ rfl rfl) 12 _ rfl rfl) 13 _ rfl rfl)
    have H := Lib.hid (show ∀ v W', Ext W W' → (EmK lo 28 W' v) → K (fr (upd V 0 v)) W' from fun v W' he hp => hK _ _ ⟨upd V 0 v, rfl, HV.up 0 _ (fun x hx => absurd hx (by intro h; cases h)), fun h0 => CpJ.ext (s0 (by unfold More at h0; rwa [if_neg (by decide)] at h0)) he, fun h0 => CpD.ext (s1 (more_ne h0 rfl)) he, fun h0 h1 => hp, fun h0 h1 => ShA.ext (f3 (by unfold More at h0; rwa [if_neg (by decide)] at h0) (more_ne h1 rfl)) he, fun h0 h1 => EmK.ext (f4 (by unfold More at h0; rwa [if_neg (by decide)] at h0) (more_ne h1 rfl)) he, fun h0 h1 => ShS.ext (f7 (by unfold More at h0; rwa [if_neg (by decide)] at h0) (more_ne h1 rfl)) he, fun h0 h1 => EmK.ext (f8 (by unfold More at h0; rwa [if_neg (by decide)] at h0) (more_ne h1 rfl)) he, fun h0 h1 => ShP.ext (f11 (by unfold More at h0; rwa [if_neg (by decide)] at h0) (more_ne h1 rfl)) he, fun h0 h1 => RtX.ext (f12 (by unfold More at h0; rwa [if_neg (by decide)] at h0) (more_ne h1 rfl)) he⟩)
    clear hK hC hW hL HV s0 s1 f0 f3 f4 f7 f8 f11 f12
    rw [HFR.out]
    have HSZ := Lib.hid (show lo ≤ W.heap.size by rw [HLO.out]; exact hB.2.2.size)
    clear hB
    go_wp2_with fail
    show K _ _
    have := H.out (.slice (some ⟨W.heap.size, 0, none⟩) 0 0) _ ((Ext.refl W).alloc (.cells #[] 28)) (⟨_, rfl, Cs.new _ _ _ _ rfl, HSZ.out⟩)
    rw [HFR.out] at this
    exact this
  · rintro L A W K hL hC hW ⟨V, rfl, HV, s0, s1, f0, f3, f4, f7, f8, f11, f12⟩ hK
    have H := Lib.hid (show ∀ W', Ext W W' → K (fr (upd V 1 (.pointer (some ⟨g1, 0, none⟩)))) W' from fun W' he => hK _ _ ⟨upd V 1 (.pointer (some ⟨g1, 0, none⟩)), rfl, HV.up 1 _ (fun x hx => Option.some.inj hx), fun h0 => CpJ.ext (s0 (by unfold More at h0; rwa [if_neg (by decide)] at h0)) he, fun h0 => CpD.ext (s1 (more_ne h0 rfl)) he, fun h0 h1 => EmK.ext (f0 (by unfold More at h0; rwa [if_neg (by decide)] at h0) (more_ne h1 rfl)) he, fun h0 h1 => ShA.ext (f3 (by unfold More at h0; rwa [if_neg (by decide)] at h0) (more_ne h1 rfl)) he, fun h0 h1 => EmK.ext (f4 (by unfold More at h0; rwa [if_neg (by decide)] at h0) (more_ne h1 rfl)) he, fun h0 h1 => ShS.ext (f7 (by unfold More at h0; rwa [if_neg (by decide)] at h0) (more_ne h1 rfl)) he, fun h0 h1 => EmK.ext (f8 (by unfold More at h0; rwa [if_neg (by decide)] at h0) (more_ne h1 rfl)) he, fun h0 h1 => ShP.ext (f11 (by unfold More at h0; rwa [if_neg (by decide)] at h0) (more_ne h1 rfl)) he, fun h0 h1 => absurd (more_ne h1 rfl) (by rw [(hC.no (hC.no (hC.no hL 2 _ rfl rfl) 3 _ rfl rfl) 12 _ rfl rfl)]; simp)⟩)
    clear hK hC hW hL HV s0 s1 f0 f3 f4 f7 f8 f11 f12
    rw [HFR.out]
    go_wp2_with fail
    show K _ _
    have := H.out _ (Ext.refl _)
    rw [HFR.out] at this
    exact this
  · rintro L A W K hL hC hW ⟨V, rfl, HV, s0, s1, f0, f3, f4, f7, f8, f11, f12⟩ hK
    have e1 : V 1 = .pointer (some ⟨g1, 0, none⟩) := HV 1 _ rfl (hW 1 rfl)
    have hB := s0 (hC.no (hC.no (hC.no hL 3 _ rfl rfl) 12 _ rfl rfl) 13 _ rfl rfl)
    have H := Lib.hid (show ∀ W', Ext W W' → K (fr (upd V 2 (.slice A1 x.a.length c1))) W' from fun W' he => hK _ _ ⟨upd V 2 (.slice A1 x.a.length c1), rfl, HV.up 2 _ (fun x hx => Option.some.inj hx), fun h0 => CpJ.ext (s0 (by unfold More at h0; rwa [if_neg (by decide)] at h0)) he, fun h0 => CpD.ext (s1 (more_ne h0 rfl)) he, fun h0 h1 => EmK.ext (f0 (by unfold More at h0; rwa [if_neg (by decide)] at h0) (more_ne h1 rfl)) he, fun h0 h1 => ShA.ext (f3 (by unfold More at h0; rwa [if_neg (by decide)] at h0) (more_ne h1 rfl)) he, fun h0 h1 => EmK.ext (f4 (by unfold More at h0; rwa [if_neg (by decide)] at h0) (more_ne h1 rfl)) he, fun h0 h1 => ShS.ext (f7 (by unfold More at h0; rwa [if_neg (by decide)] at h0) (more_ne h1 rfl)) he, fun h0 h1 => EmK.ext (f8 (by unfold More at h0; rwa [if_neg (by decide)] at h0) (more_ne h1 rfl)) he, fun h0 h1 => ShP.ext (f11 (by unfold More at h0; rwa [if_neg (by decide)] at h0) (more_ne h1 rfl)) he, fun h0 h1 => RtX.ext (f12 (by unfold More at h0; rwa [if_neg (by decide)] at h0) (more_ne h1 rfl)) he⟩)
    have HU := Lib.hid (show (upd V 2 (.slice A1 x.a.length c1)) 1 = .pointer (some ⟨g1, 0, none⟩) from e1)
    clear hK hC hW hL HV s0 s1 f0 f3 f4 f7 f8 f11 f12
    rw [HFR.out]
    rw [e1]
    clear e1
    have qq := hB.1.cell 0 _ rfl
    clear hB
    go_wp2_with fail
    show K _ _
    have := H.out _ (Ext.refl _)
    rw [HFR.out] at this
    obtain u1 := HU.out
    rw [u1] at this
    exact this
  · rintro L A W K hL hC hW ⟨V, rfl, HV, s0, s1, f0, f3, f4, f7, f8, f11, f12⟩ hK
    have e2 : V 2 = .slice A1 x.a.length c1 := HV 2 _ rfl (hW 2 rfl)
    have hB := s0 (hC.no (hC.no hL 12 _ rfl rfl) 13 _ rfl rfl)
    have q0 := f0 (hC.no (hC.no hL 12 _ rfl rfl) 13 _ rfl rfl) (hW 0 rfl)
    obtain ⟨g0, e0, z0, y0⟩ := q0
    have H := Lib.hid (show ∀ v W', Ext W W' → (ShA lo W' v x.a) → K (fr (upd V 3 v)) W' from fun v W' he hp => hK _ _ ⟨upd V 3 v, rfl, HV.up 3 _ (fun x hx => absurd hx (by intro h; cases h)), fun h0 => CpJ.ext (s0 (by unfold More at h0; rwa [if_neg (by decide)] at h0)) he, fun h0 => CpD.ext (s1 (more_ne h0 rfl)) he, fun h0 h1 => EmK.ext (f0 (by unfold More at h0; rwa [if_neg (by decide)] at h0) (more_ne h1 rfl)) he, fun h0 h1 => hp, fun h0 h1 => EmK.ext (f4 (by unfold More at h0; rwa [if_neg (by decide)] at h0) (more_ne h1 rfl)) he, fun h0 h1 => ShS.ext (f7 (by unfold More at h0; rwa [if_neg (by decide)] at h0) (more_ne h1 rfl)) he, fun h0 h1 => EmK.ext (f8 (by unfold More at h0; rwa [if_neg (by decide)] at h0) (more_ne h1 rfl)) he, fun h0 h1 => ShP.ext (f11 (by unfold More at h0; rwa [if_neg (by decide)] at h0) (more_ne h1 rfl)) he, fun h0 h1 => RtX.ext (f12 (by unfold More at h0; rwa [if_neg (by decide)] at h0) (more_ne h1 rfl)) he⟩)
    have HU := Lib.hid (show ∀ v, (upd V 3 v) 0 = .slice (some ⟨g0, 0, none⟩) 0 0 ∧ (upd V 3 v) 2 = .slice A1 x.a.length c1 from fun v => ⟨e0, e2⟩)
    clear hK hC hW hL HV s0 s1 f0 f3 f4 f7 f8 f11 f12
    rw [HFR.out]
    rw [e0, e2]
    clear e0 e2
    have HRS := Lib.hid (HX.out.1.ext (HE0.out.trans hB.2.2)).rs
    clear hB
    refine wpList_append_fresh rfl (.tmp 3) (.tmp 5) 22 rfl 28 Try.underlying22 _ 1 8 infoA3 rfl (by decide) g0 lo rfl z0 y0 (.slice A1 x.a.length c1) x.a.length (fA x.a) rfl HRS.out (fA_one _) HLA.out (by decide) ?_
    intro v5 w5 o5 e5
    have O5 := Lib.hid (show OwnA w5 lo v5 x.a from ⟨o5, HX.out.1.oks⟩)
    have E5 := Lib.hid e5
    clear o5 e5
    show K _ _
    have := H.out (v5) _ (E5.out) (O5.out.shp)
    rw [HFR.out] at this
    obtain ⟨u0, u2⟩ := HU.out _
    rw [u0, u2] at this
    exact this
  · rintro L A W K hL hC hW ⟨V, rfl, HV, s0, s1, f0, f3, f4, f7, f8, f11, f12⟩ hK
    have hB := s0 (hC.no (hC.no (hC.no hL 7 _ rfl rfl) 12 _ rfl rfl) 13 _ rfl rfl)
    have H := Lib.hid (show ∀ v W', Ext W W' → (EmK lo 32 W' v) → K (fr (upd V 4 v)) W' from fun v W' he hp => hK _ _ ⟨upd V 4 v, rfl, HV.up 4 _ (fun x hx => absurd hx (by intro h; cases h)), fun h0 => CpJ.ext (s0 (by unfold More at h0; rwa [if_neg (by decide)] at h0)) he, fun h0 => CpD.ext (s1 (more_ne h0 rfl)) he, fun h0 h1 => EmK.ext (f0 (by unfold More at h0; rwa [if_neg (by decide)] at h0) (more_ne h1 rfl)) he, fun h0 h1 => ShA.ext (f3 (by unfold More at h0; rwa [if_neg (by decide)] at h0) (more_ne h1 rfl)) he, fun h0 h1 => hp, fun h0 h1 => ShS.ext (f7 (by unfold More at h0; rwa [if_neg (by decide)] at h0) (more_ne h1 rfl)) he, fun h0 h1 => EmK.ext (f8 (by unfold More at h0; rwa [if_neg (by decide)] at h0) (more_ne h1 rfl)) he, fun h0 h1 => ShP.ext (f11 (by unfold More at h0; rwa [if_neg (by decide)] at h0) (more_ne h1 rfl)) he, fun h0 h1 => RtX.ext (f12 (by unfold More at h0; rwa [if_neg (by decide)] at h0) (more_ne h1 rfl)) he⟩)
    clear hK hC hW hL HV s0 s1 f0 f3 f4 f7 f8 f11 f12
    rw [HFR.out]
    have HSZ := Lib.hid (show lo ≤ W.heap.size by rw [HLO.out]; exact hB.2.2.size)
    clear hB
    go_wp2_with fail
    show K _ _
    have := H.out (.slice (some ⟨W.heap.size, 0, none⟩) 0 0) _ ((Ext.refl W).alloc (.cells #[] 32)) (⟨_, rfl, Cs.new _ _ _ _ rfl, HSZ.out⟩)
    rw [HFR.out] at this
    exact this
  · rintro L A W K hL hC hW ⟨V, rfl, HV, s0, s1, f0, f3, f4, f7, f8, f11, f12⟩ hK
    have H := Lib.hid (show ∀ W', Ext W W' → K (fr (upd V 5 (.pointer (some ⟨g1, 1, none⟩)))) W' from fun W' he => hK _ _ ⟨upd V 5 (.pointer (some ⟨g1, 1, none⟩)), rfl, HV.up 5 _ (fun x hx => Option.some.inj hx), fun h0 => CpJ.ext (s0 (by unfold More at h0; rwa [if_neg (by decide)] at h0)) he, fun h0 => CpD.ext (s1 (more_ne h0 rfl)) he, fun h0 h1 => EmK.ext (f0 (by unfold More at h0; rwa [if_neg (by decide)] at h0) (more_ne h1 rfl)) he, fun h0 h1 => ShA.ext (f3 (by unfold More at h0; rwa [if_neg (by decide)] at h0) (more_ne h1 rfl)) he, fun h0 h1 => EmK.ext (f4 (by unfold More at h0; rwa [if_neg (by decide)] at h0) (more_ne h1 rfl)) he, fun h0 h1 => ShS.ext (f7 (by unfold More at h0; rwa [if_neg (by decide)] at h0) (more_ne h1 rfl)) he, fun h0 h1 => EmK.ext (f8 (by unfold More at h0; rwa [if_neg (by decide)] at h0) (more_ne h1 rfl)) he, fun h0 h1 => ShP.ext (f11 (by unfold More at h0; rwa [if_neg (by decide)] at h0) (more_ne h1 rfl)) he, fun h0 h1 => RtX.ext (f12 (by unfold More at h0; rwa [if_neg (by decide)] at h0) (more_ne h1 rfl)) he⟩)
    clear hK hC hW hL HV s0 s1 f0 f3 f4 f7 f8 f11 f12
    rw [HFR.out]
    go_wp2_with fail
    show K _ _
    have := H.out _ (Ext.refl _)
    rw [HFR.out] at this
    exact this
  · rintro L A W K hL hC hW ⟨V, rfl, HV, s0, s1, f0, f3, f4, f7, f8, f11, f12⟩ hK
    have e5 : V 5 = .pointer (some ⟨g1, 1, none⟩) := HV 5 _ rfl (hW 5 rfl)
    have hB := s0 (hC.no (hC.no (hC.no hL 7 _ rfl rfl) 12 _ rfl rfl) 13 _ rfl rfl)
    have H := Lib.hid (show ∀ W', Ext W W' → K (fr (upd V 6 (.slice A2 x.s.length c2))) W' from fun W' he => hK _ _ ⟨upd V 6 (.slice A2 x.s.length c2), rfl, HV.up 6 _ (fun x hx => Option.some.inj hx), fun h0 => CpJ.ext (s0 (by unfold More at h0; rwa [if_neg (by decide)] at h0)) he, fun h0 => CpD.ext (s1 (more_ne h0 rfl)) he, fun h0 h1 => EmK.ext (f0 (by unfold More at h0; rwa [if_neg (by decide)] at h0) (more_ne h1 rfl)) he, fun h0 h1 => ShA.ext (f3 (by unfold More at h0; rwa [if_neg (by decide)] at h0) (more_ne h1 rfl)) he, fun h0 h1 => EmK.ext (f4 (by unfold More at h0; rwa [if_neg (by decide)] at h0) (more_ne h1 rfl)) he, fun h0 h1 => ShS.ext (f7 (by unfold More at h0; rwa [if_neg (by decide)] at h0) (more_ne h1 rfl)) he, fun h0 h1 => EmK.ext (f8 (by unfold More at h0; rwa [if_neg (by decide)] at h0) (more_ne h1 rfl)) he, fun h0 h1 => ShP.ext (f11 (by unfold More at h0; rwa [if_neg (by decide)] at h0) (more_ne h1 rfl)) he, fun h0 h1 => RtX.ext (f12 (by unfold More at h0; rwa [if_neg (by decide)] at h0) (more_ne h1 rfl)) he⟩)
    have HU := Lib.hid (show (upd V 6 (.slice A2 x.s.length c2)) 5 = .pointer (some ⟨g1, 1, none⟩) from e5)
    clear hK hC hW hL HV s0 s1 f0 f3 f4 f7 f8 f11 f12
    rw [HFR.out]
    rw [e5]
    clear e5
    have qq := hB.1.cell 1 _ rfl
    clear hB
    go_wp2_with fail
    show K _ _
    have := H.out _ (Ext.refl _)
    rw [HFR.out] at this
    obtain u5 := HU.out
    rw [u5] at this
    exact this
  · rintro L A W K hL hC hW ⟨V, rfl, HV, s0, s1, f0, f3, f4, f7, f8, f11, f12⟩ hK
    have e6 : V 6 = .slice A2 x.s.length c2 := HV 6 _ rfl (hW 6 rfl)
    have hB := s0 (hC.no (hC.no hL 12 _ rfl rfl) 13 _ rfl rfl)
    have q4 := f4 (hC.no (hC.no hL 12 _ rfl rfl) 13 _ rfl rfl) (hW 4 rfl)
    obtain ⟨g4, e4, z4, y4⟩ := q4
    have H := Lib.hid (show ∀ v W', Ext W W' → (ShS lo W' v x.s) → K (fr (upd V 7 v)) W' from fun v W' he hp => hK _ _ ⟨upd V 7 v, rfl, HV.up 7 _ (fun x hx => absurd hx (by intro h; cases h)), fun h0 => CpJ.ext (s0 (by unfold More at h0; rwa [if_neg (by decide)] at h0)) he, fun h0 => CpD.ext (s1 (more_ne h0 rfl)) he, fun h0 h1 => EmK.ext (f0 (by unfold More at h0; rwa [if_neg (by decide)] at h0) (more_ne h1 rfl)) he, fun h0 h1 => ShA.ext (f3 (by unfold More at h0; rwa [if_neg (by decide)] at h0) (more_ne h1 rfl)) he, fun h0 h1 => EmK.ext (f4 (by unfold More at h0; rwa [if_neg (by decide)] at h0) (more_ne h1 rfl)) he, fun h0 h1 => hp, fun h0 h1 => EmK.ext (f8 (by unfold More at h0; rwa [if_neg (by decide)] at h0) (more_ne h1 rfl)) he, fun h0 h1 => ShP.ext (f11 (by unfold More at h0; rwa [if_neg (by decide)] at h0) (more_ne h1 rfl)) he, fun h0 h1 => RtX.ext (f12 (by unfold More at h0; rwa [if_neg (by decide)] at h0) (more_ne h1 rfl)) he⟩)
    have HU := Lib.hid (show ∀ v, (upd V 7 v) 4 = .slice (some ⟨g4, 0, none⟩) 0 0 ∧ (upd V 7 v) 6 = .slice A2 x.s.length c2 from fun v => ⟨e4, e6⟩)
    clear hK hC hW hL HV s0 s1 f0 f3 f4 f7 f8 f11 f12
    rw [HFR.out]
    rw [e4, e6]
    clear e4 e6
    have HRS := Lib.hid (HX.out.2.1.ext (HE0.out.trans hB.2.2)).rs
    clear hB
    refine wpList_append_fresh rfl (.tmp 7) (.tmp 9) 23 rfl 32 Try.underlying23 _ 5 40 infoS3 rfl (by decide) g4 lo rfl z4 y4 (.slice A2 x.s.length c2) x.s.length (fS x.s) rfl HRS.out (fS_one _) HLS.out (by decide) ?_
    intro v5 w5 o5 e5
    have O5 := Lib.hid (show OwnS w5 lo v5 x.s from ⟨o5, HX.out.2.1.oks⟩)
    have E5 := Lib.hid e5
    clear o5 e5
    show K _ _
    have := H.out (v5) _ (E5.out) (O5.out.shp)
    rw [HFR.out] at this
    obtain ⟨u4, u6⟩ := HU.out _
    rw [u4, u6] at this
    exact this
  · rintro L A W K hL hC hW ⟨V, rfl, HV, s0, s1, f0, f3, f4, f7, f8, f11, f12⟩ hK
    have hB := s0 (hC.no (hC.no (hC.no hL 11 _ rfl rfl) 12 _ rfl rfl) 13 _ rfl rfl)
    have H := Lib.hid (show ∀ v W', Ext W W' → (EmK lo 69 W' v) → K (fr (upd V 8 v)) W' from fun v W' he hp => hK _ _ ⟨upd V 8 v, rfl, HV.up 8 _ (fun x hx => absurd hx (by intro h; cases h)), fun h0 => CpJ.ext (s0 (by unfold More at h0; rwa [if_neg (by decide)] at h0)) he, fun h0 => CpD.ext (s1 (more_ne h0 rfl)) he, fun h0 h1 => EmK.ext (f0 (by unfold More at h0; rwa [if_neg (by decide)] at h0) (more_ne h1 rfl)) he, fun h0 h1 => ShA.ext (f3 (by unfold More at h0; rwa [if_neg (by decide)] at h0) (more_ne h1 rfl)) he, fun h0 h1 => EmK.ext (f4 (by unfold More at h0; rwa [if_neg (by decide)] at h0) (more_ne h1 rfl)) he, fun h0 h1 => ShS.ext (f7 (by unfold More at h0; rwa [if_neg (by decide)] at h0) (more_ne h1 rfl)) he, fun h0 h1 => hp, fun h0 h1 => ShP.ext (f11 (by unfold More at h0; rwa [if_neg (by decide)] at h0) (more_ne h1 rfl)) he, fun h0 h1 => RtX.ext (f12 (by unfold More at h0; rwa [if_neg (by decide)] at h0) (more_ne h1 rfl)) he⟩)
    clear hK hC hW hL HV s0 s1 f0 f3 f4 f7 f8 f11 f12
    rw [HFR.out]
    have HSZ := Lib.hid (show lo ≤ W.heap.size by rw [HLO.out]; exact hB.2.2.size)
    clear hB
    go_wp2_with fail
    show K _ _
    have := H.out (.slice (some ⟨W.heap.size, 0, none⟩) 0 0) _ ((Ext.refl W).alloc (.cells #[] 69)) (⟨_, rfl, Cs.new _ _ _ _ rfl, HSZ.out⟩)
    rw [HFR.out] at this
    exact this
  · rintro L A W K hL hC hW ⟨V, rfl, HV, s0, s1, f0, f3, f4, f7, f8, f11, f12⟩ hK
    have H := Lib.hid (show ∀ W', Ext W W' → K (fr (upd V 9 (.pointer (some ⟨g1, 2, none⟩)))) W' from fun W' he => hK _ _ ⟨upd V 9 (.pointer (some ⟨g1, 2, none⟩)), rfl, HV.up 9 _ (fun x hx => Option.some.inj hx), fun h0 => CpJ.ext (s0 (by unfold More at h0; rwa [if_neg (by decide)] at h0)) he, fun h0 => CpD.ext (s1 (more_ne h0 rfl)) he, fun h0 h1 => EmK.ext (f0 (by unfold More at h0; rwa [if_neg (by decide)] at h0) (more_ne h1 rfl)) he, fun h0 h1 => ShA.ext (f3 (by unfold More at h0; rwa [if_neg (by decide)] at h0) (more_ne h1 rfl)) he, fun h0 h1 => EmK.ext (f4 (by unfold More at h0; rwa [if_neg (by decide)] at h0) (more_ne h1 rfl)) he, fun h0 h1 => ShS.ext (f7 (by unfold More at h0; rwa [if_neg (by decide)] at h0) (more_ne h1 rfl)) he, fun h0 h1 => EmK.ext (f8 (by unfold More at h0; rwa [if_neg (by decide)] at h0) (more_ne h1 rfl)) he, fun h0 h1 => ShP.ext (f11 (by unfold More at h0; rwa [if_neg (by decide)] at h0) (more_ne h1 rfl)) he, fun h0 h1 => RtX.ext (f12 (by unfold More at h0; rwa [if_neg (by decide)] at h0) (more_ne h1 rfl)) he⟩)
    clear hK hC hW hL HV s0 s1 f0 f3 f4 f7 f8 f11 f12
    rw [HFR.out]
    go_wp2_with fail
    show K _ _
    have := H.out _ (Ext.refl _)
    rw [HFR.out] at this
    exact this
  · rintro L A W K hL hC hW ⟨V, rfl, HV, s0, s1, f0, f3, f4, f7, f8, f11, f12⟩ hK
    have e9 : V 9 = .pointer (some ⟨g1, 2, none⟩) := HV 9 _ rfl (hW 9 rfl)
    have hB := s0 (hC.no (hC.no (hC.no hL 11 _ rfl rfl) 12 _ rfl rfl) 13 _ rfl rfl)
    have H := Lib.hid (show ∀ W', Ext W W' → K (fr (upd V 10 (.slice A3 x.p.length c3))) W' from fun W' he => hK _ _ ⟨upd V 10 (.slice A3 x.p.length c3), rfl, HV.up 10 _ (fun x hx => Option.some.inj hx), fun h0 => CpJ.ext (s0 (by unfold More at h0; rwa [if_neg (by decide)] at h0)) he, fun h0 => CpD.ext (s1 (more_ne h0 rfl)) he, fun h0 h1 => EmK.ext (f0 (by unfold More at h0; rwa [if_neg (by decide)] at h0) (more_ne h1 rfl)) he, fun h0 h1 => ShA.ext (f3 (by unfold More at h0; rwa [if_neg (by decide)] at h0) (more_ne h1 rfl)) he, fun h0 h1 => EmK.ext (f4 (by unfold More at h0; rwa [if_neg (by decide)] at h0) (more_ne h1 rfl)) he, fun h0 h1 => ShS.ext (f7 (by unfold More at h0; rwa [if_neg (by decide)] at h0) (more_ne h1 rfl)) he, fun h0 h1 => EmK.ext (f8 (by unfold More at h0; rwa [if_neg (by decide)] at h0) (more_ne h1 rfl)) he, fun h0 h1 => ShP.ext (f11 (by unfold More at h0; rwa [if_neg (by decide)] at h0) (more_ne h1 rfl)) he, fun h0 h1 => RtX.ext (f12 (by unfold More at h0; rwa [if_neg (by decide)] at h0) (more_ne h1 rfl)) he⟩)
    have HU := Lib.hid (show (upd V 10 (.slice A3 x.p.length c3)) 9 = .pointer (some ⟨g1, 2, none⟩) from e9)
    clear hK hC hW hL HV s0 s1 f0 f3 f4 f7 f8 f11 f12
    rw [HFR.out]
    rw [e9]
    clear e9
    have qq := hB.1.cell 2 _ rfl
    clear hB
    go_wp2_with fail
    show K _ _
    have := H.out _ (Ext.refl _)
    rw [HFR.out] at this
    obtain u9 := HU.out
    rw [u9] at this
    exact this
  · rintro L A W K hL hC hW ⟨V, rfl, HV, s0, s1, f0, f3, f4, f7, f8, f11, f12⟩ hK
    have e10 : V 10 = .slice A3 x.p.length c3 := HV 10 _ rfl (hW 10 rfl)
    have hB := s0 (hC.no (hC.no hL 12 _ rfl rfl) 13 _ rfl rfl)
    have q8 := f8 (hC.no (hC.no hL 12 _ rfl rfl) 13 _ rfl rfl) (hW 8 rfl)
    obtain ⟨g8, e8, z8, y8⟩ := q8
    have H := Lib.hid (show ∀ v W', Ext W W' → (ShP lo W' v x.p) → K (fr (upd V 11 v)) W' from fun v W' he hp => hK _ _ ⟨upd V 11 v, rfl, HV.up 11 _ (fun x hx => absurd hx (by intro h; cases h)), fun h0 => CpJ.ext (s0 (by unfold More at h0; rwa [if_neg (by decide)] at h0)) he, fun h0 => CpD.ext (s1 (more_ne h0 rfl)) he, fun h0 h1 => EmK.ext (f0 (by unfold More at h0; rwa [if_neg (by decide)] at h0) (more_ne h1 rfl)) he, fun h0 h1 => ShA.ext (f3 (by unfold More at h0; rwa [if_neg (by decide)] at h0) (more_ne h1 rfl)) he, fun h0 h1 => EmK.ext (f4 (by unfold More at h0; rwa [if_neg (by decide)] at h0) (more_ne h1 rfl)) he, fun h0 h1 => ShS.ext (f7 (by unfold More at h0; rwa [if_neg (by decide)] at h0) (more_ne h1 rfl)) he, fun h0 h1 => EmK.ext (f8 (by unfold More at h0; rwa [if_neg (by decide)] at h0) (more_ne h1 rfl)) he, fun h0 h1 => hp, fun h0 h1 => RtX.ext (f12 (by unfold More at h0; rwa [if_neg (by decide)] at h0) (more_ne h1 rfl)) he⟩)
    have HU := Lib.hid (show ∀ v, (upd V 11 v) 8 = .slice (some ⟨g8, 0, none⟩) 0 0 ∧ (upd V 11 v) 10 = .slice A3 x.p.length c3 from fun v => ⟨e8, e10⟩)
    clear hK hC hW hL HV s0 s1 f0 f3 f4 f7 f8 f11 f12
    rw [HFR.out]
    rw [e8, e10]
    clear e8 e10
    have HRS := Lib.hid (HX.out.2.2.ext (HE0.out.trans hB.2.2)).rs
    clear hB
    refine wpList_append_fresh rfl (.tmp 11) (.tmp 13) 24 rfl 69 Try.underlying24 _ 9 72 infoP3 rfl (by decide) g8 lo rfl z8 y8 (.slice A3 x.p.length c3) x.p.length (fP x.p) rfl HRS.out (fP_one _) HLP.out (by decide) ?_
    intro v5 w5 o5 e5
    have O5 := Lib.hid (show OwnP w5 lo v5 x.p from ⟨o5, HX.out.2.2.oks⟩)
    have E5 := Lib.hid e5
    clear o5 e5
    show K _ _
    have := H.out (v5) _ (E5.out) (O5.out.shp)
    rw [HFR.out] at this
    obtain ⟨u8, u10⟩ := HU.out _
    rw [u8, u10] at this
    exact this
  · rintro L A W K hL hC hW ⟨V, rfl, HV, s0, s1, f0, f3, f4, f7, f8, f11, f12⟩ hK
    have q3 := f3 (hC.no hL 13 _ rfl rfl) (hW 3 rfl)
    obtain ⟨D3, n3, e3, z3⟩ := q3
    have q7 := f7 (hC.no hL 13 _ rfl rfl) (hW 7 rfl)
    obtain ⟨D7, n7, e7, z7⟩ := q7
    have q11 := f11 (hC.no hL 13 _ rfl rfl) (hW 11 rfl)
    obtain ⟨D11, n11, e11, z11⟩ := q11
    have H := Lib.hid (show ∀ v W', Ext W W' → (RtX lo W' v x) → K (fr (upd V 12 v)) W' from fun v W' he hp => hK _ _ ⟨upd V 12 v, rfl, HV.up 12 _ (fun x hx => absurd hx (by intro h; cases h)), fun h0 => CpJ.ext (s0 (by unfold More at h0; rwa [if_neg (by decide)] at h0)) he, fun h0 => CpD.ext (s1 (more_ne h0 rfl)) he, fun h0 h1 => EmK.ext (f0 (by unfold More at h0; rwa [if_neg (by decide)] at h0) (more_ne h1 rfl)) he, fun h0 h1 => ShA.ext (f3 (by unfold More at h0; rwa [if_neg (by decide)] at h0) (more_ne h1 rfl)) he, fun h0 h1 => EmK.ext (f4 (by unfold More at h0; rwa [if_neg (by decide)] at h0) (more_ne h1 rfl)) he, fun h0 h1 => ShS.ext (f7 (by unfold More at h0; rwa [if_neg (by decide)] at h0) (more_ne h1 rfl)) he, fun h0 h1 => EmK.ext (f8 (by unfold More at h0; rwa [if_neg (by decide)] at h0) (more_ne h1 rfl)) he, fun h0 h1 => ShP.ext (f11 (by unfold More at h0; rwa [if_neg (by decide)] at h0) (more_ne h1 rfl)) he, fun h0 h1 => hp⟩)
    have HU := Lib.hid (show ∀ v, (upd V 12 v) 3 = .slice D3 x.a.length n3 ∧ (upd V 12 v) 7 = .slice D7 x.s.length n7 ∧ (upd V 12 v) 11 = .slice D11 x.p.length n11 from fun v => ⟨e3, e7, e11⟩)
    clear hK hC hW hL HV s0 s1 f0 f3 f4 f7 f8 f11 f12
    rw [HFR.out]
    rw [e3, e7, e11]
    clear e3 e7 e11
    go_wp2_with fail
    show K _ _
    have := H.out (.agg #[.slice D3 x.a.length n3, .slice D7 x.s.length n7, .slice D11 x.p.length n11]) _ (Ext.refl _) (⟨_, _, _, _, _, _, rfl, z3, z7, z11⟩)
    rw [HFR.out] at this
    obtain ⟨u3, u7, u11⟩ := HU.out _
    rw [u3, u7, u11] at this
    exact this
  · rintro L A W K hL hC hW ⟨V, rfl, HV, s0, s1, f0, f3, f4, f7, f8, f11, f12⟩ hK
    have hB := s0 hL
    have q12 := f12 hL (hW 12 rfl)
    obtain ⟨a1, a2, a3, m1, m2, m3, e12, z12⟩ := q12
    have H := Lib.hid (show ∀ W', (CpD w g2 lo x W') → K (fr (V)) W' from fun W' hA => hK _ _ ⟨V, rfl, HV.st 13 rfl, fun h0 => absurd h0 (by unfold More; rw [if_pos rfl]; simp), fun h0 => hA, fun h0 h1 => absurd h0 (by unfold More; rw [if_pos rfl]; simp), fun h0 h1 => absurd h0 (by unfold More; rw [if_pos rfl]; simp), fun h0 h1 => absurd h0 (by unfold More; rw [if_pos rfl]; simp), fun h0 h1 => absurd h0 (by unfold More; rw [if_pos rfl]; simp), fun h0 h1 => absurd h0 (by unfold More; rw [if_pos rfl]; simp), fun h0 h1 => absurd h0 (by unfold More; rw [if_pos rfl]; simp), fun h0 h1 => absurd h0 (by unfold More; rw [if_pos rfl]; simp)⟩)
    have HU := Lib.hid (show (V) 12 = .agg #[.slice a1 x.a.length m1, .slice a2 x.s.length m2, .slice a3 x.p.length m3] from e12)
    clear hK hC hW hL HV s0 s1 f0 f3 f4 f7 f8 f11 f12
    rw [HFR.out]
    rw [e12]
    clear e12
    have HB := Lib.hid hB
    have HZ := Lib.hid z12
    clear hB z12
    refine wpList_storeX rfl rfl (.tmp 2) (.tmp 15) rfl g2 (.slice none 0 0) (.slice none 0 0) (.slice none 0 0) (.slice a1 x.a.length m1) (.slice a2 x.s.length m2) (.slice a3 x.p.length m3) rfl rfl rfl rfl rfl HB.out.2.1 ?_
    intro w' kk gg
    have HA := Lib.hid (show CpD w g2 lo x w' from ⟨_, _, _, _, _, _, kk, HZ.out.1.keptT gg HB.out.2.1 (by decide), HZ.out.2.1.keptT gg HB.out.2.1 (by decide), HZ.out.2.2.keptT gg HB.out.2.1 (by decide), (HE0.out.trans HB.out.2.2).grown gg HG2.out⟩)
    clear kk gg
    show K _ _
    have := H.out _ HA.out
    rw [HFR.out] at this
    obtain u12 := HU.out
    rw [u12] at this
    exact this
  · rintro L A W hL ⟨V, rfl, HV, s0, s1, f0, f3, f4, f7, f8, f11, f12⟩
    have e1 : V 1 = .pointer (some ⟨g1, 0, none⟩) := HV 1 _ rfl (hL 1 (by simp))
    have e2 : V 2 = .slice A1 x.a.length c1 := HV 2 _ rfl (hL 2 (by simp))
    have e5 : V 5 = .pointer (some ⟨g1, 1, none⟩) := HV 5 _ rfl (hL 5 (by simp))
    have e6 : V 6 = .slice A2 x.s.length c2 := HV 6 _ rfl (hL 6 (by simp))
    have e9 : V 9 = .pointer (some ⟨g1, 2, none⟩) := HV 9 _ rfl (hL 9 (by simp))
    have e10 : V 10 = .slice A3 x.p.length c3 := HV 10 _ rfl (hL 10 (by simp))
    have hA := s1 (hL 13 (by simp))
    rw [HFR.out]
    rw [e1, e2, e5, e6, e9, e10]
    clear hL HV HFR e1 e2 e5 e6 e9 e10 s0 s1 f0 f3 f4 f7 f8 f11 f12
    obtain ⟨a1, a2, a3, m1, m2, m3, k0, k1, k2, k3, k4⟩ := hA
    have K0 := Lib.hid k0
    have HWL : Hid (w.heap.size ≤ lo) := Lib.hid (by rw [HLO.out]; exact HE0.out.size)
    have HR := Lib.hid (And.intro (k1.mono HWL.out) (And.intro (k2.mono HWL.out) (And.intro (k3.mono HWL.out) k4)))
    clear k0 k1 k2 k3 k4
    go_wp2_with fail
    refine bodyPost_ret (results_ax1 Try.results23 _ _ g2 _ rfl K0.out rfl) rfl ?_
    exact ⟨_, rfl, ⟨_, _, _, rfl, HR.out.1, HR.out.2.1, HR.out.2.2.1⟩, HR.out.2.2.2⟩
set_option maxRecDepth 100000 in
theorem KpX.kept {lo g : Nat} {W W' : World} {va vs vp ua us up : Value} {x y : Ax} {cs : Array Value} (h : KpX lo W va vs vp x ua us up y) (hg : W.grownBy W' (some g)) (hs : Cs W g 26 cs) : KpX lo W' va vs vp x ua us up y :=
  ⟨h.1.elim (fun h => .inl (h.keptT hg hs (by decide))) .inr, h.2.1.elim (fun h => .inl (h.keptT hg hs (by decide))) .inr, h.2.2.elim (fun h => .inl (h.keptT hg hs (by decide))) .inr⟩
set_option maxRecDepth 100000 in
theorem KpX.low {lo lo' : Nat} {W : World} {va vs vp ua us up : Value} {x y : Ax} (h : KpX lo W va vs vp x ua us up y) (hl : lo' ≤ lo) : KpX lo' W va vs vp x ua us up y :=
  ⟨h.1.elim (fun h => .inl (h.mono hl)) .inr, h.2.1.elim (fun h => .inl (h.mono hl)) .inr, h.2.2.elim (fun h => .inl (h.mono hl)) .inr⟩
def RwX (w : World) (va vs vp : Value) (x : Ax) (r : Ax × Bool × Int) (e : Ending) (w' : World) : Prop := ∃ ua us up, e = .returned (.tuple #[.agg #[ua, us, up], .bool r.2.1, .int .i64 r.2.2]) ∧ KpX w.heap.size w' va vs vp x ua us up r.1 ∧ Ext w w'
set_option maxRecDepth 100000 in
theorem chg_no {x y : Ax} {b : Bool} {er : Int} (h : rightX x = false) : chg x b er y = (ax0, false, 190) := by unfold chg; rw [h]; rfl
set_option maxRecDepth 100000 in
theorem chg_yes {x y : Ax} {b : Bool} {er : Int} (h : rightX x = true) (he : er = 0) : chg x b er y = (y, b, 0) := by unfold chg; rw [h, if_pos rfl, if_pos he]
set_option maxRecDepth 100000 in
theorem chg_full {x y : Ax} {b : Bool} {er : Int} (h : rightX x = true) (he : er ≠ 0) : chg x b er y = (ax0, false, er) := by unfold chg; rw [h, if_pos rfl, if_neg he]
set_option maxRecDepth 100000 in
theorem pt_six {l : List Pe} {p : Pe} (h : ptE l p ≠ 0) : ptE l p = 6 := by unfold ptE at *; split at h <;> simp_all
set_option maxRecDepth 100000 in
theorem kp_six {l : List Pe} {p : Pe} {n : Nat} (h : kpE l p n ≠ 0) : kpE l p n = 6 := by
  unfold kpE at *
  split at h
  · exact absurd rfl h
  · rename_i hn; rw [if_neg hn]; exact pt_six h
set_option maxRecDepth 100000 in
theorem do_no {x : Ax} (h : rightX x = false) (d : De) : doX x d = (ax0, false, 190) := by
  unfold doX touchX reachX keepX
  rw [chg_no h, chg_no h, chg_no h]
  split
  · rfl
  · split <;> rfl
set_option maxRecDepth 100000 in
set_option maxHeartbeats 8000000 in
theorem wantsX_any (d : De) (va vs vp : Value) (x : Ax) (w : World) (hd : d.ok) (hx : AxR w va vs vp x) : Calls Try.prog 25 #[.agg (dec d), .agg #[va, vs, vp]] w (RwX w va vs vp x (doX x d)) := by
  have HD := Lib.hid hd
  have HX := Lib.hid hx
  obtain ⟨A1, c1, rfl, _, _⟩ := hx.1.len
  obtain ⟨A2, c2, rfl, _, _⟩ := hx.2.1.len
  obtain ⟨A3, c3, rfl, _, _⟩ := hx.2.2.len
  obtain ⟨w0, hw0⟩ : ∃ w0, ((w.alloc (.cells (dec d) 52)).alloc (.cells #[.slice A1 x.a.length c1, .slice A2 x.s.length c2, .slice A3 x.p.length c3] 26)).alloc (.cells #[.slice none 0 0, .slice none 0 0, .slice none 0 0] 26) = w0 := ⟨_, rfl⟩
  have HW0 := Lib.hid hw0
  have HG2 : Hid (Cs w0 w.heap.size 52 (dec d)) := Lib.hid (by rw [← hw0]; exact Cs.alloc (Cs.alloc (Cs.new _ _ _ _ rfl) _) _)
  have HG3 : Hid (Cs w0 (w.heap.size + 1) 26 #[.slice A1 x.a.length c1, .slice A2 x.s.length c2, .slice A3 x.p.length c3]) := Lib.hid (by rw [← hw0]; exact Cs.alloc (Cs.new _ _ _ _ (by simp)) _)
  have HR : Hid (Cs w0 (w.heap.size + 1 + 1) 26 #[.slice none 0 0, .slice none 0 0, .slice none 0 0]) := Lib.hid (by rw [← hw0]; exact Cs.new _ _ _ _ (by simp))
  have HE : Hid (Ext w w0) := Lib.hid (by rw [← hw0]; exact (((Ext.refl w).alloc _).alloc _).alloc _)
  have HK := Lib.hid (kdE_cases d)
  have HDF : Hid (doX x d = if kdE d = 0 then touchX x d.ta else if kdE d = 1 then reachX x d.q else ((keepX x d.q d.p.val).1, false, (keepX x d.q d.p.val).2.2)) := Lib.hid rfl
  clear hx hd hw0
  obtain ⟨dc, hdc⟩ : ∃ dc, dec d = dc := ⟨_, rfl⟩
  rw [hdc] at HW0 ⊢
  clear hdc
  go_enter Try.func25, Try.ntmps25
  go_upto_region 1 with fail
  rw [HW0.out]
  clear HW0
  obtain ⟨g2, hg2⟩ : ∃ g, w.heap.size = g := ⟨_, rfl⟩
  obtain ⟨g3, hg3⟩ : ∃ g, w.heap.size + 1 = g := ⟨_, rfl⟩
  obtain ⟨gR, hgR⟩ : ∃ g, w.heap.size + 1 + 1 = g := ⟨_, rfl⟩
  have HN := Lib.hid (show w.heap.size ≤ gR by omega)
  rw [hgR] at HR ⊢
  rw [hg3] at HG3 ⊢
  rw [hg2] at HG2 ⊢
  clear hg2 hg3 hgR
  go_wp2_with ((with_reducible refine wpList_loadX ?_ (.tmp 3) ?_ g3 (.slice A1 x.a.length c1) (.slice A2 x.s.length c2) (.slice A3 x.p.length c3) ?_ HG3.out ?_); (exact rfl); (exact rfl); (exact rfl))
  refine (refRightX_any _ _ _ x _ (HX.out.ext HE.out)).mono ?_
  rintro e w1 ⟨rfl, he⟩
  have HE1 := Lib.hid (HE.out.trans he)
  have HSZ := Lib.hid HE1.out.size
  have G3 := Lib.hid (Cs.ext HG3.out he)
  have HG2 := Lib.hid (Cs.ext HG2.out he)
  have HR := Lib.hid (Cs.ext HR.out he)
  clear he HE HG3
  cases hr : rightX x with
  | false =>
    have HV := Lib.hid (do_no hr d)
    clear hr HDF HK
    go_wp2_with (first
      | ((with_reducible refine wpList_loadX ?_ (.tmp 4) ?_ gR (.slice none 0 0) (.slice none 0 0) (.slice none 0 0) ?_ HR.out ?_); (exact rfl); (exact rfl); (exact rfl))
      | ((with_reducible refine wpList_storeX ?_ ?_ (.tmp 4) (.tmp 11) ?_ gR (.slice none 0 0) (.slice none 0 0) (.slice none 0 0) (.slice none 0 0) (.slice none 0 0) (.slice none 0 0) ?_ ?_ rfl rfl rfl ?_ ?_); (exact rfl); (exact rfl); (exact rfl); (exact rfl); (exact rfl); (exact HR.out); intro w7 k7 g7; have K7 := Lib.hid k7; have G7 := Lib.hid g7; clear k7 g7))
    refine bodyPost_ret (results_ax_err Try.results25 _ _ gR _ _ _ rfl K7.out) rfl ?_
    rw [HV.out]
    exact ⟨_, _, _, rfl, KpX.nil _ _ _ _ _ _, HE1.out.grown G7.out HN.out⟩
  | true =>
    have HRX := Lib.hid hr
    have HRI := Lib.hid (rightX_facts hr)
    clear hr
    have q0 : w1.cell? ⟨g2, 0, none⟩ = some (.int .i64 d.kind) := HG2.out.cell 0 _ rfl
    have q1 : w1.cell? ⟨g2, 1, none⟩ = some (.int .u64 (d.p.addr : Nat)) := HG2.out.cell 1 _ rfl
    have HSP := Lib.hid (de_spot HG2.out)
    have HWD := Lib.hid (de_word HG2.out)
    go_upto_region 6 with fail
    rw [show (IntKind.u64.wrap d.kind).tmod 3 = kdE d from rfl]
    rcases HK.out with hk | hk | hk
    · have HSQ := Lib.hid (show doX x d = touchX x d.ta by rw [HDF.out, if_pos hk])
      have HYE := Lib.hid (fun (h : ptE x.a d.ta = 0) => show doX x d = ({ x with a := ptL x.a d.ta }, ptB x.a d.ta, 0) by rw [HSQ.out]; unfold touchX; rw [chg_yes HRX.out h])
      have HNO := Lib.hid (fun (h : ¬ ptE x.a d.ta = 0) => show doX x d = (ax0, false, 6) by rw [HSQ.out]; unfold touchX; rw [chg_full HRX.out h, pt_six h])
      rw [hk]
      clear hk HDF HSQ
      go_wp2_with ((with_reducible refine wpList_loadX ?_ (.tmp 3) ?_ g3 (.slice A1 x.a.length c1) (.slice A2 x.s.length c2) (.slice A3 x.p.length c3) ?_ G3.out ?_); (exact rfl); (exact rfl); (exact rfl))
      refine (refTouchX_any _ _ _ x d.ta _ (HX.out.ext HE1.out) (De.ta_ok HD.out) HRI.out.1).mono ?_
      rintro e w5 ⟨a5, s5, p5, rfl, hkp, he⟩
      have HAX := Lib.hid (hkp.ax (HX.out.ext HE1.out) he)
      have HKP := Lib.hid (hkp.low HSZ.out)
      have HR5 := Lib.hid (Cs.ext HR.out he)
      have HX5 := Lib.hid (HE1.out.trans he)
      obtain ⟨Y1, Y2, Y3⟩ := HAX.out.one
      have Y1 := Lib.hid Y1
      have Y2 := Lib.hid Y2
      have Y3 := Lib.hid Y3
      clear he hkp
      by_cases hp : ptE x.a d.ta = 0
      · have HV := Lib.hid (HYE.out hp)
        have f1 : decide (ptE x.a d.ta = 0) = true := decide_eq_true hp
        rw [if_pos hp] at HKP
        rw [f1]
        clear hp f1 HAX HYE HNO
        go_wp2_with (first
          | ((with_reducible refine wpList_storeX ?_ ?_ (.tmp 4) (.tmp 33) ?_ gR (.slice none 0 0) (.slice none 0 0) (.slice none 0 0) a5 s5 p5 ?_ ?_ Y1.out Y2.out Y3.out ?_ ?_); (exact rfl); (exact rfl); (exact rfl); (exact rfl); (exact rfl); (exact HR5.out); intro w6 k6 g6; have K6 := Lib.hid k6; have G6 := Lib.hid g6; clear k6 g6)
          | ((with_reducible refine wpList_loadX ?_ (.tmp 4) ?_ gR a5 s5 p5 ?_ K6.out ?_); (exact rfl); (exact rfl); (exact rfl))
          | ((with_reducible refine wpList_storeX ?_ ?_ (.tmp 4) (.tmp 49) ?_ gR a5 s5 p5 a5 s5 p5 ?_ ?_ Y1.out Y2.out Y3.out ?_ ?_); (exact rfl); (exact rfl); (exact rfl); (exact rfl); (exact rfl); (exact K6.out); intro w7 k7 g7; have K7 := Lib.hid k7; have G7 := Lib.hid g7; clear k7 g7))
        refine bodyPost_ret (results_ax_err Try.results25 _ _ gR _ _ _ rfl K7.out) rfl ?_
        rw [HV.out]
        exact ⟨_, _, _, rfl, (HKP.out.kept G6.out HR5.out).kept G7.out K6.out, (HX5.out.grown G6.out HN.out).grown G7.out HN.out⟩
      · have HV := Lib.hid (HNO.out hp)
        have f1 : decide (ptE x.a d.ta = 0) = false := decide_eq_false hp
        rw [f1]
        clear hp f1 HAX HYE HNO
        go_wp2_with (first
          | ((with_reducible refine wpList_storeX ?_ ?_ (.tmp 4) (.tmp 33) ?_ gR (.slice none 0 0) (.slice none 0 0) (.slice none 0 0) a5 s5 p5 ?_ ?_ Y1.out Y2.out Y3.out ?_ ?_); (exact rfl); (exact rfl); (exact rfl); (exact rfl); (exact rfl); (exact HR5.out); intro w6 k6 g6; have K6 := Lib.hid k6; have G6 := Lib.hid g6; clear k6 g6)
          | ((with_reducible refine wpList_storeX ?_ ?_ (.tmp 4) (.tmp 48) ?_ gR a5 s5 p5 (.slice none 0 0) (.slice none 0 0) (.slice none 0 0) ?_ ?_ rfl rfl rfl ?_ ?_); (exact rfl); (exact rfl); (exact rfl); (exact rfl); (exact rfl); (exact K6.out); intro w7 k7 g7; have K7 := Lib.hid k7; have G7 := Lib.hid g7; clear k7 g7))
        refine bodyPost_ret (results_ax_err Try.results25 _ _ gR _ _ _ rfl K7.out) rfl ?_
        rw [HV.out]
        exact ⟨_, _, _, rfl, KpX.nil _ _ _ _ _ _, (HX5.out.grown G6.out HN.out).grown G7.out HN.out⟩
    · have HSQ := Lib.hid (show doX x d = reachX x d.q by rw [HDF.out, if_neg (by rw [hk]; decide), if_pos hk])
      have HYE := Lib.hid (fun (h : ptE x.s d.q = 0) => show doX x d = ({ x with s := ptL x.s d.q }, ptB x.s d.q, 0) by rw [HSQ.out]; unfold reachX; rw [chg_yes HRX.out h])
      have HNO := Lib.hid (fun (h : ¬ ptE x.s d.q = 0) => show doX x d = (ax0, false, 6) by rw [HSQ.out]; unfold reachX; rw [chg_full HRX.out h, pt_six h])
      rw [hk]
      clear hk HDF HSQ
      go_wp2_with (first | ((with_reducible refine wpList_loadX ?_ (.tmp 3) ?_ g3 (.slice A1 x.a.length c1) (.slice A2 x.s.length c2) (.slice A3 x.p.length c3) ?_ G3.out ?_); (exact rfl); (exact rfl); (exact rfl)) | ((with_reducible refine wpList_loadS ?_ (.tmp 40) ?_ g2 1 d.q ?_ ?_ ?_); (exact rfl); (exact rfl); (exact rfl); (exact HSP.out)))
      refine (refReachX_any _ _ _ x d.q _ (HX.out.ext HE1.out) (De.q_ok HD.out) HRI.out.2.1).mono ?_
      rintro e w5 ⟨a5, s5, p5, rfl, hkp, he⟩
      have HAX := Lib.hid (hkp.ax (HX.out.ext HE1.out) he)
      have HKP := Lib.hid (hkp.low HSZ.out)
      have HR5 := Lib.hid (Cs.ext HR.out he)
      have HX5 := Lib.hid (HE1.out.trans he)
      obtain ⟨Y1, Y2, Y3⟩ := HAX.out.one
      have Y1 := Lib.hid Y1
      have Y2 := Lib.hid Y2
      have Y3 := Lib.hid Y3
      clear he hkp
      by_cases hp : ptE x.s d.q = 0
      · have HV := Lib.hid (HYE.out hp)
        have f1 : decide (ptE x.s d.q = 0) = true := decide_eq_true hp
        rw [if_pos hp] at HKP
        rw [f1]
        clear hp f1 HAX HYE HNO
        go_wp2_with (first
          | ((with_reducible refine wpList_storeX ?_ ?_ (.tmp 4) (.tmp 43) ?_ gR (.slice none 0 0) (.slice none 0 0) (.slice none 0 0) a5 s5 p5 ?_ ?_ Y1.out Y2.out Y3.out ?_ ?_); (exact rfl); (exact rfl); (exact rfl); (exact rfl); (exact rfl); (exact HR5.out); intro w6 k6 g6; have K6 := Lib.hid k6; have G6 := Lib.hid g6; clear k6 g6)
          | ((with_reducible refine wpList_loadX ?_ (.tmp 4) ?_ gR a5 s5 p5 ?_ K6.out ?_); (exact rfl); (exact rfl); (exact rfl))
          | ((with_reducible refine wpList_storeX ?_ ?_ (.tmp 4) (.tmp 49) ?_ gR a5 s5 p5 a5 s5 p5 ?_ ?_ Y1.out Y2.out Y3.out ?_ ?_); (exact rfl); (exact rfl); (exact rfl); (exact rfl); (exact rfl); (exact K6.out); intro w7 k7 g7; have K7 := Lib.hid k7; have G7 := Lib.hid g7; clear k7 g7))
        refine bodyPost_ret (results_ax_err Try.results25 _ _ gR _ _ _ rfl K7.out) rfl ?_
        rw [HV.out]
        exact ⟨_, _, _, rfl, (HKP.out.kept G6.out HR5.out).kept G7.out K6.out, (HX5.out.grown G6.out HN.out).grown G7.out HN.out⟩
      · have HV := Lib.hid (HNO.out hp)
        have f1 : decide (ptE x.s d.q = 0) = false := decide_eq_false hp
        rw [f1]
        clear hp f1 HAX HYE HNO
        go_wp2_with (first
          | ((with_reducible refine wpList_storeX ?_ ?_ (.tmp 4) (.tmp 43) ?_ gR (.slice none 0 0) (.slice none 0 0) (.slice none 0 0) a5 s5 p5 ?_ ?_ Y1.out Y2.out Y3.out ?_ ?_); (exact rfl); (exact rfl); (exact rfl); (exact rfl); (exact rfl); (exact HR5.out); intro w6 k6 g6; have K6 := Lib.hid k6; have G6 := Lib.hid g6; clear k6 g6)
          | ((with_reducible refine wpList_storeX ?_ ?_ (.tmp 4) (.tmp 48) ?_ gR a5 s5 p5 (.slice none 0 0) (.slice none 0 0) (.slice none 0 0) ?_ ?_ rfl rfl rfl ?_ ?_); (exact rfl); (exact rfl); (exact rfl); (exact rfl); (exact rfl); (exact K6.out); intro w7 k7 g7; have K7 := Lib.hid k7; have G7 := Lib.hid g7; clear k7 g7))
        refine bodyPost_ret (results_ax_err Try.results25 _ _ gR _ _ _ rfl K7.out) rfl ?_
        rw [HV.out]
        exact ⟨_, _, _, rfl, KpX.nil _ _ _ _ _ _, (HX5.out.grown G6.out HN.out).grown G7.out HN.out⟩
    · have HSQ := Lib.hid (show doX x d = ((keepX x d.q d.p.val).1, false, (keepX x d.q d.p.val).2.2) by rw [HDF.out, if_neg (by rw [hk]; decide), if_neg (by rw [hk]; decide)])
      have HYE := Lib.hid (fun (h : kpE x.p d.q d.p.val = 0) => show doX x d = ({ x with p := kpL x.p d.q d.p.val }, false, 0) by rw [HSQ.out]; unfold keepX; rw [chg_yes HRX.out h])
      have HNO := Lib.hid (fun (h : ¬ kpE x.p d.q d.p.val = 0) => show doX x d = (ax0, false, 6) by rw [HSQ.out]; unfold keepX; rw [chg_full HRX.out h, kp_six h])
      rw [hk]
      clear hk HDF HSQ
      go_wp2_with (first | ((with_reducible refine wpList_loadX ?_ (.tmp 3) ?_ g3 (.slice A1 x.a.length c1) (.slice A2 x.s.length c2) (.slice A3 x.p.length c3) ?_ G3.out ?_); (exact rfl); (exact rfl); (exact rfl)) | ((with_reducible refine wpList_loadS ?_ (.tmp 18) ?_ g2 1 d.q ?_ ?_ ?_); (exact rfl); (exact rfl); (exact rfl); (exact HSP.out)) | ((with_reducible refine wpList_load_wordIn ?_ (.tmp 20) ?_ g2 6 d.p.val ?_ ?_ ?_); (exact rfl); (exact rfl); (exact rfl); (exact HWD.out)))
      refine (refKeepX_any _ _ _ x d.q d.p.val _ (HX.out.ext HE1.out) (De.q_ok HD.out) HD.out.2.2.2 HRI.out.2.2.1).mono ?_
      rintro e w5 ⟨a5, s5, p5, rfl, hkp, he⟩
      have HAX := Lib.hid (hkp.ax (HX.out.ext HE1.out) he)
      have HKP := Lib.hid (hkp.low HSZ.out)
      have HR5 := Lib.hid (Cs.ext HR.out he)
      have HX5 := Lib.hid (HE1.out.trans he)
      obtain ⟨Y1, Y2, Y3⟩ := HAX.out.one
      have Y1 := Lib.hid Y1
      have Y2 := Lib.hid Y2
      have Y3 := Lib.hid Y3
      clear he hkp
      by_cases hp : kpE x.p d.q d.p.val = 0
      · have HV := Lib.hid (HYE.out hp)
        have f1 : decide (kpE x.p d.q d.p.val = 0) = true := decide_eq_true hp
        rw [if_pos hp] at HKP
        rw [f1]
        clear hp f1 HAX HYE HNO
        go_wp2_with (first
          | ((with_reducible refine wpList_storeX ?_ ?_ (.tmp 4) (.tmp 23) ?_ gR (.slice none 0 0) (.slice none 0 0) (.slice none 0 0) a5 s5 p5 ?_ ?_ Y1.out Y2.out Y3.out ?_ ?_); (exact rfl); (exact rfl); (exact rfl); (exact rfl); (exact rfl); (exact HR5.out); intro w6 k6 g6; have K6 := Lib.hid k6; have G6 := Lib.hid g6; clear k6 g6)
          | ((with_reducible refine wpList_loadX ?_ (.tmp 4) ?_ gR a5 s5 p5 ?_ K6.out ?_); (exact rfl); (exact rfl); (exact rfl))
          | ((with_reducible refine wpList_storeX ?_ ?_ (.tmp 4) (.tmp 49) ?_ gR a5 s5 p5 a5 s5 p5 ?_ ?_ Y1.out Y2.out Y3.out ?_ ?_); (exact rfl); (exact rfl); (exact rfl); (exact rfl); (exact rfl); (exact K6.out); intro w7 k7 g7; have K7 := Lib.hid k7; have G7 := Lib.hid g7; clear k7 g7))
        refine bodyPost_ret (results_ax_err Try.results25 _ _ gR _ _ _ rfl K7.out) rfl ?_
        rw [HV.out]
        exact ⟨_, _, _, rfl, (HKP.out.kept G6.out HR5.out).kept G7.out K6.out, (HX5.out.grown G6.out HN.out).grown G7.out HN.out⟩
      · have HV := Lib.hid (HNO.out hp)
        have f1 : decide (kpE x.p d.q d.p.val = 0) = false := decide_eq_false hp
        rw [f1]
        clear hp f1 HAX HYE HNO
        go_wp2_with (first
          | ((with_reducible refine wpList_storeX ?_ ?_ (.tmp 4) (.tmp 23) ?_ gR (.slice none 0 0) (.slice none 0 0) (.slice none 0 0) a5 s5 p5 ?_ ?_ Y1.out Y2.out Y3.out ?_ ?_); (exact rfl); (exact rfl); (exact rfl); (exact rfl); (exact rfl); (exact HR5.out); intro w6 k6 g6; have K6 := Lib.hid k6; have G6 := Lib.hid g6; clear k6 g6)
          | ((with_reducible refine wpList_storeX ?_ ?_ (.tmp 4) (.tmp 48) ?_ gR a5 s5 p5 (.slice none 0 0) (.slice none 0 0) (.slice none 0 0) ?_ ?_ rfl rfl rfl ?_ ?_); (exact rfl); (exact rfl); (exact rfl); (exact rfl); (exact rfl); (exact K6.out); intro w7 k7 g7; have K7 := Lib.hid k7; have G7 := Lib.hid g7; clear k7 g7))
        refine bodyPost_ret (results_ax_err Try.results25 _ _ gR _ _ _ rfl K7.out) rfl ?_
        rw [HV.out]
        exact ⟨_, _, _, rfl, KpX.nil _ _ _ _ _ _, (HX5.out.grown G6.out HN.out).grown G7.out HN.out⟩
end Go.Proofs.Ytjampleddeidaaa
