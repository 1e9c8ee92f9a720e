/- Package access: changed. -/
import Derived.Test.YtjampleddeidaaaQAcp
namespace Go.Proofs.Ytjampleddeidaaa
open Go.ChangeShapes Go.WideShapes Go.ChangeAt Go.RowKit Go.Shelf

set_option maxRecDepth 100000 in
theorem wpList_loadX {ops : Array Oper} {rest : List Oper} {o : Oper} {a : Act} {w : World} {Q : Exit → Act → World → Prop} (hgd : Region.wanted o (yielded ops a.tmps) = true) (x : Operand) (ho : o.op = .load 26 x)
    (g : Nat) (u v p : Value) (hx : a.eval x = .pointer (some ⟨g, 0, none⟩)) (hg : Cs w g 26 #[u, v, p]) (h : wpList Try.prog ops Q rest (a.put o.dst (.agg #[u, v, p])) w) : wpList Try.prog ops Q (o :: rest) a w := by
  refine wpList_step fun K hK => ?_
  rw [if_pos hgd]
  refine wp_load_mid 26 x ho g 0 hx (#[u, v, p] : Array Value).toList _ (Cs.rg hg) Try.underlying26 rfl axinfo ?_
  exact hK _ _ h
set_option maxRecDepth 100000 in
theorem wpList_storeX {ops : Array Oper} {rest : List Oper} {o : Oper} {a : Act} {w : World} {Q : Exit → Act → World → Prop} (hgd : o.guard = none) (hd : o.dst = none) (x y : Operand) (ho : o.op = .store 26 x y)
    (g : Nat) (p q r u v z : Value) (hx : a.eval x = .pointer (some ⟨g, 0, none⟩)) (hy : a.eval y = .agg #[u, v, z]) (h1 : u.oneCell' = true) (h2 : v.oneCell' = true) (h3 : z.oneCell' = true) (hg : Cs w g 26 #[p, q, r])
    (h : ∀ w', Cs w' g 26 #[u, v, z] → w.grownBy w' (some g) → wpList Try.prog ops Q rest a w') : wpList Try.prog ops Q (o :: rest) a w := by
  have h' : ∀ w', Cs w' g 26 #[u, v, z] → w.grownBy w' (some g) → wpList Try.prog ops Q rest (a.put o.dst undef) w' := by rw [hd]; exact h
  refine wpList_store_row hgd 26 x y ho g #[u, v, z] hx hy 26 #[p, q, r] hg axinfo rfl (by simp [h1, h2, h3]) (h' _ ?_ ?_)
  · exact setRow_heap w g _ _ 26 (0, 0) hg
  · exact ⟨rfl, rfl, rfl, by simp [World.setRow], fun k _ hk => setRow_other w g k _ (fun e => hk (by simp [e]))⟩
def RetX (lo : Nat) (W : World) (v : Value) (x : Ax) : Prop := ∃ a s p, v = .agg #[a, s, p] ∧ OwnA W lo a x.a ∧ OwnS W lo s x.s ∧ OwnP W lo p x.p
set_option maxRecDepth 100000 in
theorem RetX.ext {lo : Nat} {W W' : World} {v : Value} {x : Ax} (h : RetX lo W v x) (he : Ext W W') : RetX lo W' v x := by
  obtain ⟨a, s, p, e, h1, h2, h3⟩ := h
  exact ⟨a, s, p, e, h1.ext he, h2.ext he, h3.ext he⟩
set_option maxRecDepth 100000 in
theorem RetX.low {lo lo' : Nat} {W : World} {v : Value} {x : Ax} (h : RetX lo W v x) (hl : lo' ≤ lo) : RetX lo' W v x := by
  obtain ⟨a, s, p, e, h1, h2, h3⟩ := h
  exact ⟨a, s, p, e, h1.mono hl, h2.mono hl, h3.mono hl⟩
def ax0 : Ax := ⟨[], [], []⟩
def axz : Value := .agg #[.slice none 0 0, .slice none 0 0, .slice none 0 0]
set_option maxRecDepth 100000 in
theorem RetX.nil (lo : Nat) (W : World) : RetX lo W axz ax0 := ⟨_, _, _, rfl, OwnA.nil _ _, OwnS.nil _ _, OwnP.nil _ _⟩
def chg (x : Ax) (b : Bool) (er : Int) (y : Ax) : Ax × Bool × Int := if rightX x then (if er = 0 then (y, b, 0) else (ax0, false, er)) else (ax0, false, 190)
set_option maxRecDepth 100000 in
theorem results_ax_err {fn : Func} {p q r : Tmp} (h : fn.results = #[.cell p 26, .tmp q, .tmp r]) (tmps : Array Value) (w : World) (g : Nat) (u v z : Value) (hp : tmps.getD p undef = .pointer (some ⟨g, 0, none⟩)) (hg : Cs w g 26 #[u, v, z]) : (results fn tmps).run Try.prog w = .ok (.tuple #[.agg #[u, v, z], tmps.getD q undef, tmps.getD r undef]) w := by
  have hp' : tmps[p]?.getD undef = .pointer (some ⟨g, 0, none⟩) := by simpa using hp
  simp [results, h, hp', asAddr, run_loadVar_row w g 26 26 #[u, v, z] (0, 0) _ hg Try.underlying26 rfl axinfo]
set_option maxRecDepth 100000 in
theorem rightX_facts {x : Ax} (h : rightX x = true) : rsB x.a = true ∧ rsB x.s = true ∧ rsB x.p = true ∧ nzB x.p = true := by
  unfold rightX at h
  simp only [Bool.and_eq_true] at h
  exact ⟨h.1, h.2.1, h.2.2.1, h.2.2.2⟩
set_option maxRecDepth 100000 in
theorem rsB_len {l : List Pe} (h : rsB l = true) : l.length ≤ 400 := (rs_iff.1 h).1
set_option maxRecDepth 100000 in
theorem OwnA.shp {W : World} {base : Nat} {v : Value} {l : List Pe} (h : OwnA W base v l) : ∃ A c, v = .slice A l.length c ∧ OwnA W base (.slice A l.length c) l := by
  obtain ⟨A, c, e, _, _⟩ := h.sl
  exact ⟨A, c, e, e ▸ h⟩
set_option maxRecDepth 100000 in
theorem OwnS.shp {W : World} {base : Nat} {v : Value} {l : List Pe} (h : OwnS W base v l) : ∃ A c, v = .slice A l.length c ∧ OwnS W base (.slice A l.length c) l := by
  obtain ⟨A, c, e, _, _⟩ := h.sl
  exact ⟨A, c, e, e ▸ h⟩
set_option maxRecDepth 100000 in
theorem OwnP.shp {W : World} {base : Nat} {v : Value} {l : List Pe} (h : OwnP W base v l) : ∃ A c, v = .slice A l.length c ∧ OwnP W base (.slice A l.length c) l := by
  obtain ⟨A, c, e, _, _⟩ := h.sl
  exact ⟨A, c, e, e ▸ h⟩
set_option maxRecDepth 100000 in
theorem OwnA.one {W : World} {base : Nat} {v : Value} {l : List Pe} (h : OwnA W base v l) : v.oneCell' = true := by
  obtain ⟨A, c, e, _, _⟩ := h.sl
  rw [e]
  rfl
set_option maxRecDepth 100000 in
theorem OwnS.one {W : World} {base : Nat} {v : Value} {l : List Pe} (h : OwnS W base v l) : v.oneCell' = true := by
  obtain ⟨A, c, e, _, _⟩ := h.sl
  rw [e]
  rfl
set_option maxRecDepth 100000 in
theorem OwnP.one {W : World} {base : Nat} {v : Value} {l : List Pe} (h : OwnP W base v l) : v.oneCell' = true := by
  obtain ⟨A, c, e, _, _⟩ := h.sl
  rw [e]
  rfl
def BdX (lo : Nat) (x : Ax) (W : World) (v : Value) : Prop := RetX lo W v x
def NwX (wb W : World) (v : Value) : Prop := ∃ g, v = .pointer (some ⟨g, 0, none⟩) ∧ Cs W g 26 #[.slice none 0 0, .slice none 0 0, .slice none 0 0] ∧ wb.heap.size ≤ g
set_option maxRecDepth 100000 in
theorem NwX.ext {wb W W' : World} {v : Value} (h : NwX wb W v) (he : Ext W W') : NwX wb W' v := by
  obtain ⟨g, e, k, z⟩ := h
  exact ⟨g, e, Cs.ext k he, z⟩
def LdX (x : Ax) (wb W : World) (v : Value) : Prop := ∃ g a s p, v = .pointer (some ⟨g, 0, none⟩) ∧ AxO wb.heap.size g W a s p x ∧ Ext wb W
set_option maxRecDepth 100000 in
theorem LdX.ext {x : Ax} {wb W W' : World} {v : Value} (h : LdX x wb W v) (he : Ext W W') : LdX x wb W' v := by
  obtain ⟨g, a, s, p, e, h1, h2⟩ := h
  exact ⟨g, a, s, p, e, h1.ext he, h2.trans he⟩

set_option maxRecDepth 100000 in
set_option maxHeartbeats 8000000 in
theorem changed_any (va vs vp : Value) (x : Ax) (F : FuncId) (cap : Array Value) (b : Bool) (er : Int) (y : Ax) (w : World) (hx : AxR w va vs vp x)
    (hF : ∀ (args : Array Value) (u : World), (callFunc F args).run Try.prog u = .ok (.enter F args) u)
    (hC : rightX x = true → ∀ W lo g a s p, Ext w W → w.heap.size ≤ lo → lo ≤ W.heap.size → AxO lo g W a s p x → Calls Try.prog F (#[.pointer (some ⟨g, 0, none⟩)] ++ cap) W fun e w' => e = .returned (.tuple #[.bool b, .int .i64 er]) ∧ ∃ a' s' p', AxO lo g w' a' s' p' y ∧ Below lo W w') :
    Calls Try.prog 52 #[.agg #[va, vs, vp], .func (.func F) #[] cap] w fun e w' => ∃ v', e = .returned (.tuple #[v', .bool (chg x b er y).2.1, .int .i64 (chg x b er y).2.2]) ∧ RetX w.heap.size w' v' (chg x b er y).1 ∧ Ext w w' := by
  have HX := Lib.hid hx
  have HC := Lib.hid hC
  have HFF := Lib.hid hF
  have HDEF : Hid (chg x b er y = if rightX x then (if er = 0 then (y, b, 0) else (ax0, false, er)) else (ax0, false, 190)) := Lib.hid rfl
  obtain ⟨A1, c1, rfl, _, _⟩ := hx.1.len
  obtain ⟨A2, c2, rfl, _, _⟩ := hx.2.1.len
  obtain ⟨A3, c3, rfl, _, _⟩ := hx.2.2.len
  obtain ⟨w0, hw0⟩ : ∃ w0, (w.alloc (.cells #[.slice A1 x.a.length c1, .slice A2 x.s.length c2, .slice A3 x.p.length c3] 26)).alloc (.cells #[.slice none 0 0, .slice none 0 0, .slice none 0 0] 26) = w0 := ⟨_, rfl⟩
  have HC0 : Hid (Cs w0 w.heap.size 26 #[.slice A1 x.a.length c1, .slice A2 x.s.length c2, .slice A3 x.p.length c3]) := Lib.hid (by rw [← hw0]; exact Cs.alloc (Cs.new _ _ _ _ rfl) _)
  have HR0 : Hid (Cs w0 (w.heap.size + 1) 26 #[.slice none 0 0, .slice none 0 0, .slice none 0 0]) := Lib.hid (by rw [← hw0]; exact Cs.new _ _ _ _ (by simp))
  have HE0 : Hid (Ext w w0) := Lib.hid (by rw [← hw0]; exact ((Ext.refl w).alloc _).alloc _)
  have HW0 := Lib.hid hw0
  clear hx hw0 hC hF
  go_enter Try.func52, Try.ntmps52
  go_upto_region 1 with fail
  rw [HW0.out]
  clear HW0
  go_wp2_with ((with_reducible refine wpList_loadX ?_ (.tmp 2) ?_ w.heap.size (.slice A1 x.a.length c1) (.slice A2 x.s.length c2) (.slice A3 x.p.length c3) ?_ ?_ ?_); (exact rfl); (exact rfl); (exact rfl); (exact HC0.out))
  refine (checkX_any _ _ _ x _ ⟨HX.out.1.ext HE0.out, HX.out.2.1.ext HE0.out, HX.out.2.2.ext HE0.out⟩).mono ?_
  rintro e w1 ⟨rfl, he⟩
  have HE1 := Lib.hid (HE0.out.trans he)
  have HC1 := Lib.hid (Cs.ext HC0.out he)
  have HR1 := Lib.hid (Cs.ext HR0.out he)
  have HXX := Lib.hid (show AxR w1 _ _ _ x from HX.out.ext HE1.out)
  clear he HC0 HR0 HE0 HX
  cases hr : rightX x with
  | false =>
    have HK : Hid (chkX x = 190) := Lib.hid (by unfold chkX; rw [hr]; rfl)
    have HF := Lib.hid (show chg x b er y = (ax0, false, 190) by rw [HDEF.out, hr]; rfl)
    clear hr
    rw [HK.out]
    go_wp2_with ((with_reducible refine wpList_storeX ?_ ?_ (.tmp 4) (.tmp 13) ?_ (w.heap.size + 1) (.slice none 0 0) (.slice none 0 0) (.slice none 0 0) (.slice none 0 0) (.slice none 0 0) (.slice none 0 0) ?_ ?_ rfl rfl rfl HR1.out ?_); (exact rfl); (exact rfl); (exact rfl); (exact rfl); (exact rfl); intro w2 k2 g2; have K2 := Lib.hid k2; have G2 := Lib.hid g2; clear k2 g2)
    refine bodyPost_ret (results_ax_err Try.results52 _ _ (w.heap.size + 1) _ _ _ rfl K2.out) rfl ?_
    rw [HF.out]
    exact ⟨_, rfl, RetX.nil _ _, HE1.out.grown G2.out (by omega)⟩
  | true =>
    have HK : Hid (chkX x = 0) := Lib.hid (by unfold chkX; rw [hr]; rfl)
    have HDEF := Lib.hid (show chg x b er y = if er = 0 then (y, b, 0) else (ax0, false, er) by rw [HDEF.out, hr]; rfl)
    have HLA := Lib.hid (rsB_len (rightX_facts hr).1)
    have HLS := Lib.hid (rsB_len (rightX_facts hr).2.1)
    have HLP := Lib.hid (rsB_len (rightX_facts hr).2.2.1)
    have HC := Lib.hid (HC.out hr)
    clear hr
    rw [HK.out]
    clear HK
    go_upto_region 3 with fail
    refine wp_named fun a0 ha0 => ?_
    obtain ⟨fr, hfr⟩ : ∃ fr : (Nat → Value) → Act, ∀ V, fr V = (((((((((((a0.put (some 14) (V 0)).put (some 15) (V 1)).put (some 16) (V 2)).put (some 17) (V 3)).put (some 18) (V 4)).put (some 19) (V 5)).put (some 20) (V 6)).put (some 21) (V 7)).put (some 22) (V 8)).put (some 23) (V 9)).put (some 7) (V 10)) := ⟨fun V => (((((((((((a0.put (some 14) (V 0)).put (some 15) (V 1)).put (some 16) (V 2)).put (some 17) (V 3)).put (some 18) (V 4)).put (some 19) (V 5)).put (some 20) (V 6)).put (some 21) (V 7)).put (some 22) (V 8)).put (some 23) (V 9)).put (some 7) (V 10)), fun _ => rfl⟩
    rw [ha0] at hfr
    simp only [Act.put, List.setIfInBounds_toArray, List.set_cons_zero, List.set_cons_succ] at hfr
    have HFR := Lib.hid hfr
    clear hfr
    refine wp_region_inv (by kernel_rfl) (by kernel_rfl) (fun L A W => ∃ V : Nat → Value, A = fr V ∧ Vals (fun j => ([some (.pointer (some ⟨w.heap.size, 0, none⟩)), some (.slice A1 x.a.length c1), none, some (.pointer (some ⟨w.heap.size, 1, none⟩)), some (.slice A2 x.s.length c2), none, some (.pointer (some ⟨w.heap.size, 2, none⟩)), some (.slice A3 x.p.length c3), none, none, none, none] : List (Option Value)).getD j none) L V ∧ (L 11 = false → Ext w1 W) ∧ (L 11 = true → LdX x w1 W (V 10)) ∧ (L 11 = false → L 2 = true → OwnA W w1.heap.size (V 2) x.a) ∧ (L 11 = false → L 5 = true → OwnS W w1.heap.size (V 5) x.s) ∧ (L 11 = false → L 8 = true → OwnP W w1.heap.size (V 8) x.p) ∧ (L 11 = false → L 9 = true → BdX w1.heap.size x W (V 9)) ∧ (L 11 = false → L 10 = true → NwX w1 W (V 10))) ?_ ⟨?_, ?_, ?_, ?_, ?_, ?_, ?_, ?_, ?_, ?_, ?_, ?_, trivial⟩ ?_
    · refine ⟨fun j => a0.tmps.getD (([14, 15, 16, 17, 18, 19, 20, 21, 22, 23, 7, 0] : List Nat).getD j 0) undef, ?_, Vals.no _ _ _ (far_none _ _ rfl), fun _ => (Ext.refl _).drew, fun h0 => absurd h0 (by decide), fun h0 h1 => absurd h1 (by decide), fun h0 h1 => absurd h1 (by decide), fun h0 h1 => absurd h1 (by decide), fun h0 h1 => absurd h1 (by decide), fun h0 h1 => absurd h1 (by decide)⟩
      rw [HFR.out, ha0]
      rfl
    all_goals clear ha0
    · rintro L A W K hL hC hW ⟨V, rfl, HV, s0, s1, f2, f5, f8, f9, f10⟩ hK
      have H := Lib.hid (show ∀ W', Ext W W' → K (fr (upd V 0 (.pointer (some ⟨w.heap.size, 0, none⟩)))) W' from fun W' he => hK _ _ ⟨upd V 0 (.pointer (some ⟨w.heap.size, 0, none⟩)), rfl, HV.up 0 _ (fun x hx => Option.some.inj hx), fun h0 => Ext.trans (s0 (by unfold More at h0; rwa [if_neg (by decide)] at h0)) he, fun h0 => LdX.ext (s1 (more_ne h0 rfl)) he, fun h0 h1 => OwnA.ext (f2 (by unfold More at h0; rwa [if_neg (by decide)] at h0) (more_ne h1 rfl)) he, fun h0 h1 => OwnS.ext (f5 (by unfold More at h0; rwa [if_neg (by decide)] at h0) (more_ne h1 rfl)) he, fun h0 h1 => OwnP.ext (f8 (by unfold More at h0; rwa [if_neg (by decide)] at h0) (more_ne h1 rfl)) he, fun h0 h1 => RetX.ext (f9 (by unfold More at h0; rwa [if_neg (by decide)] at h0) (more_ne h1 rfl)) he, fun h0 h1 => NwX.ext (f10 (by unfold More at h0; rwa [if_neg (by decide)] at h0) (more_ne h1 rfl)) he⟩)
      clear hK hC hW hL HV s0 s1 f2 f5 f8 f9 f10
      rw [HFR.out]
      go_wp2_with fail
      show K _ _
      have := H.out _ (Ext.refl _)
      rw [HFR.out] at this
      exact this
    · rintro L A W K hL hC hW ⟨V, rfl, HV, s0, s1, f2, f5, f8, f9, f10⟩ hK
      have e0 : V 0 = .pointer (some ⟨w.heap.size, 0, none⟩) := HV 0 _ rfl (hW 0 rfl)
      have hB := s0 (hC.no (hC.no (hC.no hL 2 _ rfl rfl) 9 _ rfl rfl) 11 _ rfl rfl)
      have H := Lib.hid (show ∀ W', Ext W W' → K (fr (upd V 1 (.slice A1 x.a.length c1))) W' from fun W' he => hK _ _ ⟨upd V 1 (.slice A1 x.a.length c1), rfl, HV.up 1 _ (fun x hx => Option.some.inj hx), fun h0 => Ext.trans (s0 (by unfold More at h0; rwa [if_neg (by decide)] at h0)) he, fun h0 => absurd (more_ne h0 rfl) (by rw [(hC.no (hC.no (hC.no hL 2 _ rfl rfl) 9 _ rfl rfl) 11 _ rfl rfl)]; simp), fun h0 h1 => OwnA.ext (f2 (by unfold More at h0; rwa [if_neg (by decide)] at h0) (more_ne h1 rfl)) he, fun h0 h1 => OwnS.ext (f5 (by unfold More at h0; rwa [if_neg (by decide)] at h0) (more_ne h1 rfl)) he, fun h0 h1 => OwnP.ext (f8 (by unfold More at h0; rwa [if_neg (by decide)] at h0) (more_ne h1 rfl)) he, fun h0 h1 => RetX.ext (f9 (by unfold More at h0; rwa [if_neg (by decide)] at h0) (more_ne h1 rfl)) he, fun h0 h1 => NwX.ext (f10 (by unfold More at h0; rwa [if_neg (by decide)] at h0) (more_ne h1 rfl)) he⟩)
      have HU := Lib.hid (show (upd V 1 (.slice A1 x.a.length c1)) 0 = .pointer (some ⟨w.heap.size, 0, none⟩) from e0)
      clear hK hC hW hL HV s0 s1 f2 f5 f8 f9 f10
      rw [HFR.out]
      rw [e0]
      clear e0
      have hcl := (Cs.ext HC1.out hB).cell 0 _ rfl
      clear hB
      go_wp2_with fail
      show K _ _
      have := H.out _ (Ext.refl _)
      rw [HFR.out] at this
      obtain u0 := HU.out
      rw [u0] at this
      exact this
    · rintro L A W K hL hC hW ⟨V, rfl, HV, s0, s1, f2, f5, f8, f9, f10⟩ hK
      have e1 : V 1 = .slice A1 x.a.length c1 := HV 1 _ rfl (hW 1 rfl)
      have hB := s0 (hC.no (hC.no hL 9 _ rfl rfl) 11 _ rfl rfl)
      have H := Lib.hid (show ∀ v W', Ext W W' → (OwnA W' w1.heap.size v x.a) → K (fr (upd V 2 v)) W' from fun v W' he hp => hK _ _ ⟨upd V 2 v, rfl, HV.up 2 _ (fun x hx => absurd hx (by intro h; cases h)), fun h0 => Ext.trans (s0 (by unfold More at h0; rwa [if_neg (by decide)] at h0)) he, fun h0 => LdX.ext (s1 (more_ne h0 rfl)) he, fun h0 h1 => hp, fun h0 h1 => OwnS.ext (f5 (by unfold More at h0; rwa [if_neg (by decide)] at h0) (more_ne h1 rfl)) he, fun h0 h1 => OwnP.ext (f8 (by unfold More at h0; rwa [if_neg (by decide)] at h0) (more_ne h1 rfl)) he, fun h0 h1 => RetX.ext (f9 (by unfold More at h0; rwa [if_neg (by decide)] at h0) (more_ne h1 rfl)) he, fun h0 h1 => NwX.ext (f10 (by unfold More at h0; rwa [if_neg (by decide)] at h0) (more_ne h1 rfl)) he⟩)
      have HU := Lib.hid (show ∀ v, (upd V 2 v) 1 = .slice A1 x.a.length c1 from fun v => e1)
      clear hK hC hW hL HV s0 s1 f2 f5 f8 f9 f10
      rw [HFR.out]
      rw [e1]
      clear e1
      have HB := Lib.hid hB
      clear hB
      go_wp2_with fail
      refine (ownA_any _ x.a _ (HXX.out.1.ext HB.out) (by have := HLA.out; omega)).mono ?_
      rintro e wx ⟨v', rfl, hr, he⟩
      have := H.out _ _ he (hr.mono HB.out.size)
      clear H
      go_wp2_with fail
      show K _ _
      rw [HFR.out] at this
      obtain u1 := HU.out _
      rw [u1] at this
      exact this
    · rintro L A W K hL hC hW ⟨V, rfl, HV, s0, s1, f2, f5, f8, f9, f10⟩ hK
      have H := Lib.hid (show ∀ W', Ext W W' → K (fr (upd V 3 (.pointer (some ⟨w.heap.size, 1, none⟩)))) W' from fun W' he => hK _ _ ⟨upd V 3 (.pointer (some ⟨w.heap.size, 1, none⟩)), rfl, HV.up 3 _ (fun x hx => Option.some.inj hx), fun h0 => Ext.trans (s0 (by unfold More at h0; rwa [if_neg (by decide)] at h0)) he, fun h0 => LdX.ext (s1 (more_ne h0 rfl)) he, fun h0 h1 => OwnA.ext (f2 (by unfold More at h0; rwa [if_neg (by decide)] at h0) (more_ne h1 rfl)) he, fun h0 h1 => OwnS.ext (f5 (by unfold More at h0; rwa [if_neg (by decide)] at h0) (more_ne h1 rfl)) he, fun h0 h1 => OwnP.ext (f8 (by unfold More at h0; rwa [if_neg (by decide)] at h0) (more_ne h1 rfl)) he, fun h0 h1 => RetX.ext (f9 (by unfold More at h0; rwa [if_neg (by decide)] at h0) (more_ne h1 rfl)) he, fun h0 h1 => NwX.ext (f10 (by unfold More at h0; rwa [if_neg (by decide)] at h0) (more_ne h1 rfl)) he⟩)
      clear hK hC hW hL HV s0 s1 f2 f5 f8 f9 f10
      rw [HFR.out]
      go_wp2_with fail
      show K _ _
      have := H.out _ (Ext.refl _)
      rw [HFR.out] at this
      exact this
    · rintro L A W K hL hC hW ⟨V, rfl, HV, s0, s1, f2, f5, f8, f9, f10⟩ hK
      have e3 : V 3 = .pointer (some ⟨w.heap.size, 1, none⟩) := HV 3 _ rfl (hW 3 rfl)
      have hB := s0 (hC.no (hC.no (hC.no hL 5 _ rfl rfl) 9 _ rfl rfl) 11 _ rfl rfl)
      have H := Lib.hid (show ∀ W', Ext W W' → K (fr (upd V 4 (.slice A2 x.s.length c2))) W' from fun W' he => hK _ _ ⟨upd V 4 (.slice A2 x.s.length c2), rfl, HV.up 4 _ (fun x hx => Option.some.inj hx), fun h0 => Ext.trans (s0 (by unfold More at h0; rwa [if_neg (by decide)] at h0)) he, fun h0 => LdX.ext (s1 (more_ne h0 rfl)) he, fun h0 h1 => OwnA.ext (f2 (by unfold More at h0; rwa [if_neg (by decide)] at h0) (more_ne h1 rfl)) he, fun h0 h1 => OwnS.ext (f5 (by unfold More at h0; rwa [if_neg (by decide)] at h0) (more_ne h1 rfl)) he, fun h0 h1 => OwnP.ext (f8 (by unfold More at h0; rwa [if_neg (by decide)] at h0) (more_ne h1 rfl)) he, fun h0 h1 => RetX.ext (f9 (by unfold More at h0; rwa [if_neg (by decide)] at h0) (more_ne h1 rfl)) he, fun h0 h1 => NwX.ext (f10 (by unfold More at h0; rwa [if_neg (by decide)] at h0) (more_ne h1 rfl)) he⟩)
      have HU := Lib.hid (show (upd V 4 (.slice A2 x.s.length c2)) 3 = .pointer (some ⟨w.heap.size, 1, none⟩) from e3)
      clear hK hC hW hL HV s0 s1 f2 f5 f8 f9 f10
      rw [HFR.out]
      rw [e3]
      clear e3
      have hcl := (Cs.ext HC1.out hB).cell 1 _ rfl
      clear hB
      go_wp2_with fail
      show K _ _
      have := H.out _ (Ext.refl _)
      rw [HFR.out] at this
      obtain u3 := HU.out
      rw [u3] at this
      exact this
    · rintro L A W K hL hC hW ⟨V, rfl, HV, s0, s1, f2, f5, f8, f9, f10⟩ hK
      have e4 : V 4 = .slice A2 x.s.length c2 := HV 4 _ rfl (hW 4 rfl)
      have hB := s0 (hC.no (hC.no hL 9 _ rfl rfl) 11 _ rfl rfl)
      have H := Lib.hid (show ∀ v W', Ext W W' → (OwnS W' w1.heap.size v x.s) → K (fr (upd V 5 v)) W' from fun v W' he hp => hK _ _ ⟨upd V 5 v, rfl, HV.up 5 _ (fun x hx => absurd hx (by intro h; cases h)), fun h0 => Ext.trans (s0 (by unfold More at h0; rwa [if_neg (by decide)] at h0)) he, fun h0 => LdX.ext (s1 (more_ne h0 rfl)) he, fun h0 h1 => OwnA.ext (f2 (by unfold More at h0; rwa [if_neg (by decide)] at h0) (more_ne h1 rfl)) he, fun h0 h1 => hp, fun h0 h1 => OwnP.ext (f8 (by unfold More at h0; rwa [if_neg (by decide)] at h0) (more_ne h1 rfl)) he, fun h0 h1 => RetX.ext (f9 (by unfold More at h0; rwa [if_neg (by decide)] at h0) (more_ne h1 rfl)) he, fun h0 h1 => NwX.ext (f10 (by unfold More at h0; rwa [if_neg (by decide)] at h0) (more_ne h1 rfl)) he⟩)
      have HU := Lib.hid (show ∀ v, (upd V 5 v) 4 = .slice A2 x.s.length c2 from fun v => e4)
      clear hK hC hW hL HV s0 s1 f2 f5 f8 f9 f10
      rw [HFR.out]
      rw [e4]
      clear e4
      have HB := Lib.hid hB
      clear hB
      go_wp2_with fail
      refine (ownS_any _ x.s _ (HXX.out.2.1.ext HB.out) (by have := HLS.out; omega)).mono ?_
      rintro e wx ⟨v', rfl, hr, he⟩
      have := H.out _ _ he (hr.mono HB.out.size)
      clear H
      go_wp2_with fail
      show K _ _
      rw [HFR.out] at this
      obtain u4 := HU.out _
      rw [u4] at this
      exact this
    · rintro L A W K hL hC hW ⟨V, rfl, HV, s0, s1, f2, f5, f8, f9, f10⟩ hK
      have H := Lib.hid (show ∀ W', Ext W W' → K (fr (upd V 6 (.pointer (some ⟨w.heap.size, 2, none⟩)))) W' from fun W' he => hK _ _ ⟨upd V 6 (.pointer (some ⟨w.heap.size, 2, none⟩)), rfl, HV.up 6 _ (fun x hx => Option.some.inj hx), fun h0 => Ext.trans (s0 (by unfold More at h0; rwa [if_neg (by decide)] at h0)) he, fun h0 => LdX.ext (s1 (more_ne h0 rfl)) he, fun h0 h1 => OwnA.ext (f2 (by unfold More at h0; rwa [if_neg (by decide)] at h0) (more_ne h1 rfl)) he, fun h0 h1 => OwnS.ext (f5 (by unfold More at h0; rwa [if_neg (by decide)] at h0) (more_ne h1 rfl)) he, fun h0 h1 => OwnP.ext (f8 (by unfold More at h0; rwa [if_neg (by decide)] at h0) (more_ne h1 rfl)) he, fun h0 h1 => RetX.ext (f9 (by unfold More at h0; rwa [if_neg (by decide)] at h0) (more_ne h1 rfl)) he, fun h0 h1 => NwX.ext (f10 (by unfold More at h0; rwa [if_neg (by decide)] at h0) (more_ne h1 rfl)) he⟩)
      clear hK hC hW hL HV s0 s1 f2 f5 f8 f9 f10
      rw [HFR.out]
      go_wp2_with fail
      show K _ _
      have := H.out _ (Ext.refl _)
      rw [HFR.out] at this
      exact this
    · rintro L A W K hL hC hW ⟨V, rfl, HV, s0, s1, f2, f5, f8, f9, f10⟩ hK
      have e6 : V 6 = .pointer (some ⟨w.heap.size, 2, none⟩) := HV 6 _ rfl (hW 6 rfl)
      have hB := s0 (hC.no (hC.no (hC.no hL 8 _ rfl rfl) 9 _ rfl rfl) 11 _ rfl rfl)
      have H := Lib.hid (show ∀ W', Ext W W' → K (fr (upd V 7 (.slice A3 x.p.length c3))) W' from fun W' he => hK _ _ ⟨upd V 7 (.slice A3 x.p.length c3), rfl, HV.up 7 _ (fun x hx => Option.some.inj hx), fun h0 => Ext.trans (s0 (by unfold More at h0; rwa [if_neg (by decide)] at h0)) he, fun h0 => LdX.ext (s1 (more_ne h0 rfl)) he, fun h0 h1 => OwnA.ext (f2 (by unfold More at h0; rwa [if_neg (by decide)] at h0) (more_ne h1 rfl)) he, fun h0 h1 => OwnS.ext (f5 (by unfold More at h0; rwa [if_neg (by decide)] at h0) (more_ne h1 rfl)) he, fun h0 h1 => OwnP.ext (f8 (by unfold More at h0; rwa [if_neg (by decide)] at h0) (more_ne h1 rfl)) he, fun h0 h1 => RetX.ext (f9 (by unfold More at h0; rwa [if_neg (by decide)] at h0) (more_ne h1 rfl)) he, fun h0 h1 => NwX.ext (f10 (by unfold More at h0; rwa [if_neg (by decide)] at h0) (more_ne h1 rfl)) he⟩)
      have HU := Lib.hid (show (upd V 7 (.slice A3 x.p.length c3)) 6 = .pointer (some ⟨w.heap.size, 2, none⟩) from e6)
      clear hK hC hW hL HV s0 s1 f2 f5 f8 f9 f10
      rw [HFR.out]
      rw [e6]
      clear e6
      have hcl := (Cs.ext HC1.out hB).cell 2 _ rfl
      clear hB
      go_wp2_with fail
      show K _ _
      have := H.out _ (Ext.refl _)
      rw [HFR.out] at this
      obtain u6 := HU.out
      rw [u6] at this
      exact this
    · rintro L A W K hL hC hW ⟨V, rfl, HV, s0, s1, f2, f5, f8, f9, f10⟩ hK
      have e7 : V 7 = .slice A3 x.p.length c3 := HV 7 _ rfl (hW 7 rfl)
      have hB := s0 (hC.no (hC.no hL 9 _ rfl rfl) 11 _ rfl rfl)
      have H := Lib.hid (show ∀ v W', Ext W W' → (OwnP W' w1.heap.size v x.p) → K (fr (upd V 8 v)) W' from fun v W' he hp => hK _ _ ⟨upd V 8 v, rfl, HV.up 8 _ (fun x hx => absurd hx (by intro h; cases h)), fun h0 => Ext.trans (s0 (by unfold More at h0; rwa [if_neg (by decide)] at h0)) he, fun h0 => LdX.ext (s1 (more_ne h0 rfl)) he, fun h0 h1 => OwnA.ext (f2 (by unfold More at h0; rwa [if_neg (by decide)] at h0) (more_ne h1 rfl)) he, fun h0 h1 => OwnS.ext (f5 (by unfold More at h0; rwa [if_neg (by decide)] at h0) (more_ne h1 rfl)) he, fun h0 h1 => hp, fun h0 h1 => RetX.ext (f9 (by unfold More at h0; rwa [if_neg (by decide)] at h0) (more_ne h1 rfl)) he, fun h0 h1 => NwX.ext (f10 (by unfold More at h0; rwa [if_neg (by decide)] at h0) (more_ne h1 rfl)) he⟩)
      have HU := Lib.hid (show ∀ v, (upd V 8 v) 7 = .slice A3 x.p.length c3 from fun v => e7)
      clear hK hC hW hL HV s0 s1 f2 f5 f8 f9 f10
      rw [HFR.out]
      rw [e7]
      clear e7
      have HB := Lib.hid hB
      clear hB
      go_wp2_with fail
      refine (ownP_any _ x.p _ (HXX.out.2.2.ext HB.out) (by have := HLP.out; omega)).mono ?_
      rintro e wx ⟨v', rfl, hr, he⟩
      have := H.out _ _ he (hr.mono HB.out.size)
      clear H
      go_wp2_with fail
      show K _ _
      rw [HFR.out] at this
      obtain u7 := HU.out _
      rw [u7] at this
      exact this
    · rintro L A W K hL hC hW ⟨V, rfl, HV, s0, s1, f2, f5, f8, f9, f10⟩ hK
      have q2 := f2 (hC.no hL 11 _ rfl rfl) (hW 2 rfl)
      obtain ⟨A2, c2, e2, z2⟩ := q2.shp
      have q5 := f5 (hC.no hL 11 _ rfl rfl) (hW 5 rfl)
      obtain ⟨A5, c5, e5, z5⟩ := q5.shp
      have q8 := f8 (hC.no hL 11 _ rfl rfl) (hW 8 rfl)
      obtain ⟨A8, c8, e8, z8⟩ := q8.shp
      have H := Lib.hid (show ∀ v W', Ext W W' → (BdX w1.heap.size x W' v) → K (fr (upd V 9 v)) W' from fun v W' he hp => hK _ _ ⟨upd V 9 v, rfl, HV.up 9 _ (fun x hx => absurd hx (by intro h; cases h)), fun h0 => Ext.trans (s0 (by unfold More at h0; rwa [if_neg (by decide)] at h0)) he, fun h0 => LdX.ext (s1 (more_ne h0 rfl)) he, fun h0 h1 => OwnA.ext (f2 (by unfold More at h0; rwa [if_neg (by decide)] at h0) (more_ne h1 rfl)) he, fun h0 h1 => OwnS.ext (f5 (by unfold More at h0; rwa [if_neg (by decide)] at h0) (more_ne h1 rfl)) he, fun h0 h1 => OwnP.ext (f8 (by unfold More at h0; rwa [if_neg (by decide)] at h0) (more_ne h1 rfl)) he, fun h0 h1 => hp, fun h0 h1 => NwX.ext (f10 (by unfold More at h0; rwa [if_neg (by decide)] at h0) (more_ne h1 rfl)) he⟩)
      have HU := Lib.hid (show ∀ v, (upd V 9 v) 2 = .slice A2 x.a.length c2 ∧ (upd V 9 v) 5 = .slice A5 x.s.length c5 ∧ (upd V 9 v) 8 = .slice A8 x.p.length c8 from fun v => ⟨e2, e5, e8⟩)
      clear hK hC hW hL HV s0 s1 f2 f5 f8 f9 f10
      rw [HFR.out]
      rw [e2, e5, e8]
      clear e2 e5 e8
      go_wp2_with fail
      show K _ _
      have := H.out (.agg #[.slice A2 x.a.length c2, .slice A5 x.s.length c5, .slice A8 x.p.length c8]) _ (Ext.refl _) (⟨_, _, _, rfl, z2, z5, z8⟩)
      rw [HFR.out] at this
      obtain ⟨u2, u5, u8⟩ := HU.out _
      rw [u2, u5, u8] at this
      exact this
    · rintro L A W K hL hC hW ⟨V, rfl, HV, s0, s1, f2, f5, f8, f9, f10⟩ hK
      have hB := s0 (hC.no hL 11 _ rfl rfl)
      have H := Lib.hid (show ∀ v W', Ext W W' → (NwX w1 W' v) → K (fr (upd V 10 v)) W' from fun v W' he hp => hK _ _ ⟨upd V 10 v, rfl, HV.up 10 _ (fun x hx => absurd hx (by intro h; cases h)), fun h0 => Ext.trans (s0 (by unfold More at h0; rwa [if_neg (by decide)] at h0)) he, fun h0 => absurd (more_ne h0 rfl) (by rw [(hC.no hL 11 _ rfl rfl)]; simp), fun h0 h1 => OwnA.ext (f2 (by unfold More at h0; rwa [if_neg (by decide)] at h0) (more_ne h1 rfl)) he, fun h0 h1 => OwnS.ext (f5 (by unfold More at h0; rwa [if_neg (by decide)] at h0) (more_ne h1 rfl)) he, fun h0 h1 => OwnP.ext (f8 (by unfold More at h0; rwa [if_neg (by decide)] at h0) (more_ne h1 rfl)) he, fun h0 h1 => RetX.ext (f9 (by unfold More at h0; rwa [if_neg (by decide)] at h0) (more_ne h1 rfl)) he, fun h0 h1 => hp⟩)
      clear hK hC hW hL HV s0 s1 f2 f5 f8 f9 f10
      rw [HFR.out]
      have HB := Lib.hid hB
      clear hB
      go_wp2_with fail
      show K _ _
      have := H.out (.pointer (some ⟨W.heap.size, 0, none⟩)) _ ((Ext.refl W).alloc (.cells #[.slice none 0 0, .slice none 0 0, .slice none 0 0] 26)) (⟨_, rfl, Cs.new _ _ _ _ rfl, HB.out.size⟩)
      rw [HFR.out] at this
      exact this
    · rintro L A W K hL hC hW ⟨V, rfl, HV, s0, s1, f2, f5, f8, f9, f10⟩ hK
      have hB := s0 hL
      have q10 := f10 hL (hW 10 rfl)
      obtain ⟨g10, e10, k10, m10⟩ := q10
      have q9 := f9 hL (hW 9 rfl)
      obtain ⟨a9, s9, p9, e9, x9, y9, z9⟩ := q9
      have H := Lib.hid (show ∀ W', (LdX x w1 W' (V 10)) → K (fr (V)) W' from fun W' hA => hK _ _ ⟨V, rfl, HV.st 11 rfl, fun h0 => absurd h0 (by unfold More; rw [if_pos rfl]; simp), fun h0 => hA, fun h0 h1 => absurd h0 (by unfold More; rw [if_pos rfl]; simp), fun h0 h1 => absurd h0 (by unfold More; rw [if_pos rfl]; simp), fun h0 h1 => absurd h0 (by unfold More; rw [if_pos rfl]; simp), fun h0 h1 => absurd h0 (by unfold More; rw [if_pos rfl]; simp), fun h0 h1 => absurd h0 (by unfold More; rw [if_pos rfl]; simp)⟩)
      have HU := Lib.hid (show (V) 10 = .pointer (some ⟨g10, 0, none⟩) ∧ (V) 9 = .agg #[a9, s9, p9] from ⟨e10, e9⟩)
      clear hK hC hW hL HV s0 s1 f2 f5 f8 f9 f10
      rw [HFR.out]
      rw [e10, e9]
      clear e10 e9
      have HB := Lib.hid hB
      have K1 := Lib.hid k10
      have M1 := Lib.hid m10
      have O1 := Lib.hid x9
      have O2 := Lib.hid y9
      have O3 := Lib.hid z9
      clear hB k10 m10 x9 y9 z9
      go_wp2_with ((with_reducible refine wpList_storeX ?_ ?_ (.tmp 7) (.tmp 23) ?_ g10 (.slice none 0 0) (.slice none 0 0) (.slice none 0 0) a9 s9 p9 ?_ ?_ O1.out.one O2.out.one O3.out.one K1.out ?_); (exact rfl); (exact rfl); (exact rfl); (exact rfl); (exact rfl); intro w3 k3 g3; have K3 := Lib.hid k3; have G3 := Lib.hid g3; clear k3 g3)
      have HA := Lib.hid (show LdX x w1 w3 (V 10) from ⟨g10, a9, s9, p9, HU.out.1, ⟨⟨K3.out, M1.out⟩, O1.out.keptT G3.out K1.out (by decide), O2.out.keptT G3.out K1.out (by decide), O3.out.keptT G3.out K1.out (by decide)⟩, HB.out.grown G3.out (by have := M1.out; omega)⟩)
      show K _ _
      have := H.out _ HA.out
      rw [HFR.out] at this
      obtain ⟨u10, u9⟩ := HU.out
      rw [u10, u9] at this
      exact this
    · rintro L A W hL ⟨V, rfl, HV, s0, s1, f2, f5, f8, f9, f10⟩
      have e0 : V 0 = .pointer (some ⟨w.heap.size, 0, none⟩) := HV 0 _ rfl (hL 0 (by simp))
      have e1 : V 1 = .slice A1 x.a.length c1 := HV 1 _ rfl (hL 1 (by simp))
      have e3 : V 3 = .pointer (some ⟨w.heap.size, 1, none⟩) := HV 3 _ rfl (hL 3 (by simp))
      have e4 : V 4 = .slice A2 x.s.length c2 := HV 4 _ rfl (hL 4 (by simp))
      have e6 : V 6 = .pointer (some ⟨w.heap.size, 2, none⟩) := HV 6 _ rfl (hL 6 (by simp))
      have e7 : V 7 = .slice A3 x.p.length c3 := HV 7 _ rfl (hL 7 (by simp))
      have hA := s1 (hL 11 (by simp))
      rw [HFR.out]
      rw [e0, e1, e3, e4, e6, e7]
      clear hL HV HFR e0 e1 e3 e4 e6 e7 s0 s1 f2 f5 f8 f9 f10
      obtain ⟨g7, a7, s7, p7, hv7, ho7, hx7⟩ := hA
      rw [hv7]
      have HO7 := Lib.hid ho7
      have HX7 := Lib.hid hx7
      have HZ7 := Lib.hid (Cs.lt HR1.out)
      clear hv7 ho7 hx7
      go_wp2_with fail
      rw [HFF.out, Oper.upon_enter]
      refine (HC.out _ _ _ _ _ _ (HE1.out.trans HX7.out) HE1.out.size HX7.out.size HO7.out).mono ?_
      rintro e w2 ⟨rfl, a8, s8, p8, ho, hb⟩
      have HO8 := Lib.hid ho
      have HE8 := Lib.hid ((HE1.out.trans HX7.out).below hb HE1.out.size)
      have HR8 : Hid (Cs w2 (w.heap.size + 1) 26 #[.slice none 0 0, .slice none 0 0, .slice none 0 0]) := Lib.hid ((Below.block hb _ HZ7.out).trans (Cs.ext HR1.out HX7.out))
      have K8 : Hid (Cs w2 g7 26 #[a8, s8, p8]) := Lib.hid ho.1.1
      have Y1 := Lib.hid ho.2.1.one
      have Y2 := Lib.hid ho.2.2.1.one
      have Y3 := Lib.hid ho.2.2.2.one
      clear ho hb
      by_cases h0 : er = 0
      · have f0 : (er == 0) = true := by rw [beq_iff_eq]; exact h0
        have f1 : (er != 0) = false := by rw [bne, f0]; rfl
        have HF := Lib.hid (show chg x b er y = (y, b, 0) by rw [HDEF.out, if_pos h0])
        clear h0
        go_wp2_with (first
          | ((with_reducible refine wpList_loadX ?_ (.tmp 7) ?_ g7 a8 s8 p8 ?_ K8.out ?_); (exact rfl); (exact rfl); (exact rfl))
          | ((with_reducible refine wpList_storeX ?_ ?_ (.tmp 4) (.tmp 33) ?_ (w.heap.size + 1) (.slice none 0 0) (.slice none 0 0) (.slice none 0 0) a8 s8 p8 ?_ ?_ Y1.out Y2.out Y3.out HR8.out ?_); (exact rfl); (exact rfl); (exact rfl); (exact rfl); (exact rfl); intro w3 k3 g3; have K3 := Lib.hid k3; have G3 := Lib.hid g3; clear k3 g3))
        refine bodyPost_ret (results_ax_err Try.results52 _ _ (w.heap.size + 1) _ _ _ rfl K3.out) rfl ?_
        rw [HF.out]
        exact ⟨_, rfl, ⟨_, _, _, rfl, (HO8.out.2.1.keptT G3.out HR8.out (by decide)).mono HE1.out.size, (HO8.out.2.2.1.keptT G3.out HR8.out (by decide)).mono HE1.out.size, (HO8.out.2.2.2.keptT G3.out HR8.out (by decide)).mono HE1.out.size⟩, HE8.out.grown G3.out (by omega)⟩
      · have f0 : (er == 0) = false := by rw [beq_eq_false_iff_ne]; exact h0
        have f1 : (er != 0) = true := by rw [bne, f0]; rfl
        have HF := Lib.hid (show chg x b er y = (ax0, false, er) by rw [HDEF.out, if_neg h0])
        clear h0
        go_wp2_with ((with_reducible refine wpList_storeX ?_ ?_ (.tmp 4) (.tmp 31) ?_ (w.heap.size + 1) (.slice none 0 0) (.slice none 0 0) (.slice none 0 0) (.slice none 0 0) (.slice none 0 0) (.slice none 0 0) ?_ ?_ rfl rfl rfl HR8.out ?_); (exact rfl); (exact rfl); (exact rfl); (exact rfl); (exact rfl); intro w3 k3 g3; have K3 := Lib.hid k3; have G3 := Lib.hid g3; clear k3 g3)
        refine bodyPost_ret (results_ax_err Try.results52 _ _ (w.heap.size + 1) _ _ _ rfl K3.out) rfl ?_
        rw [HF.out]
        exact ⟨_, rfl, RetX.nil _ _, HE8.out.grown G3.out (by omega)⟩
end Go.Proofs.Ytjampleddeidaaa
