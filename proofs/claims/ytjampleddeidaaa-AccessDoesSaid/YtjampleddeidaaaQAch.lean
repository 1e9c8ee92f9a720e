/- Package access: what is passing is made of a spot and what it holds. -/
import Derived.Test.YtjampleddeidaaaQAcb
namespace Go.Proofs.Ytjampleddeidaaa
open Go.ChangeShapes Go.WideShapes Go.ChangeAt Go.RowKit Go.Shelf

set_option maxRecDepth 100000 in
theorem built_pas3 (n : Nat) : Try.prog.built 69 [(1, wv n)] = some (cP ⟨0, 0, n⟩) := by kernel_rfl
set_option maxRecDepth 100000 in
theorem wpList_build_pas3 {ops : Array Oper} {rest : List Oper} {o : Oper} {a : Act} {w : World} {Q : Exit → Act → World → Prop} (hg : o.guard = none) (x : Operand) (ho : o.op = .build 69 #[(1, x)]) (n : Nat) (hx : a.eval x = wv n)
    (h : wpList Try.prog ops Q rest (a.put o.dst (.agg (cP ⟨0, 0, n⟩))) w) : wpList Try.prog ops Q (o :: rest) a w := by
  refine wpList_build hg 69 #[(1, x)] ho ?_ ?_
  · simp only [List.map_toArray, List.map_cons, List.map_nil, hx, built_pas3]; rfl
  · simp only [List.map_toArray, List.map_cons, List.map_nil, hx, built_pas3, Option.getD_some]; exact h
set_option maxRecDepth 100000 in
theorem results_pas {fn : Func} {p : Tmp} (h : fn.results = #[.cell p 69]) (tmps : Array Value) (w : World) (g : Nat) (q : Pe) (hp : tmps.getD p undef = .pointer (some ⟨g, 0, none⟩)) (hg : BP w g q) : (results fn tmps).run Try.prog w = .ok (.agg (cP q)) w :=
  results_cell_row h tmps w g 69 (cP q) (0, 0) _ hp hg Try.underlying69 rfl infoP
set_option maxRecDepth 100000 in
theorem wpList_store_one {P : Program} {ops : Array Oper} {rest : List Oper} {o : Oper} {a : Act} {w : World} {Q : Exit → Act → World → Prop} (hgd : o.guard = none) (hd : o.dst = none) (ty : TypeId) (x y : Operand) (ho : o.op = .store ty x y)
    (g k : Nat) (t : TypeId) (cur : Array Value) (v : Value) (hv : v.cells = #[v]) (hx : a.eval x = .pointer (some ⟨g, k, none⟩)) (hy : a.eval y = v) (hg : Cs w g t cur) (hi : (P.info? ty).map (·.size) = some 1) (hb : k + 1 ≤ cur.size) (h1 : v.oneCell' = true)
    (h : ∀ w', Cs w' g t (layC cur k #[v]) → w.grownBy w' (some g) → wpList P ops Q rest a w') : wpList P ops Q (o :: rest) a w := by
  have h' : ∀ w', Cs w' g t (layC cur k #[v]) → w.grownBy w' (some g) → wpList P ops Q rest (a.put o.dst undef) w' := by rw [hd]; exact h
  have hrun : (storeVar ty ⟨g, k, none⟩ v).run P w = .ok () (w.setRow g (layC cur k #[v])) := by
    have := run_storeCells_at (P := P) g k t [v] 0 cur w hg (by simpa using hb) (fun u hu => by rw [List.mem_singleton.1 hu]; exact h1)
    cases hq : P.info? ty with
    | none => simp [hq] at hi
    | some i =>
      have hs : i.size = 1 := by simpa [hq] using hi
      simp only [Nat.add_zero, List.length_singleton] at this
      simp [storeVar, sizeOf, typeInfo, hq, hv, hs]
      simpa [layC] using this
  refine wpList_plain hgd fun K hK => ?_
  unfold Oper.wp execOp
  simp only [ho, hx, hy, Instr.storeAt, Instr.sureAddr, Sem.run_bind, Sem.run_pure, Result.andThen_ok, hrun]
  exact hK _ _ (h' _ (setRow_heap w g _ _ t (0, 0) hg) ⟨rfl, rfl, rfl, by simp [World.setRow], fun q _ hq => setRow_other w g q _ (fun e => hq (by simp [e]))⟩)
def HoJ (w : World) (g2 g4 g5 : Nat) (q r : Pe) (W : World) : Prop := BS W g2 q ∧ BP W g4 pz0 ∧ BP W g5 r ∧ Ext w W
set_option maxRecDepth 100000 in
theorem HoJ.ext {w : World} {g2 g4 g5 : Nat} {q r : Pe} {W W' : World} (h : HoJ w g2 g4 g5 q r W) (he : Ext W W') : HoJ w g2 g4 g5 q r W' := ⟨h.1.ext he, h.2.1.ext he, h.2.2.1.ext he, h.2.2.2.trans he⟩
set_option maxRecDepth 100000 in
theorem HoJ.put {w : World} {g2 g4 g5 : Nat} {q r s : Pe} {W W' : World} (h : HoJ w g2 g4 g5 q r W) (hk : BP W' g5 s) (hg : W.grownBy W' (some g5)) (h2 : g2 ≠ g5) (h4 : g4 ≠ g5) (h5 : w.heap.size ≤ g5) : HoJ w g2 g4 g5 q s W' :=
  ⟨Cs.kept h.1 hg (fun e => h2 (by injection e)), Cs.kept h.2.1 hg (fun e => h4 (by injection e)), hk, h.2.2.2.grown hg h5⟩
set_option maxRecDepth 100000 in
set_option maxHeartbeats 4000000 in
theorem holding_any (q : Pe) (n : Nat) (w : World) (_hq : okS q) (_hn : n < M256) : Calls Try.prog 39 #[.agg (cS q), wv n] w fun e w' => e = .returned (.agg (cP ⟨q.addr, q.key, n⟩)) ∧ Ext w w' := by
  obtain ⟨w0, hw0⟩ : ∃ w0, ((w.alloc (.cells (cS q) 32)).alloc (.cells (wc n) 30)).alloc (.cells #[.int .u64 0, .int .u64 0, .int .u64 0, .int .u64 0, .int .u64 0, .int .u64 0, .int .u64 0, .int .u64 0, .int .u64 0] 69) = w0 := ⟨_, rfl⟩
  have HQ : Hid (BS w0 w.heap.size q) := Lib.hid (by rw [← hw0]; exact Cs.alloc (Cs.alloc (Cs.new _ _ _ _ rfl) _) _)
  have HN : Hid (Cs w0 (w.heap.size + 1) 30 (wc n)) := Lib.hid (by rw [← hw0]; exact Cs.alloc (Cs.new _ _ _ _ (by simp)) _)
  have HR : Hid (BP w0 (w.heap.size + 2) pz0) := Lib.hid (by rw [← hw0]; exact Cs.new _ _ _ _ (by simp))
  have HE : Hid (Ext w w0) := Lib.hid (by rw [← hw0]; exact (((Ext.refl w).alloc _).alloc _).alloc _)
  have HSZ : Hid (w0.heap.size = w.heap.size + 3) := Lib.hid (by rw [← hw0]; simp)
  rw [show wv n = .agg (wc n) from rfl]
  have HRN := Lib.hid (Cs.rg HN.out)
  obtain ⟨qc, hqc⟩ : ∃ qc, cS q = qc := ⟨_, rfl⟩
  obtain ⟨vc, hvc⟩ : ∃ vc, wc n = vc := ⟨_, rfl⟩
  rw [hqc, hvc] at hw0 ⊢
  have HW0 := Lib.hid hw0
  clear hw0 hqc hvc
  go_enter Try.func39, Try.ntmps39
  go_upto_region 1 with fail
  rw [HW0.out]
  clear HW0
  go_upto_region 2 with (first
    | ((with_reducible refine wpList_load_wordIn ?_ (.tmp 3) ?_ (w.heap.size + 1) 0 n ?_ ?_ ?_); (exact rfl); (exact rfl); (exact rfl); (exact HRN.out))
    | ((with_reducible refine wpList_build_pas3 ?_ (.tmp 6) ?_ n ?_ ?_); (exact rfl); (exact rfl); (exact rfl))
    | ((with_reducible refine wpList_storeP ?_ ?_ (.tmp 5) (.tmp 7) ?_ w0.heap.size pz0 ⟨0, 0, n⟩ ?_ ?_ ?_ ?_); (exact rfl); (exact rfl); (exact rfl); (exact rfl); (exact rfl); (exact (Cs.new _ _ _ _ rfl)); intro w3 k3 g3; have K3 := Lib.hid k3; have G3 := Lib.hid g3; clear k3 g3))
  have HSW := Lib.hid (show w.heap.size ≤ w0.heap.size by have := HSZ.out; omega)
  have HXL := Lib.hid (((Ext.refl w0).alloc (.cells (cP pz0) 69)).grown G3.out (Nat.le_refl _))
  have HNE : Hid (w.heap.size ≠ w0.heap.size ∧ w.heap.size + 2 ≠ w0.heap.size ∧ w.heap.size ≤ w0.heap.size) := Lib.hid (by have := HSZ.out; omega)
  have HJ : Hid (HoJ w w.heap.size (w.heap.size + 2) w0.heap.size q ⟨0, 0, n⟩ w3) := Lib.hid ⟨Cs.ext HQ.out HXL.out, Cs.ext HR.out HXL.out, K3.out, HE.out.trans HXL.out⟩
  clear HXL K3 G3 HN HQ HR HRN HSZ HSW
  obtain ⟨g5, hg5⟩ : ∃ g, w0.heap.size = g := ⟨_, rfl⟩
  rw [hg5] at HJ HNE ⊢
  obtain ⟨g4, hg4⟩ : ∃ g, w.heap.size + 2 = g := ⟨_, rfl⟩
  have hg4' : w.heap.size + 1 + 1 = g4 := hg4
  rw [hg4] at HJ HNE
  rw [hg4']
  obtain ⟨g2, hg2⟩ : ∃ g, w.heap.size = g := ⟨_, rfl⟩
  have HG2 := Lib.hid hg2
  rw [hg2] at HJ HNE ⊢
  have HG4 : Hid (w.heap.size ≤ g4) := Lib.hid (by omega)
  clear hg2 hg4 hg4' hg5
  refine wp_named fun a0 ha0 => ?_
  obtain ⟨fr, hfr⟩ : ∃ fr : (Nat → Value) → Act, ∀ V, fr V = ((((((((a0.put (some 8) (V 0)).put (some 9) (V 1)).put (some 10) (V 2)).put (some 11) (V 3)).put (some 12) (V 4)).put (some 13) (V 5)).put (some 14) (V 7)).put (some 15) (V 8)) := ⟨fun V => ((((((((a0.put (some 8) (V 0)).put (some 9) (V 1)).put (some 10) (V 2)).put (some 11) (V 3)).put (some 12) (V 4)).put (some 13) (V 5)).put (some 14) (V 7)).put (some 15) (V 8)), fun _ => rfl⟩
  rw [ha0] at hfr
  simp only [Act.put, List.setIfInBounds_toArray, List.set_cons_zero, List.set_cons_succ] at hfr
  have HFR := Lib.hid hfr
  clear hfr
  refine wp_region_inv (by kernel_rfl) (by kernel_rfl) (fun L A W => ∃ V : Nat → Value, A = fr V ∧ Vals (fun j => ([some (.pointer (some ⟨g2, 0, none⟩)), some (.int .u64 (q.addr : Nat)), some (.pointer (some ⟨g2, 1, none⟩)), some (wv q.key), some (.pointer (some ⟨g5, 0, none⟩)), some (.pointer (some ⟨g5, 0, none⟩)), none, some (.pointer (some ⟨g5, 0, none⟩)), some (.pointer (some ⟨g5, 1, none⟩)), none] : List (Option Value)).getD j none) L V ∧ (L 6 = false → HoJ w g2 g4 g5 q ⟨0, 0, n⟩ W) ∧ (L 6 = true → L 9 = false → HoJ w g2 g4 g5 q ⟨q.addr, 0, n⟩ W) ∧ (L 9 = true → HoJ w g2 g4 g5 q ⟨q.addr, q.key, n⟩ W)) ?_ ⟨?_, ?_, ?_, ?_, ?_, ?_, ?_, ?_, ?_, ?_, trivial⟩ ?_
  · refine ⟨fun j => a0.tmps.getD (([8, 9, 10, 11, 12, 13, 0, 14, 15, 0] : List Nat).getD j 0) undef, ?_, Vals.no _ _ _ (far_none _ _ rfl), fun _ => HJ.out.ext ((Ext.refl _).drew), fun h0 h1 => absurd h0 (by decide), fun h0 => absurd h0 (by decide)⟩
    rw [HFR.out, ha0]
    rfl
  all_goals clear ha0
  · rintro L A W K hL hC hW ⟨V, rfl, HV, s0, s1, s2⟩ hK
    have H := Lib.hid (show ∀ W', Ext W W' → K (fr (upd V 0 (.pointer (some ⟨g2, 0, none⟩)))) W' from fun W' he => hK _ _ ⟨upd V 0 (.pointer (some ⟨g2, 0, none⟩)), rfl, HV.up 0 _ (fun x hx => Option.some.inj hx), fun h0 => HoJ.ext (s0 (by unfold More at h0; rwa [if_neg (by decide)] at h0)) he, fun h0 h1 => HoJ.ext (s1 (more_ne h0 rfl) (by unfold More at h1; rwa [if_neg (by decide)] at h1)) he, fun h0 => HoJ.ext (s2 (more_ne h0 rfl)) he⟩)
    clear hK hC hW hL HV s0 s1 s2
    rw [HFR.out]
    go_wp2_with fail
    show K _ _
    have := H.out _ (Ext.refl _)
    rw [HFR.out] at this
    exact this
  · rintro L A W K hL hC hW ⟨V, rfl, HV, s0, s1, s2⟩ hK
    have e0 : V 0 = .pointer (some ⟨g2, 0, none⟩) := HV 0 _ rfl (hW 0 rfl)
    have hB := s0 (hC.no hL 6 _ rfl rfl)
    have H := Lib.hid (show ∀ W', Ext W W' → K (fr (upd V 1 (.int .u64 (q.addr : Nat)))) W' from fun W' he => hK _ _ ⟨upd V 1 (.int .u64 (q.addr : Nat)), rfl, HV.up 1 _ (fun x hx => Option.some.inj hx), fun h0 => HoJ.ext (s0 (by unfold More at h0; rwa [if_neg (by decide)] at h0)) he, fun h0 h1 => HoJ.ext (s1 (more_ne h0 rfl) (by unfold More at h1; rwa [if_neg (by decide)] at h1)) he, fun h0 => HoJ.ext (s2 (more_ne h0 rfl)) he⟩)
    have HU := Lib.hid (show (upd V 1 (.int .u64 (q.addr : Nat))) 0 = .pointer (some ⟨g2, 0, none⟩) from e0)
    clear hK hC hW hL HV s0 s1 s2
    rw [HFR.out]
    rw [e0]
    clear e0
    have qq := cS_addr (Cs.rg hB.1)
    clear hB
    go_wp2_with fail
    show K _ _
    have := H.out _ (Ext.refl _)
    rw [HFR.out] at this
    obtain u0 := HU.out
    rw [u0] at this
    exact this
  · rintro L A W K hL hC hW ⟨V, rfl, HV, s0, s1, s2⟩ hK
    have H := Lib.hid (show ∀ W', Ext W W' → K (fr (upd V 2 (.pointer (some ⟨g2, 1, none⟩)))) W' from fun W' he => hK _ _ ⟨upd V 2 (.pointer (some ⟨g2, 1, none⟩)), rfl, HV.up 2 _ (fun x hx => Option.some.inj hx), fun h0 => HoJ.ext (s0 (by unfold More at h0; rwa [if_neg (by decide)] at h0)) he, fun h0 h1 => HoJ.ext (s1 (more_ne h0 rfl) (by unfold More at h1; rwa [if_neg (by decide)] at h1)) he, fun h0 => HoJ.ext (s2 (more_ne h0 rfl)) he⟩)
    clear hK hC hW hL HV s0 s1 s2
    rw [HFR.out]
    go_wp2_with fail
    show K _ _
    have := H.out _ (Ext.refl _)
    rw [HFR.out] at this
    exact this
  · rintro L A W K hL hC hW ⟨V, rfl, HV, s0, s1, s2⟩ hK
    have e2 : V 2 = .pointer (some ⟨g2, 1, none⟩) := HV 2 _ rfl (hW 2 rfl)
    have hB : BS W g2 q := by
      cases h6 : L 6 with
      | false => exact (s0 h6).1
      | true => exact (s1 h6 (hC.no hL 9 _ rfl rfl)).1
    have H := Lib.hid (show ∀ W', Ext W W' → K (fr (upd V 3 (wv q.key))) W' from fun W' he => hK _ _ ⟨upd V 3 (wv q.key), rfl, HV.up 3 _ (fun x hx => Option.some.inj hx), fun h0 => HoJ.ext (s0 (by unfold More at h0; rwa [if_neg (by decide)] at h0)) he, fun h0 h1 => HoJ.ext (s1 (more_ne h0 rfl) (by unfold More at h1; rwa [if_neg (by decide)] at h1)) he, fun h0 => HoJ.ext (s2 (more_ne h0 rfl)) he⟩)
    have HU := Lib.hid (show (upd V 3 (wv q.key)) 2 = .pointer (some ⟨g2, 1, none⟩) from e2)
    clear hK hC hW hL HV s0 s1 s2
    rw [HFR.out]
    rw [e2]
    clear e2
    have HWW := Lib.hid (cS_key (Cs.rg hB))
    clear hB
    refine wpList_load_wordIn rfl (.tmp 10) rfl g2 1 q.key rfl HWW.out ?_
    show K _ _
    have := H.out _ (Ext.refl _)
    rw [HFR.out] at this
    obtain u2 := HU.out
    rw [u2] at this
    exact this
  · rintro L A W K hL hC hW ⟨V, rfl, HV, s0, s1, s2⟩ hK
    have H := Lib.hid (show ∀ W', Ext W W' → K (fr (upd V 4 (.pointer (some ⟨g5, 0, none⟩)))) W' from fun W' he => hK _ _ ⟨upd V 4 (.pointer (some ⟨g5, 0, none⟩)), rfl, HV.up 4 _ (fun x hx => Option.some.inj hx), fun h0 => HoJ.ext (s0 (by unfold More at h0; rwa [if_neg (by decide)] at h0)) he, fun h0 h1 => HoJ.ext (s1 (more_ne h0 rfl) (by unfold More at h1; rwa [if_neg (by decide)] at h1)) he, fun h0 => HoJ.ext (s2 (more_ne h0 rfl)) he⟩)
    clear hK hC hW hL HV s0 s1 s2
    rw [HFR.out]
    go_wp2_with fail
    show K _ _
    have := H.out _ (Ext.refl _)
    rw [HFR.out] at this
    exact this
  · rintro L A W K hL hC hW ⟨V, rfl, HV, s0, s1, s2⟩ hK
    have e4 : V 4 = .pointer (some ⟨g5, 0, none⟩) := HV 4 _ rfl (hW 4 rfl)
    have H := Lib.hid (show ∀ W', Ext W W' → K (fr (upd V 5 (.pointer (some ⟨g5, 0, none⟩)))) W' from fun W' he => hK _ _ ⟨upd V 5 (.pointer (some ⟨g5, 0, none⟩)), rfl, HV.up 5 _ (fun x hx => Option.some.inj hx), fun h0 => HoJ.ext (s0 (by unfold More at h0; rwa [if_neg (by decide)] at h0)) he, fun h0 h1 => HoJ.ext (s1 (more_ne h0 rfl) (by unfold More at h1; rwa [if_neg (by decide)] at h1)) he, fun h0 => HoJ.ext (s2 (more_ne h0 rfl)) he⟩)
    have HU := Lib.hid (show (upd V 5 (.pointer (some ⟨g5, 0, none⟩))) 4 = .pointer (some ⟨g5, 0, none⟩) from e4)
    clear hK hC hW hL HV s0 s1 s2
    rw [HFR.out]
    rw [e4]
    clear e4
    go_wp2_with fail
    show K _ _
    have := H.out _ (Ext.refl _)
    rw [HFR.out] at this
    obtain u4 := HU.out
    rw [u4] at this
    exact this
  · rintro L A W K hL hC hW ⟨V, rfl, HV, s0, s1, s2⟩ hK
    have e5 : V 5 = .pointer (some ⟨g5, 0, none⟩) := HV 5 _ rfl (hW 5 rfl)
    have e1 : V 1 = .int .u64 (q.addr : Nat) := HV 1 _ rfl (hW 1 rfl)
    have hB := s0 hL
    have H := Lib.hid (show ∀ W', (HoJ w g2 g4 g5 q ⟨q.addr, 0, n⟩ W') → K (fr (V)) W' from fun W' hA => hK _ _ ⟨V, rfl, HV.st 6 rfl, fun h0 => absurd h0 (by unfold More; rw [if_pos rfl]; simp), fun h0 h1 => hA, fun h0 => absurd (more_ne h0 rfl) (by rw [(hC.no hL 9 _ rfl rfl)]; simp)⟩)
    have HU := Lib.hid (show (V) 5 = .pointer (some ⟨g5, 0, none⟩) ∧ (V) 1 = .int .u64 (q.addr : Nat) from ⟨e5, e1⟩)
    clear hK hC hW hL HV s0 s1 s2
    rw [HFR.out]
    rw [e5, e1]
    clear e5 e1
    have HB := Lib.hid hB
    clear hB
    refine wpList_store_one rfl rfl 28 (.tmp 13) (.tmp 9) rfl g5 0 69 (cP ⟨0, 0, n⟩) (.int .u64 (q.addr : Nat)) rfl rfl rfl HB.out.2.2.1 infoA (of_decide_eq_true rfl) rfl ?_
    intro w' kk gg
    have HA := Lib.hid (show HoJ w g2 g4 g5 q ⟨q.addr, 0, n⟩ w' from HB.out.put kk gg HNE.out.1 HNE.out.2.1 (Nat.le_trans (Nat.le_of_eq HG2.out) HNE.out.2.2))
    clear kk gg
    show K _ _
    have := H.out _ HA.out
    rw [HFR.out] at this
    obtain ⟨u5, u1⟩ := HU.out
    rw [u5, u1] at this
    exact this
  · rintro L A W K hL hC hW ⟨V, rfl, HV, s0, s1, s2⟩ hK
    have H := Lib.hid (show ∀ W', Ext W W' → K (fr (upd V 7 (.pointer (some ⟨g5, 0, none⟩)))) W' from fun W' he => hK _ _ ⟨upd V 7 (.pointer (some ⟨g5, 0, none⟩)), rfl, HV.up 7 _ (fun x hx => Option.some.inj hx), fun h0 => HoJ.ext (s0 (by unfold More at h0; rwa [if_neg (by decide)] at h0)) he, fun h0 h1 => HoJ.ext (s1 (more_ne h0 rfl) (by unfold More at h1; rwa [if_neg (by decide)] at h1)) he, fun h0 => HoJ.ext (s2 (more_ne h0 rfl)) he⟩)
    clear hK hC hW hL HV s0 s1 s2
    rw [HFR.out]
    go_wp2_with fail
    show K _ _
    have := H.out _ (Ext.refl _)
    rw [HFR.out] at this
    exact this
  · rintro L A W K hL hC hW ⟨V, rfl, HV, s0, s1, s2⟩ hK
    have e7 : V 7 = .pointer (some ⟨g5, 0, none⟩) := HV 7 _ rfl (hW 7 rfl)
    have H := Lib.hid (show ∀ W', Ext W W' → K (fr (upd V 8 (.pointer (some ⟨g5, 1, none⟩)))) W' from fun W' he => hK _ _ ⟨upd V 8 (.pointer (some ⟨g5, 1, none⟩)), rfl, HV.up 8 _ (fun x hx => Option.some.inj hx), fun h0 => HoJ.ext (s0 (by unfold More at h0; rwa [if_neg (by decide)] at h0)) he, fun h0 h1 => HoJ.ext (s1 (more_ne h0 rfl) (by unfold More at h1; rwa [if_neg (by decide)] at h1)) he, fun h0 => HoJ.ext (s2 (more_ne h0 rfl)) he⟩)
    have HU := Lib.hid (show (upd V 8 (.pointer (some ⟨g5, 1, none⟩))) 7 = .pointer (some ⟨g5, 0, none⟩) from e7)
    clear hK hC hW hL HV s0 s1 s2
    rw [HFR.out]
    rw [e7]
    clear e7
    go_wp2_with fail
    show K _ _
    have := H.out _ (Ext.refl _)
    rw [HFR.out] at this
    obtain u7 := HU.out
    rw [u7] at this
    exact this
  · rintro L A W K hL hC hW ⟨V, rfl, HV, s0, s1, s2⟩ hK
    have e8 : V 8 = .pointer (some ⟨g5, 1, none⟩) := HV 8 _ rfl (hW 8 rfl)
    have e3 : V 3 = wv q.key := HV 3 _ rfl (hW 3 rfl)
    have hB := s1 (hW 6 rfl) hL
    have H := Lib.hid (show ∀ W', (HoJ w g2 g4 g5 q ⟨q.addr, q.key, n⟩ W') → K (fr (V)) W' from fun W' hA => hK _ _ ⟨V, rfl, HV.st 9 rfl, fun h0 => absurd (show L 6 = false by unfold More at h0; rwa [if_neg (by decide)] at h0) (by rw [(hW 6 rfl)]; simp), fun h0 h1 => absurd h1 (by unfold More; rw [if_pos rfl]; simp), fun h0 => hA⟩)
    have HU := Lib.hid (show (V) 8 = .pointer (some ⟨g5, 1, none⟩) ∧ (V) 3 = wv q.key from ⟨e8, e3⟩)
    clear hK hC hW hL HV s0 s1 s2
    rw [HFR.out]
    rw [e8, e3]
    clear e8 e3
    have HB := Lib.hid hB
    clear hB
    refine wpList_store_in rfl rfl 30 (.tmp 15) (.tmp 11) rfl g5 1 69 (cP ⟨q.addr, 0, n⟩) (wc q.key) rfl rfl HB.out.2.2.1 winfo (of_decide_eq_true rfl) (wc_one q.key) ?_
    intro w' kk gg
    have HA := Lib.hid (show HoJ w g2 g4 g5 q ⟨q.addr, q.key, n⟩ w' from HB.out.put kk gg HNE.out.1 HNE.out.2.1 (Nat.le_trans (Nat.le_of_eq HG2.out) HNE.out.2.2))
    clear kk gg
    show K _ _
    have := H.out _ HA.out
    rw [HFR.out] at this
    obtain ⟨u8, u3⟩ := HU.out
    rw [u8, u3] at this
    exact this
  · rintro L A W hL ⟨V, rfl, HV, s0, s1, s2⟩
    have e0 : V 0 = .pointer (some ⟨g2, 0, none⟩) := HV 0 _ rfl (hL 0 (by simp))
    have e1 : V 1 = .int .u64 (q.addr : Nat) := HV 1 _ rfl (hL 1 (by simp))
    have e2 : V 2 = .pointer (some ⟨g2, 1, none⟩) := HV 2 _ rfl (hL 2 (by simp))
    have e3 : V 3 = wv q.key := HV 3 _ rfl (hL 3 (by simp))
    have e4 : V 4 = .pointer (some ⟨g5, 0, none⟩) := HV 4 _ rfl (hL 4 (by simp))
    have e5 : V 5 = .pointer (some ⟨g5, 0, none⟩) := HV 5 _ rfl (hL 5 (by simp))
    have e7 : V 7 = .pointer (some ⟨g5, 0, none⟩) := HV 7 _ rfl (hL 7 (by simp))
    have e8 : V 8 = .pointer (some ⟨g5, 1, none⟩) := HV 8 _ rfl (hL 8 (by simp))
    have hA := s2 (hL 9 (by simp))
    rw [HFR.out]
    rw [e0, e1, e2, e3, e4, e5, e7, e8]
    clear hL HV HFR e0 e1 e2 e3 e4 e5 e7 e8 s0 s1 s2
    have HA := Lib.hid hA
    have HRP := Lib.hid (Cs.rg hA.2.2.1)
    clear hA
    go_wp2_with (first
      | ((with_reducible refine wpList_loadP ?_ (.tmp 5) ?_ g5 0 ⟨q.addr, q.key, n⟩ ?_ ?_ ?_); (exact rfl); (exact rfl); (exact rfl); (exact HRP.out))
      | ((with_reducible refine wpList_storeP ?_ ?_ (.tmp 4) (.tmp 16) ?_ g4 pz0 ⟨q.addr, q.key, n⟩ ?_ ?_ ?_ ?_); (exact rfl); (exact rfl); (exact rfl); (exact rfl); (exact rfl); (exact HA.out.2.1); intro w5 k5 g5'; have K5 := Lib.hid k5; have G5 := Lib.hid g5'; clear k5 g5'))
    refine bodyPost_ret (results_pas Try.results39 _ _ g4 ⟨q.addr, q.key, n⟩ rfl K5.out) rfl ?_
    exact ⟨rfl, HA.out.2.2.2.grown G5.out HG4.out⟩
end Go.Proofs.Ytjampleddeidaaa
