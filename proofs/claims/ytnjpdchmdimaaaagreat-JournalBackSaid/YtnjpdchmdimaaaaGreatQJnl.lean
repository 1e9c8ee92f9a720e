/- Package journal: ahead; what is done at a mark. -/
import Derived.Test.YtnjpdchmdimaaaaGreatQJnk
namespace Go.Proofs.YtnjpdchmdimaaaaGreat
open Go.ChangeShapes Go.WideShapes Go.ChangeAt Go.RowKit Go.Shelf

theorem elem_ofJ {P : Program} {t e : TypeId} (h : P.underlying t = some (.slice e)) : P.elem t = e := by
 unfold Program.elem
 rw [h]
theorem run_sizeOf_ofJ {P : Program} {e : TypeId} {s : Nat} (h : (P.info? e).map (·.size) = some s) (w : World) : (sizeOf e).run P w = .ok s w := by
 obtain ⟨i, hi, hs⟩ := Option.map_eq_some_iff.1 h
 simp [sizeOf, typeInfo, hi, hs]
theorem wpList_slice_hm {P : Program} {w : World} {ops : Array Oper} {rest : List Oper} {o : Oper} {a : Act} {Q : Exit → Act → World → Prop} (hgd : Region.wanted o (yielded ops a.tmps) = true) (t e : TypeId) (x hi mx : Operand)
  (ho : o.op = .slice t x none (some hi) (some mx)) (ht : P.underlying t = some (.slice e)) {s : Nat} (hs : (P.info? e).map (·.size) = some s) (A : Option Addr) (m c n z : Nat) (k k2 : IntKind) (hx : a.eval x = .slice A m c) (hl : a.eval hi = .int k (n : Int)) (hh : a.eval mx = .int k2 (z : Int)) (hn : n ≤ z) (hz : z ≤ c)
  (h : wpList P ops Q rest (a.put o.dst (sliced A 0 n z s)) w) : wpList P ops Q (o :: rest) a w := by
 have hr := (run_sliceAt_slice (P := P) w t (.slice A m c) _ _ _ (by rw [elem_ofJ ht]; exact ht)).trans (run_slice_hm (P := P) w t A m c (by rw [elem_ofJ ht]; exact ht) k k2 (n : Int) (z : Int) (by omega) (by omega) (by omega))
 rw [elem_ofJ ht, run_sizeOf_ofJ hs] at hr
 simp only [Result.andThen, Int.toNat_natCast] at hr
 refine wpList_step fun K hK => ?_
 rw [if_pos hgd]
 unfold Oper.wp
 simp [execOp, ho, hx, hl, hh, hr, Result.andThen]
 exact hK _ _ h
theorem pos_ahead {W : World} {A : Option Addr} {n c : Nat} {l : List Po} (h : Pos W (.slice A n c) l) (k : Nat) (hk : k ≤ l.length) : ∃ A', sliced A 0 k k 6 = .slice A' k k ∧ Pos W (.slice A' k k) (l.take k) := by
 obtain ⟨A', c', e, h1, h2, h3⟩ := h
 injection e with e1 e2 e3
 subst e1
 have hl : (l.take k).length = k := by simp; omega
 by_cases h0 : k = 0
 ·subst h0
  refine ⟨A, ?_, A, 0, ?_, ?_, Nat.zero_le _, fun h => absurd h (by simp)⟩
  ·simp [sliced]
  ·rw [hl]
  ·rw [hl]; exact Nat.le_refl _
 ·obtain ⟨b, o, rfl, hc⟩ := h3 (by omega)
  refine ⟨some ⟨b, o, none⟩, ?_, some ⟨b, o, none⟩, k, ?_, ?_, Nat.le_trans (by omega) h2, fun _ => ⟨b, o, rfl, fun i x hx => hc i x ?_⟩⟩
  ·simp [sliced, h0, Addr.add]
  ·rw [hl]
  ·rw [hl]; exact Nat.le_refl _
  ·rw [List.getElem?_take] at hx
   split at hx
   ·exact hx
   ·cases hx
set_option maxRecDepth 100000 in
theorem infoPoS : (Tryz.prog.info? 37).map (·.size) = some 6 := by kernel_rfl
set_option maxRecDepth 100000 in
set_option maxHeartbeats 8000000 in
theorem ahead_any (A A' : Option Addr) (n c k : Nat) (w : World) (hk : k ≤ c) (hA : sliced A 0 k k 6 = .slice A' k k) :
  Calls Tryz.prog 69 #[.slice A n c, .int .i64 (k : Nat)] w fun e w' => e = .returned (.slice A' k k) ∧ Ext w w' := by
 have HA := Lib.hid hA
 clear hA
 go_enter Tryz.func69, Tryz.ntmps69
 go_wp2_with ((with_reducible refine wpList_slice_hm ?_ 38 37 (.tmp 5) (.tmp 6) (.tmp 7) ?_ Tryz.underlying38 infoPoS A n c k k .i64 .i64 ?_ ?_ ?_ ?_ ?_ ?_); (exact rfl); (exact rfl); (exact rfl); (exact rfl); (exact rfl); (exact (Nat.le_refl _)); (exact hk); rw [HA.out])
 go_ret
 exact ⟨rfl, Ext.refl _⟩
def EnJ (w W0 : World) (g gn : Nat) (n : Int) (cs : Array Value) (W : World) : Prop := Cs W g 40 cs ∧ Cs W gn 3 #[.int .i64 n] ∧ Below g W0 W ∧ Ext w W ∧ W0.heap.size ≤ W.heap.size
theorem EnJ.ext {w W0 : World} {g gn : Nat} {n : Int} {cs : Array Value} {W W' : World} (h : EnJ w W0 g gn n cs W) (he : Ext W W') : EnJ w W0 g gn n cs W' :=
 ⟨Cs.ext h.1 he, Cs.ext h.2.1 he, Below.trans h.2.2.1 (Below.mono he (Nat.le_of_lt h.1.lt)), h.2.2.2.1.trans he, Nat.le_trans h.2.2.2.2 he.size⟩
theorem EnJ.put {w W0 : World} {g gn : Nat} {n : Int} {cs cs' : Array Value} {W W' : World} (h : EnJ w W0 g gn n cs W) (hk : Cs W' g 40 cs') (hg : W.grownBy W' (some g)) (hn : gn ≠ g) (hw : w.heap.size ≤ g) : EnJ w W0 g gn n cs' W' :=
 ⟨hk, Cs.kept h.2.1 hg (fun e => hn (Option.some.inj e)), Below.trans h.2.2.1 (below_grown (Nat.le_of_lt h.1.lt) hg (fun _ e => Nat.le_of_eq (Option.some.inj e))), h.2.2.2.1.grown hg hw, Nat.le_trans h.2.2.2.2 hg.size⟩
set_option maxRecDepth 100000 in
set_option maxHeartbeats 8000000 in
theorem keepAt_any (g gn : Nat) (n : Int) (cs : Array Value) (w W0 W : World) (h : EnJ w W0 g gn n cs W) :
  Calls Tryz.prog 73 #[.pointer (some ⟨g, 0, none⟩)] W fun e w' => e = .returned (.tuple #[]) ∧ EnJ w W0 g gn n cs w' := by
 have HH := Lib.hid h
 clear h
 go_enter Tryz.func73, Tryz.ntmps73
 go_wp2_with fail
 refine bodyPost_end (results_none rfl _ _ _) rfl ?_
 exact ⟨rfl, HH.out⟩
set_option maxRecDepth 100000 in
set_option maxHeartbeats 8000000 in
theorem backAt_any (g gn gb k b o c : Nat) (n : Int) (l : List Po) (xu xv xz xa xs xq yu yv yz ya ys yq : Value) (w W0 W : World) (hk : k < l.length) (hn : gn ≠ g) (hw : w.heap.size ≤ g) (h : EnJ w W0 g gn n #[xu, xv, xz, xa, xs, xq, .slice (some ⟨b, o, none⟩) l.length c] W)
  (hb : Cs w gb 3 #[.int .i64 (k : Nat)]) (hp : w.rangeAt b (o + k * 6) [yu, yv, yz, ya, ys, yq]) (hon : (#[yu, yv, yz, ya, ys, yq] : Array Value).all (·.oneCell') = true) :
  Calls Tryz.prog 72 #[.pointer (some ⟨g, 0, none⟩), .pointer (some ⟨gb, 0, none⟩)] W fun e w' => e = .returned (.tuple #[]) ∧ EnJ w W0 g gn n #[yu, yv, yz, ya, ys, yq, .slice (some ⟨b, o, none⟩) l.length c] w' := by
 have HH := Lib.hid h
 have HON := Lib.hid hon
 have HGB := Lib.hid hb
 have HPT := Lib.hid (fun (V : World) (he : Ext w V) => show V.rangeAt b (o + k * 6) [yu, yv, yz, ya, ys, yq] from fun j x hx => he.cell (hp j x hx))
 have hd : decide (k < l.length) = true := decide_eq_true hk
 have hd2 : decide ((k : Int) < (l.length : Int)) = true := decide_eq_true (by omega)
 clear h hon hp hb
 go_enter Tryz.func72, Tryz.ntmps72
 refine wp_named fun a0 ha0 => ?_
 obtain ⟨fr, hfr⟩ : ∃ fr : (Nat → Value) → Act, ∀ V, fr V = ((((((((((a0.put (some 3) (V 0)).put (some 4) (V 1)).put (some 5) (V 2)).put (some 6) (V 3)).put (some 7) (V 4)).put (some 8) (V 5)).put (some 9) (V 6)).put (some 10) (V 7)).put (some 11) (V 8)).put (some 12) (V 9)) := ⟨_, fun _ => rfl⟩
 rw [ha0] at hfr
 simp only [Act.put, List.setIfInBounds_toArray, List.set_cons_zero, List.set_cons_succ] at hfr
 have HFR := Lib.hid hfr
 clear hfr
 refine wp_region_inv (by kernel_rfl) (by kernel_rfl) (fun L A W => ∃ V : Nat → Value, A = fr V ∧ Vals (fun j => ([some (.pointer (some ⟨g, 0, none⟩)), some (.pointer (some ⟨g, 0, none⟩)), some (.pointer (some ⟨g, 0, none⟩)), some (.pointer (some ⟨g, 6, none⟩)), some (.slice (some ⟨b, o, none⟩) l.length c), some (.int .i64 (k : Nat)), some (.pointer (some ⟨b, o + k * 6, none⟩)), some (.agg #[yu, yv, yz, ya, ys, yq]), some (.pointer (some ⟨g, 0, none⟩)), some (.pointer (some ⟨g, 0, none⟩)), none] : List (Option Value)).getD j none) L V ∧ (L 10 = false → EnJ w W0 g gn n #[xu, xv, xz, xa, xs, xq, .slice (some ⟨b, o, none⟩) l.length c] W) ∧ (L 10 = true → EnJ w W0 g gn n #[yu, yv, yz, ya, ys, yq, .slice (some ⟨b, o, none⟩) l.length c] W)) ?_ ⟨?_, ?_, ?_, ?_, ?_, ?_, ?_, ?_, ?_, ?_, ?_, trivial⟩ ?_
 ·refine ⟨fun j => a0.tmps.getD (([3, 4, 5, 6, 7, 8, 9, 10, 11, 12, 0] : List Nat).getD j 0) undef, ?_, Vals.no _ _ _ (far_none _ _ rfl), fun _ => HH.out.ext (Ext.refl _).drew, fun h0 => absurd h0 (by decide)⟩
  rw [HFR.out, ha0]
  rfl
 all_goals clear ha0
 ·rintro L A W K hL hC hW ⟨V, rfl, HV, s0, s1⟩ hK
  have H := Lib.hid (show ∀ W', Ext W W' → K (fr (upd V 0 (.pointer (some ⟨g, 0, none⟩)))) W' from fun W' he => hK _ _ ⟨_, rfl, HV.us 0 _ rfl, fun h0 => EnJ.ext (s0 (mnf h0 rfl)) he, fun h0 => EnJ.ext (s1 (more_ne h0 rfl)) he⟩)
  clear hK hC hW hL HV s0 s1
  rw [HFR.out]
  go_wp2_with fail
  show K _ _; have := H.out _ (Ext.refl _); rw [HFR.out] at this
  exact this
 ·rintro L A W K hL hC hW ⟨V, rfl, HV, s0, s1⟩ hK
  have H := Lib.hid (show ∀ W', Ext W W' → K (fr (upd V 1 (.pointer (some ⟨g, 0, none⟩)))) W' from fun W' he => hK _ _ ⟨_, rfl, HV.us 1 _ rfl, fun h0 => EnJ.ext (s0 (mnf h0 rfl)) he, fun h0 => EnJ.ext (s1 (more_ne h0 rfl)) he⟩)
  clear hK hC hW hL HV s0 s1
  rw [HFR.out]
  go_wp2_with fail
  show K _ _; have := H.out _ (Ext.refl _); rw [HFR.out] at this
  exact this
 ·rintro L A W K hL hC hW ⟨V, rfl, HV, s0, s1⟩ hK
  have e1 := HV 1 _ rfl (hW 1 rfl)
  have H := Lib.hid (show ∀ W', Ext W W' → K (fr (upd V 2 (.pointer (some ⟨g, 0, none⟩)))) W' from fun W' he => hK _ _ ⟨_, rfl, HV.us 2 _ rfl, fun h0 => EnJ.ext (s0 (mnf h0 rfl)) he, fun h0 => EnJ.ext (s1 (more_ne h0 rfl)) he⟩)
  have HU := Lib.hid (show (upd V 2 (.pointer (some ⟨g, 0, none⟩))) 1 = .pointer (some ⟨g, 0, none⟩) from e1)
  clear hK hC hW hL HV s0 s1
  rw [HFR.out, e1]
  clear e1
  go_wp2_with fail
  show K _ _; have := H.out _ (Ext.refl _); rw [HFR.out] at this
  obtain u1 := HU.out
  rw [u1] at this
  exact this
 ·rintro L A W K hL hC hW ⟨V, rfl, HV, s0, s1⟩ hK
  have e2 := HV 2 _ rfl (hW 2 rfl)
  have H := Lib.hid (show ∀ W', Ext W W' → K (fr (upd V 3 (.pointer (some ⟨g, 6, none⟩)))) W' from fun W' he => hK _ _ ⟨_, rfl, HV.us 3 _ rfl, fun h0 => EnJ.ext (s0 (mnf h0 rfl)) he, fun h0 => EnJ.ext (s1 (more_ne h0 rfl)) he⟩)
  have HU := Lib.hid (show (upd V 3 (.pointer (some ⟨g, 6, none⟩))) 2 = .pointer (some ⟨g, 0, none⟩) from e2)
  clear hK hC hW hL HV s0 s1
  rw [HFR.out, e2]
  clear e2
  go_wp2_with fail
  show K _ _; have := H.out _ (Ext.refl _); rw [HFR.out] at this
  obtain u2 := HU.out
  rw [u2] at this
  exact this
 ·rintro L A W K hL hC hW ⟨V, rfl, HV, s0, s1⟩ hK
  have e3 := HV 3 _ rfl (hW 3 rfl)
  have hB := s0 (hC.no (hC.no (hC.no hL 6 _ rfl rfl) 7 _ rfl rfl) 10 _ rfl rfl)
  have H := Lib.hid (show ∀ W', Ext W W' → K (fr (upd V 4 (.slice (some ⟨b, o, none⟩) l.length c))) W' from fun W' he => hK _ _ ⟨_, rfl, HV.us 4 _ rfl, fun h0 => EnJ.ext (s0 (mnf h0 rfl)) he, fun h0 => EnJ.ext (s1 (more_ne h0 rfl)) he⟩)
  have HU := Lib.hid (show (upd V 4 (.slice (some ⟨b, o, none⟩) l.length c)) 3 = .pointer (some ⟨g, 6, none⟩) from e3)
  clear hK hC hW hL HV s0 s1
  rw [HFR.out, e3]
  clear e3
  have hcl := hB.1.cell 6 _ rfl
  clear hB
  go_wp2_with fail
  show K _ _; have := H.out _ (Ext.refl _); rw [HFR.out] at this
  obtain u3 := HU.out
  rw [u3] at this
  exact this
 ·rintro L A W K hL hC hW ⟨V, rfl, HV, s0, s1⟩ hK
  have hB := s0 (hC.no (hC.no (hC.no hL 6 _ rfl rfl) 7 _ rfl rfl) 10 _ rfl rfl)
  have H := Lib.hid (show ∀ W', Ext W W' → K (fr (upd V 5 (.int .i64 (k : Nat)))) W' from fun W' he => hK _ _ ⟨_, rfl, HV.us 5 _ rfl, fun h0 => EnJ.ext (s0 (mnf h0 rfl)) he, fun h0 => EnJ.ext (s1 (more_ne h0 rfl)) he⟩)
  clear hK hC hW hL HV s0 s1
  rw [HFR.out]
  have hcl := (Cs.ext HGB.out hB.2.2.2.1).cell 0 _ rfl
  clear hB
  go_wp2_with fail
  show K _ _; have := H.out _ (Ext.refl _); rw [HFR.out] at this
  exact this
 ·rintro L A W K hL hC hW ⟨V, rfl, HV, s0, s1⟩ hK
  have e4 := HV 4 _ rfl (hW 4 rfl)
  have e5 := HV 5 _ rfl (hW 5 rfl)
  have H := Lib.hid (show ∀ W', Ext W W' → K (fr (upd V 6 (.pointer (some ⟨b, o + k * 6, none⟩)))) W' from fun W' he => hK _ _ ⟨_, rfl, HV.us 6 _ rfl, fun h0 => EnJ.ext (s0 (mnf h0 rfl)) he, fun h0 => EnJ.ext (s1 (more_ne h0 rfl)) he⟩)
  have HU := Lib.hid (show (upd V 6 (.pointer (some ⟨b, o + k * 6, none⟩))) 4 = .slice (some ⟨b, o, none⟩) l.length c ∧ (upd V 6 (.pointer (some ⟨b, o + k * 6, none⟩))) 5 = .int .i64 (k : Nat) from ⟨e4, e5⟩)
  clear hK hC hW hL HV s0 s1
  rw [HFR.out, e4, e5]
  clear e4 e5
  go_wp2_with fail
  show K _ _; have := H.out _ (Ext.refl _); rw [HFR.out] at this
  obtain ⟨u4, u5⟩ := HU.out
  rw [u4, u5] at this
  exact this
 ·rintro L A W K hL hC hW ⟨V, rfl, HV, s0, s1⟩ hK
  have e6 := HV 6 _ rfl (hW 6 rfl)
  have hB := s0 (hC.no hL 10 _ rfl rfl)
  have H := Lib.hid (show ∀ W', Ext W W' → K (fr (upd V 7 (.agg #[yu, yv, yz, ya, ys, yq]))) W' from fun W' he => hK _ _ ⟨_, rfl, HV.us 7 _ rfl, fun h0 => EnJ.ext (s0 (mnf h0 rfl)) he, fun h0 => EnJ.ext (s1 (more_ne h0 rfl)) he⟩)
  have HU := Lib.hid (show (upd V 7 (.agg #[yu, yv, yz, ya, ys, yq])) 6 = .pointer (some ⟨b, o + k * 6, none⟩) from e6)
  clear hK hC hW hL HV s0 s1
  rw [HFR.out, e6]
  clear e6
  have HRG := Lib.hid (HPT.out W hB.2.2.2.1)
  clear hB
  refine wpList_loadPo rfl (.tmp 9) rfl b (o + k * 6) yu yv yz ya ys yq rfl HRG.out ?_
  show K _ _; have := H.out _ (Ext.refl _); rw [HFR.out] at this
  obtain u6 := HU.out
  rw [u6] at this
  exact this
 ·rintro L A W K hL hC hW ⟨V, rfl, HV, s0, s1⟩ hK
  have e0 := HV 0 _ rfl (hW 0 rfl)
  have H := Lib.hid (show ∀ W', Ext W W' → K (fr (upd V 8 (.pointer (some ⟨g, 0, none⟩)))) W' from fun W' he => hK _ _ ⟨_, rfl, HV.us 8 _ rfl, fun h0 => EnJ.ext (s0 (mnf h0 rfl)) he, fun h0 => EnJ.ext (s1 (more_ne h0 rfl)) he⟩)
  have HU := Lib.hid (show (upd V 8 (.pointer (some ⟨g, 0, none⟩))) 0 = .pointer (some ⟨g, 0, none⟩) from e0)
  clear hK hC hW hL HV s0 s1
  rw [HFR.out, e0]
  clear e0
  go_wp2_with fail
  show K _ _; have := H.out _ (Ext.refl _); rw [HFR.out] at this
  obtain u0 := HU.out
  rw [u0] at this
  exact this
 ·rintro L A W K hL hC hW ⟨V, rfl, HV, s0, s1⟩ hK
  have e8 := HV 8 _ rfl (hW 8 rfl)
  have H := Lib.hid (show ∀ W', Ext W W' → K (fr (upd V 9 (.pointer (some ⟨g, 0, none⟩)))) W' from fun W' he => hK _ _ ⟨_, rfl, HV.us 9 _ rfl, fun h0 => EnJ.ext (s0 (mnf h0 rfl)) he, fun h0 => EnJ.ext (s1 (more_ne h0 rfl)) he⟩)
  have HU := Lib.hid (show (upd V 9 (.pointer (some ⟨g, 0, none⟩))) 8 = .pointer (some ⟨g, 0, none⟩) from e8)
  clear hK hC hW hL HV s0 s1
  rw [HFR.out, e8]
  clear e8
  go_wp2_with fail
  show K _ _; have := H.out _ (Ext.refl _); rw [HFR.out] at this
  obtain u8 := HU.out
  rw [u8] at this
  exact this
 ·rintro L A W K hL hC hW ⟨V, rfl, HV, s0, s1⟩ hK
  have e9 := HV 9 _ rfl (hW 9 rfl)
  have e7 := HV 7 _ rfl (hW 7 rfl)
  have hB := s0 hL
  have H := Lib.hid (show ∀ W', (EnJ w W0 g gn n #[yu, yv, yz, ya, ys, yq, .slice (some ⟨b, o, none⟩) l.length c] W') → K (fr (V)) W' from fun W' hA => hK _ _ ⟨V, rfl, HV.st 10 rfl, fun h0 => msf h0, fun h0 => hA⟩)
  have HU := Lib.hid (show (V) 9 = .pointer (some ⟨g, 0, none⟩) ∧ (V) 7 = .agg #[yu, yv, yz, ya, ys, yq] from ⟨e9, e7⟩)
  clear hK hC hW hL HV s0 s1
  rw [HFR.out, e9, e7]
  clear e9 e7
  have HB := Lib.hid hB
  clear hB
  refine wpList_store_in rfl rfl 37 (.tmp 12) (.tmp 10) rfl g 0 40 #[xu, xv, xz, xa, xs, xq, .slice (some ⟨b, o, none⟩) l.length c] #[yu, yv, yz, ya, ys, yq] rfl rfl HB.out.1 infoPo (of_decide_eq_true rfl) HON.out ?_
  intro w' kk gg
  have HA := Lib.hid (show EnJ w W0 g gn n #[yu, yv, yz, ya, ys, yq, .slice (some ⟨b, o, none⟩) l.length c] w' from HB.out.put kk gg hn hw)
  clear kk gg
  show K _ _; have := H.out _ HA.out; rw [HFR.out] at this
  obtain ⟨u9, u7⟩ := HU.out
  rw [u9, u7] at this
  exact this
 ·rintro L A W hL ⟨V, rfl, HV, s0, s1⟩
  have e0 := HV 0 _ rfl (hL 0 (by simp))
  have e1 := HV 1 _ rfl (hL 1 (by simp))
  have e2 := HV 2 _ rfl (hL 2 (by simp))
  have e3 := HV 3 _ rfl (hL 3 (by simp))
  have e4 := HV 4 _ rfl (hL 4 (by simp))
  have e5 := HV 5 _ rfl (hL 5 (by simp))
  have e6 := HV 6 _ rfl (hL 6 (by simp))
  have e7 := HV 7 _ rfl (hL 7 (by simp))
  have e8 := HV 8 _ rfl (hL 8 (by simp))
  have e9 := HV 9 _ rfl (hL 9 (by simp))
  have hA := s1 (hL 10 (by simp))
  rw [HFR.out, e0, e1, e2, e3, e4, e5, e6, e7, e8, e9]
  clear hL HV HFR e0 e1 e2 e3 e4 e5 e6 e7 e8 e9 s0 s1
  have HA := Lib.hid hA
  clear hA
  go_wp2_with fail
  refine bodyPost_end (results_none rfl _ _ _) rfl ?_
  exact ⟨rfl, HA.out⟩
end Go.Proofs.YtnjpdchmdimaaaaGreat
