/- Package nonce: keys, sequences, and how keys of addresses stand. -/
import Derived.Test.YtepggbhibpjkpaaNoa
import Derived.Test.YtepggbhibpjkpaaRcd
namespace Go.Proofs.Ytepggbhibpjkpaa
open Go.ChangeShapes Go.WideShapes Go.ChangeAt Go.RowKit Go.Shelf

def B64 : Nat := 18446744073709551616
def K192 : Nat := 6277101735386680763835789423207666416102355444464034512896
/-- Is it a key? Key and sequence of a word; the word of both. -/
def keyB (n : Nat) : Bool := lb n 3 == 0
def keyN (n : Nat) : Nat := n / B64
def seqN (n : Nat) : Nat := lb n 0
def jnN (k s : Nat) : Nat := k % K192 * B64 + s
set_option maxRecDepth 100000 in
theorem keyB_iff {n : Nat} (h : n < M256) : keyB n = true ↔ n < K192 := by
  unfold keyB
  rw [beq_iff_eq, lb3]
  unfold M256 at h
  unfold K192
  omega
set_option maxRecDepth 100000 in
theorem seqN_lt (n : Nat) : seqN n < 18446744073709551616 := lb_lt n 0
set_option maxRecDepth 100000 in
theorem keyN_lt {n : Nat} (h : n < M256) : keyN n < K192 := by
  unfold keyN B64 K192
  unfold M256 at h
  omega
set_option maxRecDepth 100000 in
theorem K192_lt {n : Nat} (h : n < K192) : n < M256 := by
  unfold K192 at h
  unfold M256
  omega
set_option maxRecDepth 100000 in
theorem jnN_lt (k s : Nat) (hs : s < 18446744073709551616) : jnN k s < M256 := by
  unfold jnN B64 K192 M256
  omega
set_option maxRecDepth 100000 in
theorem wc_split (n : Nat) (h : n < M256) : (#[.int .u64 (lb n 1 : Nat), .int .u64 (lb n 2 : Nat), .int .u64 (lb n 3 : Nat), .int .u64 0] : Array Value) = wc (keyN n) := by
  have e : keyN n = ofL (lb n 1) (lb n 2) (lb n 3) 0 := by
    rw [lb1, lb2, lb3]
    unfold keyN B64 ofL
    unfold M256 at h
    omega
  rw [e, wc_ofL _ _ _ _ (lb_lt _ _) (lb_lt _ _) (lb_lt _ _) (by decide)]
  rfl
set_option maxRecDepth 100000 in
theorem wc_join (k s : Nat) (hs : s < 18446744073709551616) : (#[.int .u64 (s : Nat), .int .u64 (lb k 0 : Nat), .int .u64 (lb k 1 : Nat), .int .u64 (lb k 2 : Nat)] : Array Value) = wc (jnN k s) := by
  have e : jnN k s = ofL s (lb k 0) (lb k 1) (lb k 2) := by
    rw [lb0, lb1, lb2]
    unfold jnN B64 K192 ofL
    omega
  rw [e, wc_ofL _ _ _ _ hs (lb_lt _ _) (lb_lt _ _) (lb_lt _ _)]
  rfl
set_option maxRecDepth 100000 in
theorem key_join (k s : Nat) (hk : k < K192) (hs : s < 18446744073709551616) : keyN (jnN k s) = k ∧ seqN (jnN k s) = s := by
  unfold seqN
  rw [lb0]
  unfold keyN jnN B64 K192 at *
  omega
set_option maxRecDepth 100000 in
theorem join_key (n : Nat) (h : n < M256) : jnN (keyN n) (seqN n) = n := by
  unfold seqN
  rw [lb0]
  unfold keyN jnN B64 K192
  unfold M256 at h
  omega
set_option maxRecDepth 100000 in
set_option maxHeartbeats 1000000 in
theorem isKey_any (n : Nat) (w : World) : Calls Try.prog 54 #[wv n] w fun e w' => e = .returned (.bool (keyB n)) ∧ Ext w w' := by
  unfold wv
  obtain ⟨w1, hw1⟩ : ∃ w1, w.alloc (.cells (wc n) 29) = w1 := ⟨_, rfl⟩
  have HW1 := Lib.hid hw1
  have k0 : Wd w1 w.heap.size 29 n := by rw [← hw1]; exact Cs.new w _ _ _ rfl
  have HE : Hid (Ext w w1) := Lib.hid (by rw [← hw1]; exact (Ext.refl w).alloc _)
  clear hw1
  have c3 := k0.cell 3 (by decide)
  clear k0
  go_enter Try.func54, Try.ntmps54
  go_upto_region 1 with fail
  rw [HW1.out]
  clear HW1
  have HK : Hid (keyB n = ((lb n 3 : Int) == 0)) := Lib.hid (by unfold keyB; rw [← int_beq]; rfl)
  generalize lb n 3 = x at *
  go_wp2_with fail
  go_ret
  exact ⟨by rw [HK.out]; rfl, HE.out⟩
set_option maxRecDepth 100000 in
set_option maxHeartbeats 1000000 in
theorem joined_any (k s : Nat) (w : World) (hs : s < 18446744073709551616) : Calls Try.prog 53 #[wv k, .int .u64 (s : Nat)] w fun e w' => e = .returned (wv (jnN k s)) ∧ Ext w w' := by
  have HW := Lib.hid (wc_join k s hs)
  clear hs
  unfold wv
  obtain ⟨w1, hw1⟩ : ∃ w1, (w.alloc (.cells (wc k) 29)).alloc (.cells (wc 0) 29) = w1 := ⟨_, rfl⟩
  have HW1 := Lib.hid hw1
  have k0 : Wd w1 w.heap.size 29 k := by rw [← hw1]; exact Cs.alloc (Cs.new _ _ _ _ rfl) _
  have HZ : Hid (Cs w1 (w.heap.size + 1) 29 (wc 0)) := Lib.hid (by rw [← hw1]; exact Cs.new _ _ _ _ (by simp))
  have HE : Hid (Ext w w1) := Lib.hid (by rw [← hw1]; exact ((Ext.refl w).alloc _).alloc _)
  clear hw1
  obtain ⟨c0, c1, c2, c3⟩ := k0.cs.four
  clear k0
  go_enter Try.func53, Try.ntmps53
  go_upto_region 1 with fail
  rw [show (w.alloc (.cells (wc k) 29)).alloc (.cells #[.int .u64 0, .int .u64 0, .int .u64 0, .int .u64 0] 29) = w1 from HW1.out]
  clear HW1
  generalize lb k 0 = x0 at *
  generalize lb k 1 = x1 at *
  generalize lb k 2 = x2 at *
  generalize lb k 3 = x3 at *
  go_wp2_with (first
    | ((with_reducible refine wpList_store_word ?_ ?_ 29 (.tmp 4) (.tmp 12) ?_ winfo (w.heap.size + 1) (wc 0) (jnN k s) ?_ ?_ ?_ ?_ ?_); (exact rfl); (exact rfl); (exact rfl); (exact rfl); (exact congrArg Value.agg HW.out); (exact HZ.out); (exact rfl); intro w9 k9 g9; have K9 := Lib.hid k9; have G9 := Lib.hid g9; clear k9 g9))
  refine bodyPost_ret (results_word Try.results53 _ _ (w.heap.size + 1) (jnN k s) rfl K9.out Try.underlying29 winfo) rfl ?_
  exact ⟨rfl, HE.out.grown G9.out (by omega)⟩
def SpJ (w : World) (g1 g2 n m : Nat) (W : World) : Prop := Cs W g1 29 (wc n) ∧ Cs W g2 29 (wc m) ∧ Ext w W
set_option maxRecDepth 100000 in
theorem SpJ.ext {w : World} {g1 g2 n m : Nat} {W W' : World} (h : SpJ w g1 g2 n m W) (he : Ext W W') : SpJ w g1 g2 n m W' := ⟨Cs.ext h.1 he, Cs.ext h.2.1 he, h.2.2.trans he⟩
set_option maxRecDepth 100000 in
set_option maxHeartbeats 1000000 in
theorem split_any (n : Nat) (w : World) (h : n < M256) : Calls Try.prog 27 #[wv n] w fun e w' => e = .returned (.tuple #[wv (keyN n), .int .u64 (seqN n : Nat)]) ∧ Ext w w' := by
  have HW := Lib.hid (wc_split n h)
  clear h
  unfold wv
  obtain ⟨w1, hw1⟩ : ∃ w1, (w.alloc (.cells (wc n) 29)).alloc (.cells (wc 0) 29) = w1 := ⟨_, rfl⟩
  have HW1 := Lib.hid hw1
  have HJ : Hid (SpJ w w.heap.size (w.heap.size + 1) n 0 w1) := Lib.hid (by
    rw [← hw1]
    exact ⟨Cs.alloc (Cs.new _ _ _ _ rfl) _, Cs.new _ _ _ _ (by simp), ((Ext.refl w).alloc _).alloc _⟩)
  clear hw1
  go_enter Try.func27, Try.ntmps27
  go_upto_region 1 with fail
  rw [show (w.alloc (.cells (wc n) 29)).alloc (.cells #[.int .u64 0, .int .u64 0, .int .u64 0, .int .u64 0] 29) = w1 from HW1.out]
  clear HW1
  obtain ⟨g2, hg2⟩ : ∃ g, w.heap.size + 1 = g := ⟨_, rfl⟩
  have HG := Lib.hid (show w.heap.size < g2 ∧ w.heap.size ≤ g2 by omega)
  rw [hg2] at HJ ⊢
  clear hg2
  obtain ⟨g1, hg1⟩ : ∃ g, w.heap.size = g := ⟨_, rfl⟩
  rw [show (w.heap.size < g2 ∧ w.heap.size ≤ g2) = (g1 < g2 ∧ w.heap.size ≤ g2) by rw [hg1]] at HG
  rw [hg1] at HJ ⊢
  clear hg1
  refine wp_named fun a0 ha0 => ?_
  obtain ⟨fr, hfr⟩ : ∃ fr : (Nat → Value) → Act, ∀ V, fr V = ((((((((((a0.put (some 4) (V 0)).put (some 5) (V 1)).put (some 6) (V 2)).put (some 7) (V 3)).put (some 8) (V 4)).put (some 9) (V 5)).put (some 10) (V 6)).put (some 11) (V 7)).put (some 12) (V 8)).put (some 3) (V 10)) := ⟨fun V => ((((((((((a0.put (some 4) (V 0)).put (some 5) (V 1)).put (some 6) (V 2)).put (some 7) (V 3)).put (some 8) (V 4)).put (some 9) (V 5)).put (some 10) (V 6)).put (some 11) (V 7)).put (some 12) (V 8)).put (some 3) (V 10)), fun _ => rfl⟩
  rw [ha0] at hfr
  simp only [Act.put, List.setIfInBounds_toArray, List.set_cons_zero, List.set_cons_succ] at hfr
  have HFR := Lib.hid hfr
  clear hfr
  refine wp_region_inv (by kernel_rfl) (by kernel_rfl) (fun L A W => ∃ V : Nat → Value, A = fr V ∧ Vals (fun j => ([some (.pointer (some ⟨g1, 1, none⟩)), some (.int .u64 (lb n 1 : Nat)), some (.pointer (some ⟨g1, 2, none⟩)), some (.int .u64 (lb n 2 : Nat)), some (.pointer (some ⟨g1, 3, none⟩)), some (.int .u64 (lb n 3 : Nat)), some (.agg #[.int .u64 (lb n 1 : Nat), .int .u64 (lb n 2 : Nat), .int .u64 (lb n 3 : Nat), .int .u64 0]), some (.pointer (some ⟨g1, 0, none⟩)), some (.int .u64 (lb n 0 : Nat)), none, some (.int .u64 (lb n 0 : Nat))] : List (Option Value)).getD j none) L V ∧ (L 9 = false → SpJ w g1 g2 n 0 W) ∧ (L 9 = true → SpJ w g1 g2 n (keyN n) W)) ?_ ⟨?_, ?_, ?_, ?_, ?_, ?_, ?_, ?_, ?_, ?_, ?_, trivial⟩ ?_
  · refine ⟨fun j => a0.tmps.getD (([4, 5, 6, 7, 8, 9, 10, 11, 12, 0, 3] : List Nat).getD j 0) undef, ?_, Vals.no _ _ _ (far_none _ _ rfl), fun _ => HJ.out.ext ((Ext.refl _).drew), fun h0 => absurd h0 (by decide)⟩
    rw [HFR.out, ha0]
    rfl
  all_goals clear ha0
  · rintro L A W K hL hC hW ⟨V, rfl, HV, s0, s1⟩ hK
    have H := Lib.hid (show ∀ W', Ext W W' → K (fr (upd V 0 (.pointer (some ⟨g1, 1, none⟩)))) W' from fun W' he => hK _ _ ⟨upd V 0 (.pointer (some ⟨g1, 1, none⟩)), rfl, HV.up 0 _ (fun x hx => Option.some.inj hx), fun h0 => SpJ.ext (s0 (by unfold More at h0; rwa [if_neg (by decide)] at h0)) he, fun h0 => SpJ.ext (s1 (more_ne h0 rfl)) he⟩)
    clear hK hC hW hL HV s0 s1
    rw [HFR.out]
    go_wp2_with fail
    show K _ _
    have := H.out _ (Ext.refl _)
    rw [HFR.out] at this
    exact this
  · rintro L A W K hL hC hW ⟨V, rfl, HV, s0, s1⟩ hK
    have e0 : V 0 = .pointer (some ⟨g1, 1, none⟩) := HV 0 _ rfl (hW 0 rfl)
    have hB : Cs W g1 29 (wc n) := by
      cases h9 : L 9 with
      | false => exact (s0 h9).1
      | true => exact (s1 h9).1
    have H := Lib.hid (show ∀ W', Ext W W' → K (fr (upd V 1 (.int .u64 (lb n 1 : Nat)))) W' from fun W' he => hK _ _ ⟨upd V 1 (.int .u64 (lb n 1 : Nat)), rfl, HV.up 1 _ (fun x hx => Option.some.inj hx), fun h0 => SpJ.ext (s0 (by unfold More at h0; rwa [if_neg (by decide)] at h0)) he, fun h0 => SpJ.ext (s1 (more_ne h0 rfl)) he⟩)
    have HU := Lib.hid (show (upd V 1 (.int .u64 (lb n 1 : Nat))) 0 = .pointer (some ⟨g1, 1, none⟩) from e0)
    clear hK hC hW hL HV s0 s1
    rw [HFR.out]
    rw [e0]
    clear e0
    have qq := hB.cell 1 _ (wc_get n 1 (by decide))
    unfold lv at qq
    clear hB
    go_wp2_with fail
    show K _ _
    have := H.out _ (Ext.refl _)
    rw [HFR.out] at this
    obtain u0 := HU.out
    rw [u0] at this
    exact this
  · rintro L A W K hL hC hW ⟨V, rfl, HV, s0, s1⟩ hK
    have H := Lib.hid (show ∀ W', Ext W W' → K (fr (upd V 2 (.pointer (some ⟨g1, 2, none⟩)))) W' from fun W' he => hK _ _ ⟨upd V 2 (.pointer (some ⟨g1, 2, none⟩)), rfl, HV.up 2 _ (fun x hx => Option.some.inj hx), fun h0 => SpJ.ext (s0 (by unfold More at h0; rwa [if_neg (by decide)] at h0)) he, fun h0 => SpJ.ext (s1 (more_ne h0 rfl)) he⟩)
    clear hK hC hW hL HV s0 s1
    rw [HFR.out]
    go_wp2_with fail
    show K _ _
    have := H.out _ (Ext.refl _)
    rw [HFR.out] at this
    exact this
  · rintro L A W K hL hC hW ⟨V, rfl, HV, s0, s1⟩ hK
    have e2 : V 2 = .pointer (some ⟨g1, 2, none⟩) := HV 2 _ rfl (hW 2 rfl)
    have hB : Cs W g1 29 (wc n) := by
      cases h9 : L 9 with
      | false => exact (s0 h9).1
      | true => exact (s1 h9).1
    have H := Lib.hid (show ∀ W', Ext W W' → K (fr (upd V 3 (.int .u64 (lb n 2 : Nat)))) W' from fun W' he => hK _ _ ⟨upd V 3 (.int .u64 (lb n 2 : Nat)), rfl, HV.up 3 _ (fun x hx => Option.some.inj hx), fun h0 => SpJ.ext (s0 (by unfold More at h0; rwa [if_neg (by decide)] at h0)) he, fun h0 => SpJ.ext (s1 (more_ne h0 rfl)) he⟩)
    have HU := Lib.hid (show (upd V 3 (.int .u64 (lb n 2 : Nat))) 2 = .pointer (some ⟨g1, 2, none⟩) from e2)
    clear hK hC hW hL HV s0 s1
    rw [HFR.out]
    rw [e2]
    clear e2
    have qq := hB.cell 2 _ (wc_get n 2 (by decide))
    unfold lv at qq
    clear hB
    go_wp2_with fail
    show K _ _
    have := H.out _ (Ext.refl _)
    rw [HFR.out] at this
    obtain u2 := HU.out
    rw [u2] at this
    exact this
  · rintro L A W K hL hC hW ⟨V, rfl, HV, s0, s1⟩ hK
    have H := Lib.hid (show ∀ W', Ext W W' → K (fr (upd V 4 (.pointer (some ⟨g1, 3, none⟩)))) W' from fun W' he => hK _ _ ⟨upd V 4 (.pointer (some ⟨g1, 3, none⟩)), rfl, HV.up 4 _ (fun x hx => Option.some.inj hx), fun h0 => SpJ.ext (s0 (by unfold More at h0; rwa [if_neg (by decide)] at h0)) he, fun h0 => SpJ.ext (s1 (more_ne h0 rfl)) he⟩)
    clear hK hC hW hL HV s0 s1
    rw [HFR.out]
    go_wp2_with fail
    show K _ _
    have := H.out _ (Ext.refl _)
    rw [HFR.out] at this
    exact this
  · rintro L A W K hL hC hW ⟨V, rfl, HV, s0, s1⟩ hK
    have e4 : V 4 = .pointer (some ⟨g1, 3, none⟩) := HV 4 _ rfl (hW 4 rfl)
    have hB : Cs W g1 29 (wc n) := by
      cases h9 : L 9 with
      | false => exact (s0 h9).1
      | true => exact (s1 h9).1
    have H := Lib.hid (show ∀ W', Ext W W' → K (fr (upd V 5 (.int .u64 (lb n 3 : Nat)))) W' from fun W' he => hK _ _ ⟨upd V 5 (.int .u64 (lb n 3 : Nat)), rfl, HV.up 5 _ (fun x hx => Option.some.inj hx), fun h0 => SpJ.ext (s0 (by unfold More at h0; rwa [if_neg (by decide)] at h0)) he, fun h0 => SpJ.ext (s1 (more_ne h0 rfl)) he⟩)
    have HU := Lib.hid (show (upd V 5 (.int .u64 (lb n 3 : Nat))) 4 = .pointer (some ⟨g1, 3, none⟩) from e4)
    clear hK hC hW hL HV s0 s1
    rw [HFR.out]
    rw [e4]
    clear e4
    have qq := hB.cell 3 _ (wc_get n 3 (by decide))
    unfold lv at qq
    clear hB
    go_wp2_with fail
    show K _ _
    have := H.out _ (Ext.refl _)
    rw [HFR.out] at this
    obtain u4 := HU.out
    rw [u4] at this
    exact this
  · rintro L A W K hL hC hW ⟨V, rfl, HV, s0, s1⟩ hK
    have e1 : V 1 = .int .u64 (lb n 1 : Nat) := HV 1 _ rfl (hW 1 rfl)
    have e3 : V 3 = .int .u64 (lb n 2 : Nat) := HV 3 _ rfl (hW 3 rfl)
    have e5 : V 5 = .int .u64 (lb n 3 : Nat) := HV 5 _ rfl (hW 5 rfl)
    have H := Lib.hid (show ∀ W', Ext W W' → K (fr (upd V 6 (.agg #[.int .u64 (lb n 1 : Nat), .int .u64 (lb n 2 : Nat), .int .u64 (lb n 3 : Nat), .int .u64 0]))) W' from fun W' he => hK _ _ ⟨upd V 6 (.agg #[.int .u64 (lb n 1 : Nat), .int .u64 (lb n 2 : Nat), .int .u64 (lb n 3 : Nat), .int .u64 0]), rfl, HV.up 6 _ (fun x hx => Option.some.inj hx), fun h0 => SpJ.ext (s0 (by unfold More at h0; rwa [if_neg (by decide)] at h0)) he, fun h0 => SpJ.ext (s1 (more_ne h0 rfl)) he⟩)
    have HU := Lib.hid (show (upd V 6 (.agg #[.int .u64 (lb n 1 : Nat), .int .u64 (lb n 2 : Nat), .int .u64 (lb n 3 : Nat), .int .u64 0])) 1 = .int .u64 (lb n 1 : Nat) ∧ (upd V 6 (.agg #[.int .u64 (lb n 1 : Nat), .int .u64 (lb n 2 : Nat), .int .u64 (lb n 3 : Nat), .int .u64 0])) 3 = .int .u64 (lb n 2 : Nat) ∧ (upd V 6 (.agg #[.int .u64 (lb n 1 : Nat), .int .u64 (lb n 2 : Nat), .int .u64 (lb n 3 : Nat), .int .u64 0])) 5 = .int .u64 (lb n 3 : Nat) from ⟨e1, e3, e5⟩)
    clear hK hC hW hL HV s0 s1
    rw [HFR.out]
    rw [e1, e3, e5]
    clear e1 e3 e5
    go_wp2_with fail
    show K _ _
    have := H.out _ (Ext.refl _)
    rw [HFR.out] at this
    obtain ⟨u1, u3, u5⟩ := HU.out
    rw [u1, u3, u5] at this
    exact this
  · rintro L A W K hL hC hW ⟨V, rfl, HV, s0, s1⟩ hK
    have H := Lib.hid (show ∀ W', Ext W W' → K (fr (upd V 7 (.pointer (some ⟨g1, 0, none⟩)))) W' from fun W' he => hK _ _ ⟨upd V 7 (.pointer (some ⟨g1, 0, none⟩)), rfl, HV.up 7 _ (fun x hx => Option.some.inj hx), fun h0 => SpJ.ext (s0 (by unfold More at h0; rwa [if_neg (by decide)] at h0)) he, fun h0 => SpJ.ext (s1 (more_ne h0 rfl)) he⟩)
    clear hK hC hW hL HV s0 s1
    rw [HFR.out]
    go_wp2_with fail
    show K _ _
    have := H.out _ (Ext.refl _)
    rw [HFR.out] at this
    exact this
  · rintro L A W K hL hC hW ⟨V, rfl, HV, s0, s1⟩ hK
    have e7 : V 7 = .pointer (some ⟨g1, 0, none⟩) := HV 7 _ rfl (hW 7 rfl)
    have hB : Cs W g1 29 (wc n) := by
      cases h9 : L 9 with
      | false => exact (s0 h9).1
      | true => exact (s1 h9).1
    have H := Lib.hid (show ∀ W', Ext W W' → K (fr (upd V 8 (.int .u64 (lb n 0 : Nat)))) W' from fun W' he => hK _ _ ⟨upd V 8 (.int .u64 (lb n 0 : Nat)), rfl, HV.up 8 _ (fun x hx => Option.some.inj hx), fun h0 => SpJ.ext (s0 (by unfold More at h0; rwa [if_neg (by decide)] at h0)) he, fun h0 => SpJ.ext (s1 (more_ne h0 rfl)) he⟩)
    have HU := Lib.hid (show (upd V 8 (.int .u64 (lb n 0 : Nat))) 7 = .pointer (some ⟨g1, 0, none⟩) from e7)
    clear hK hC hW hL HV s0 s1
    rw [HFR.out]
    rw [e7]
    clear e7
    have qq := hB.cell 0 _ (wc_get n 0 (by decide))
    unfold lv at qq
    clear hB
    go_wp2_with fail
    show K _ _
    have := H.out _ (Ext.refl _)
    rw [HFR.out] at this
    obtain u7 := HU.out
    rw [u7] at this
    exact this
  · rintro L A W K hL hC hW ⟨V, rfl, HV, s0, s1⟩ hK
    have e6 : V 6 = .agg #[.int .u64 (lb n 1 : Nat), .int .u64 (lb n 2 : Nat), .int .u64 (lb n 3 : Nat), .int .u64 0] := HV 6 _ rfl (hW 6 rfl)
    have hB := s0 hL
    have H := Lib.hid (show ∀ W', (SpJ w g1 g2 n (keyN n) W') → K (fr (V)) W' from fun W' hA => hK _ _ ⟨V, rfl, HV.st 9 rfl, fun h0 => absurd h0 (by unfold More; rw [if_pos rfl]; simp), fun h0 => hA⟩)
    have HU := Lib.hid (show (V) 6 = .agg #[.int .u64 (lb n 1 : Nat), .int .u64 (lb n 2 : Nat), .int .u64 (lb n 3 : Nat), .int .u64 0] from e6)
    clear hK hC hW hL HV s0 s1
    rw [HFR.out]
    rw [e6]
    clear e6
    have HB' := Lib.hid hB
    clear hB
    refine wpList_store_word rfl rfl 29 (.tmp 2) (.tmp 10) rfl winfo g2 (wc 0) (keyN n) rfl (congrArg Value.agg HW.out) HB'.out.2.1 rfl ?_
    intro w' kk gg
    have HA := Lib.hid (show SpJ w g1 g2 n (keyN n) w' from ⟨Cs.kept HB'.out.1 gg (some_ne (by have := HG.out; omega)), kk, HB'.out.2.2.grown gg HG.out.2⟩)
    clear kk gg
    show K _ _
    have := H.out _ HA.out
    rw [HFR.out] at this
    obtain u6 := HU.out
    rw [u6] at this
    exact this
  · rintro L A W K hL hC hW ⟨V, rfl, HV, s0, s1⟩ hK
    have e8 : V 8 = .int .u64 (lb n 0 : Nat) := HV 8 _ rfl (hW 8 rfl)
    have H := Lib.hid (show ∀ W', Ext W W' → K (fr (upd V 10 (.int .u64 (lb n 0 : Nat)))) W' from fun W' he => hK _ _ ⟨upd V 10 (.int .u64 (lb n 0 : Nat)), rfl, HV.up 10 _ (fun x hx => Option.some.inj hx), fun h0 => SpJ.ext (s0 (by unfold More at h0; rwa [if_neg (by decide)] at h0)) he, fun h0 => SpJ.ext (s1 (more_ne h0 rfl)) he⟩)
    have HU := Lib.hid (show (upd V 10 (.int .u64 (lb n 0 : Nat))) 8 = .int .u64 (lb n 0 : Nat) from e8)
    clear hK hC hW hL HV s0 s1
    rw [HFR.out]
    rw [e8]
    clear e8
    go_wp2_with fail
    show K _ _
    have := H.out _ (Ext.refl _)
    rw [HFR.out] at this
    obtain u8 := HU.out
    rw [u8] at this
    exact this
  · rintro L A W hL ⟨V, rfl, HV, s0, s1⟩
    have e0 : V 0 = .pointer (some ⟨g1, 1, none⟩) := HV 0 _ rfl (hL 0 (by simp))
    have e1 : V 1 = .int .u64 (lb n 1 : Nat) := HV 1 _ rfl (hL 1 (by simp))
    have e2 : V 2 = .pointer (some ⟨g1, 2, none⟩) := HV 2 _ rfl (hL 2 (by simp))
    have e3 : V 3 = .int .u64 (lb n 2 : Nat) := HV 3 _ rfl (hL 3 (by simp))
    have e4 : V 4 = .pointer (some ⟨g1, 3, none⟩) := HV 4 _ rfl (hL 4 (by simp))
    have e5 : V 5 = .int .u64 (lb n 3 : Nat) := HV 5 _ rfl (hL 5 (by simp))
    have e6 : V 6 = .agg #[.int .u64 (lb n 1 : Nat), .int .u64 (lb n 2 : Nat), .int .u64 (lb n 3 : Nat), .int .u64 0] := HV 6 _ rfl (hL 6 (by simp))
    have e7 : V 7 = .pointer (some ⟨g1, 0, none⟩) := HV 7 _ rfl (hL 7 (by simp))
    have e8 : V 8 = .int .u64 (lb n 0 : Nat) := HV 8 _ rfl (hL 8 (by simp))
    have e10 : V 10 = .int .u64 (lb n 0 : Nat) := HV 10 _ rfl (hL 10 (by simp))
    have hA := s1 (hL 9 (by simp))
    rw [HFR.out]
    rw [e0, e1, e2, e3, e4, e5, e6, e7, e8, e10]
    clear hL HV HFR e0 e1 e2 e3 e4 e5 e6 e7 e8 e10 s0 s1
    have HAA := Lib.hid hA
    clear hA
    go_wp2_with fail
    refine bodyPost_ret (results_word_tmp Try.results27 _ _ g2 (keyN n) rfl HAA.out.2.1 Try.underlying29 winfo) rfl ?_
    exact ⟨rfl, HAA.out.2.2⟩
/-- Join's word; its error. -/
def jwN (k s : Nat) : Nat := if keyB k then jnN k s else 0
def jeN (k : Nat) : Int := if keyB k then 0 else 2
set_option maxRecDepth 100000 in
set_option maxHeartbeats 1000000 in
theorem join_any (k s : Nat) (w : World) (hs : s < 18446744073709551616) : Calls Try.prog 29 #[wv k, .int .u64 (s : Nat)] w fun e w' => e = .returned (.tuple #[wv (jwN k s), .int .i64 (jeN k)]) ∧ Ext w w' := by
  have HS := Lib.hid hs
  clear hs
  obtain ⟨w1, hw1⟩ : ∃ w1, (w.alloc (.cells (wc k) 29)).alloc (.cells (wc 0) 29) = w1 := ⟨_, rfl⟩
  have HW1 := Lib.hid hw1
  have HK : Hid (Wd w1 w.heap.size 29 k) := Lib.hid (by rw [← hw1]; exact Cs.alloc (Cs.new _ _ _ _ rfl) _)
  have HZ : Hid (Cs w1 (w.heap.size + 1) 29 (wc 0)) := Lib.hid (by rw [← hw1]; exact Cs.new _ _ _ _ (by simp))
  have HE : Hid (Ext w w1) := Lib.hid (by rw [← hw1]; exact ((Ext.refl w).alloc _).alloc _)
  clear hw1
  rw [show wv k = .agg (wc k) from rfl]
  go_enter Try.func29, Try.ntmps29
  go_upto_region 1 with fail
  rw [show (w.alloc (.cells (wc k) 29)).alloc (.cells #[.int .u64 0, .int .u64 0, .int .u64 0, .int .u64 0] 29) = w1 from HW1.out]
  clear HW1
  go_wp2_with (first
    | ((with_reducible refine wpList_load_word ?_ 29 26 (.tmp 2) ?_ Try.underlying29 winfo w.heap.size k ?_ HK.out ?_); (exact rfl); (exact rfl); (exact rfl)))
  refine (isKey_any k _).mono ?_
  rintro e w2 ⟨rfl, he⟩
  have HE2 := Lib.hid (HE.out.trans he)
  have HK2 := Lib.hid (Wd.ext HK.out he)
  have HZ2 := Lib.hid (Cs.ext HZ.out he)
  have HN := Lib.hid (show w.heap.size ≤ w.heap.size + 1 by omega)
  clear he HK HZ HE
  cases hb : keyB k with
  | false =>
    have HJW := Lib.hid (show jwN k s = 0 ∧ jeN k = 2 by unfold jwN jeN; rw [hb]; exact ⟨rfl, rfl⟩)
    clear hb
    go_wp2_with (first
      | ((with_reducible refine wpList_store_word ?_ ?_ 29 (.tmp 4) (.tmp 9) ?_ winfo (w.heap.size + 1) (wc 0) 0 ?_ ?_ ?_ ?_ ?_); (exact rfl); (exact rfl); (exact rfl); (exact rfl); (exact rfl); (exact HZ2.out); (exact rfl); intro w9 k9 g9; have K9 := Lib.hid k9; have G9 := Lib.hid g9; clear k9 g9))
    refine bodyPost_ret (results_word_tmp Try.results29 _ _ (w.heap.size + 1) 0 rfl K9.out Try.underlying29 winfo) rfl ?_
    exact ⟨by rw [HJW.out.1, HJW.out.2]; rfl, HE2.out.grown G9.out HN.out⟩
  | true =>
    have HJW := Lib.hid (show jwN k s = jnN k s ∧ jeN k = 0 by unfold jwN jeN; rw [hb]; exact ⟨rfl, rfl⟩)
    clear hb
    go_wp2_with (first
      | ((with_reducible refine wpList_load_word ?_ 29 26 (.tmp 2) ?_ Try.underlying29 winfo w.heap.size k ?_ HK2.out ?_); (exact rfl); (exact rfl); (exact rfl)))
    refine (joined_any k s _ HS.out).mono ?_
    rintro e w3 ⟨rfl, he⟩
    have HE3 := Lib.hid (HE2.out.trans he)
    have HZ3 := Lib.hid (Cs.ext HZ2.out he)
    clear he
    go_wp2_with (first
      | ((with_reducible refine wpList_store_word ?_ ?_ 29 (.tmp 4) (.tmp 12) ?_ winfo (w.heap.size + 1) (wc 0) (jnN k s) ?_ ?_ ?_ ?_ ?_); (exact rfl); (exact rfl); (exact rfl); (exact rfl); (exact rfl); (exact HZ3.out); (exact rfl); intro w9 k9 g9; have K9 := Lib.hid k9; have G9 := Lib.hid g9; clear k9 g9))
    refine bodyPost_ret (results_word_tmp Try.results29 _ _ (w.heap.size + 1) (jnN k s) rfl K9.out Try.underlying29 winfo) rfl ?_
    exact ⟨by rw [HJW.out.1, HJW.out.2]; rfl, HE3.out.grown G9.out HN.out⟩
set_option maxRecDepth 100000 in
theorem results_ok {fn : Func} {q : Tmp} (h : fn.results = #[.cell q 102]) (tmps : Array Value) (w : World) (g a k : Nat) (hp : tmps.getD q undef = .pointer (some ⟨g, 0, none⟩)) (hg : Kb w g a k) : (results fn tmps).run Try.prog w = .ok (.agg (okc a k)) w :=
  results_cell_row h tmps w g 102 (okc a k) (0, 0) _ hp hg Try.underlying102 rfl okinfo
set_option maxRecDepth 100000 in
set_option maxHeartbeats 1000000 in
theorem keyOf_any (p : Nn) (w : World) : Calls Try.prog 50 #[.agg (nnc p)] w fun e w' => e = .returned (.agg (okc p.addr p.key)) ∧ Ext w w' := by
  obtain ⟨w1, hw1⟩ : ∃ w1, (w.alloc (.cells (nnc p) 38)).alloc (.cells (okc 0 0) 102) = w1 := ⟨_, rfl⟩
  have HW1 := Lib.hid hw1
  have HP : Hid (Nb6 w1 w.heap.size p) := Lib.hid (by rw [← hw1]; exact Cs.alloc (Cs.new _ _ _ _ rfl) _)
  have HZ : Hid (Kb w1 (w.heap.size + 1) 0 0) := Lib.hid (by rw [← hw1]; exact Cs.new _ _ _ _ (by simp))
  have HE : Hid (Ext w w1) := Lib.hid (by rw [← hw1]; exact ((Ext.refl w).alloc _).alloc _)
  clear hw1
  have c0 := HP.out.addr
  have HKY := Lib.hid HP.out.key
  obtain ⟨cs, hcs⟩ : ∃ cs, nnc p = cs := ⟨_, rfl⟩
  rw [hcs] at HW1 ⊢
  clear hcs
  obtain ⟨ad, ky, nx⟩ := p
  dsimp only at *
  go_enter Try.func50, Try.ntmps50
  go_upto_region 1 with fail
  rw [show (w.alloc (.cells cs 38)).alloc (.cells #[.int .u64 0, .int .u64 0, .int .u64 0, .int .u64 0, .int .u64 0] 102) = w1 from HW1.out]
  clear HW1
  go_wp2_with (first
    | ((with_reducible refine wpList_load_wordIn ?_ (.tmp 5) ?_ w.heap.size 1 ky ?_ ?_ ?_); (exact rfl); (exact rfl); (exact rfl); (exact HKY.out); (unfold wv wc))
    | ((with_reducible refine wpList_store_ok ?_ ?_ (.tmp 2) (.tmp 7) ?_ (w.heap.size + 1) 0 0 ad ky ?_ ?_ ?_ ?_); (exact rfl); (exact rfl); (exact rfl); (exact rfl); (exact rfl); (exact HZ.out); intro w9 k9 g9; have K9 := Lib.hid k9; have G9 := Lib.hid g9; clear k9 g9))
  refine bodyPost_ret (results_ok Try.results50 _ _ (w.heap.size + 1) ad ky rfl K9.out) rfl ?_
  exact ⟨rfl, HE.out.grown G9.out (by omega)⟩
/-- A nonce may be, whatever stands beside it. -/
def Nn.mayB (p : Nn) : Bool := p.addr != 0 && (keyB p.key && decide (0 < p.nxt))
set_option maxRecDepth 100000 in
set_option maxHeartbeats 1000000 in
theorem mayBeN_any (p : Nn) (w : World) : Calls Try.prog 48 #[.agg (nnc p)] w fun e w' => e = .returned (.bool p.mayB) ∧ Ext w w' := by
  obtain ⟨w1, hw1⟩ : ∃ w1, w.alloc (.cells (nnc p) 38) = w1 := ⟨_, rfl⟩
  have HW1 := Lib.hid hw1
  have HP : Hid (Nb6 w1 w.heap.size p) := Lib.hid (by rw [← hw1]; exact Cs.new _ _ _ _ rfl)
  have HE : Hid (Ext w w1) := Lib.hid (by rw [← hw1]; exact (Ext.refl w).alloc _)
  clear hw1
  have c0 := HP.out.addr
  have HKY := Lib.hid HP.out.key
  have HM : Hid (p.mayB = (p.addr != 0 && (keyB p.key && decide (0 < p.nxt)))) := Lib.hid rfl
  obtain ⟨cs, hcs⟩ : ∃ cs, nnc p = cs := ⟨_, rfl⟩
  rw [hcs] at HW1 ⊢
  clear hcs
  obtain ⟨ad, ky, nx⟩ := p
  dsimp only at *
  go_enter Try.func48, Try.ntmps48
  go_upto_region 1 with fail
  rw [HW1.out]
  clear HW1
  by_cases h0 : ad = 0
  · have f0 : (((ad : Nat) : Int) != 0) = false := by simp [h0]
    have H0 := Lib.hid h0
    clear h0
    go_wp2_with fail
    go_ret
    exact ⟨by rw [HM.out, H0.out]; rfl, HE.out⟩
  · have f0 : (((ad : Nat) : Int) != 0) = true := by simp; omega
    have H0 := Lib.hid (show (ad != 0) = true by simpa using h0)
    clear h0
    go_wp2_with (first
      | ((with_reducible refine wpList_load_wordIn ?_ (.tmp 7) ?_ w.heap.size 1 ky ?_ ?_ ?_); (exact rfl); (exact rfl); (exact rfl); (exact HKY.out)))
    refine (isKey_any ky _).mono ?_
    rintro e w2 ⟨rfl, he⟩
    have HE2 := Lib.hid (HE.out.trans he)
    have c5 := (HP.out.ext he).nxt
    clear he c0
    cases hb : keyB ky with
    | false =>
      have HB := Lib.hid hb
      clear hb
      go_wp2_with fail
      go_ret
      exact ⟨by rw [HM.out, H0.out, HB.out]; rfl, HE2.out⟩
    | true =>
      have HB := Lib.hid hb
      clear hb
      by_cases h1 : 0 < nx
      · have f1 : decide (0 < nx) = true := decide_eq_true h1
        have f2 : decide ((0 : Int) < ((nx : Nat) : Int)) = true := decide_eq_true (by omega)
        have H1 := Lib.hid f1
        clear h1
        go_wp2_with fail
        go_ret
        exact ⟨by rw [HM.out, H0.out, HB.out, H1.out]; rfl, HE2.out⟩
      · have f1 : decide (0 < nx) = false := decide_eq_false h1
        have f2 : decide ((0 : Int) < ((nx : Nat) : Int)) = false := decide_eq_false (by omega)
        have H1 := Lib.hid f1
        clear h1
        go_wp2_with fail
        go_ret
        exact ⟨by rw [HM.out, H0.out, HB.out, H1.out]; rfl, HE2.out⟩
end Go.Proofs.Ytepggbhibpjkpaa
