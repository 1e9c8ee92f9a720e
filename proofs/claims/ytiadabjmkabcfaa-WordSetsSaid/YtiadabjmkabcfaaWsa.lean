/- The law WordSets: And, Or, Xor and Not are what they are of sets of bits, and add up. -/
import Derived.Test.YtiadabjmkabcfaaInw
import Derived.Deep.DeepCutAuto
namespace Go.Proofs.Ytiadabjmkabcfaa
open Go.ChangeShapes Go.WideShapes Go.ChangeAt Go.RowKit

/-! ### Sets of bits -/
theorem and_xor_sum : ∀ a b : Nat, 2 * (a &&& b) + (a ^^^ b) = a + b := by
  intro a
  induction a using Nat.strongRecOn with
  | ind a ih =>
    intro b
    rcases Nat.eq_zero_or_pos a with rfl | hp
    · simp
    · have h := ih (a / 2) (by omega) (b / 2)
      have e1 : (a &&& b) = 2 * (a / 2 &&& b / 2) + (a % 2 &&& b % 2) := by
        have h1 := Nat.and_div_two_pow (a := a) (b := b) (n := 1)
        have h2 := Nat.and_mod_two_pow (a := a) (b := b) (n := 1)
        rw [Nat.pow_one] at h1 h2
        rw [← h1, ← h2, Nat.div_add_mod]
      have e2 : (a ^^^ b) = 2 * (a / 2 ^^^ b / 2) + (a % 2 ^^^ b % 2) := by
        have h1 := Nat.xor_div_two_pow (a := a) (b := b) (n := 1)
        have h2 := Nat.xor_mod_two_pow (a := a) (b := b) (n := 1)
        rw [Nat.pow_one] at h1 h2
        rw [← h1, ← h2, Nat.div_add_mod]
      have h3 : 2 * (a % 2 &&& b % 2) + (a % 2 ^^^ b % 2) = a % 2 + b % 2 := by
        rcases Nat.mod_two_eq_zero_or_one a with x | x <;> rcases Nat.mod_two_eq_zero_or_one b with y | y <;> rw [x, y] <;> rfl
      rw [e1, e2]
      omega
theorem bv_of256 (a : Nat) (ha : a < M256) : (BitVec.ofNat 256 a).toNat = a := by rw [BitVec.toNat_ofNat]; exact Nat.mod_eq_of_lt ha
theorem notN_bv (a : Nat) (ha : a < M256) : notN a = (~~~ (BitVec.ofNat 256 a)).toNat := by
  rw [BitVec.toNat_not, bv_of256 a ha]
  rfl
theorem not_not (a : Nat) (ha : a < M256) : notN (notN a) = a := by unfold notN; unfold M256 at *; omega
theorem not_or (a b : Nat) (ha : a < M256) (hb : b < M256) : notN (orN a b) = andN (notN a) (notN b) := by
  have h := congrArg BitVec.toNat (BitVec.not_or (x := BitVec.ofNat 256 a) (y := BitVec.ofNat 256 b))
  rw [BitVec.toNat_and, ← notN_bv a ha, ← notN_bv b hb, BitVec.toNat_not, BitVec.toNat_or, bv_of256 a ha, bv_of256 b hb] at h
  exact h
theorem and_or (a b c : Nat) : andN a (orN b c) = orN (andN a b) (andN a c) := Nat.and_or_distrib_left a b c
theorem twice_one (a b : Nat) : addN (addN (andN a b) (andN a b)) (xorN a b) = addN a b := by
  unfold addN andN xorN
  rw [Nat.mod_add_mod, ← Nat.two_mul, and_xor_sum]
theorem add_not (a : Nat) (ha : a < M256) : addN a (notN a) = notN 0 := by
  unfold addN notN
  rw [show a + (M256 - 1 - a) = M256 - 1 by omega, Nat.sub_zero, Nat.mod_eq_of_lt (by decide)]
theorem xor_xor (a b : Nat) : xorN (xorN a b) b = a := by
  unfold xorN
  rw [Nat.xor_assoc, Nat.xor_self, Nat.xor_zero]

set_option maxRecDepth 100000 in
set_option maxHeartbeats 8000000 in
theorem sets_walk (a b c : Nat) (w : World) (ha : a < M256) (hb : b < M256) (hc : c < M256) : Calls Try.prog 11 #[wv a, wv b, wv c] w (RetT w) := by
  unfold wv
  go_enter Try.func11, Try.ntmps11
  go_wp2_with fail
  refine (wakes_any _).mono ?_
  rintro e w1 ⟨rfl, he1⟩
  have HS : Ks w [(w.heap.size, a), (w.heap.size + 1, b), (w.heap.size + 1 + 1, c)] w1 :=
    ⟨fun x hx => by
      simp only [List.mem_cons, List.not_mem_nil, or_false] at hx
      rcases hx with rfl | rfl | rfl
      · exact Cs.ext (((Cs.new _ _ _ _ rfl).alloc _).alloc _) he1
      · exact Cs.ext ((Cs.new _ _ _ _ (by simp)).alloc _) he1
      · exact Cs.ext (Cs.new _ _ _ _ (by simp)) he1, Ext.trans ((((Ext.refl w).alloc _).alloc _).alloc _) he1⟩
  clear he1
  go_wp2_with fail
  refine wp_named fun a0 ha0 => ?_
  obtain ⟨fr, hfr⟩ : ∃ fr : (Nat → Value) → Act, ∀ V, fr V = ((((((((((((((((((((((((((((((((a0.put (some 19) (V 0)).put (some 20) (V 1)).put (some 21) (V 2)).put (some 22) (V 3)).put (some 23) (V 4)).put (some 24) (V 5)).put (some 25) (V 6)).put (some 26) (V 7)).put (some 27) (V 8)).put (some 28) (V 9)).put (some 29) (V 10)).put (some 30) (V 11)).put (some 31) (V 12)).put (some 32) (V 13)).put (some 33) (V 14)).put (some 34) (V 15)).put (some 35) (V 16)).put (some 36) (V 17)).put (some 37) (V 18)).put (some 38) (V 19)).put (some 39) (V 20)).put (some 40) (V 21)).put (some 41) (V 22)).put (some 42) (V 23)).put (some 43) (V 24)).put (some 44) (V 25)).put (some 45) (V 26)).put (some 46) (V 27)).put (some 47) (V 28)).put (some 48) (V 29)).put (some 49) (V 30)).put (some 50) (V 31)) := ⟨fun V => ((((((((((((((((((((((((((((((((a0.put (some 19) (V 0)).put (some 20) (V 1)).put (some 21) (V 2)).put (some 22) (V 3)).put (some 23) (V 4)).put (some 24) (V 5)).put (some 25) (V 6)).put (some 26) (V 7)).put (some 27) (V 8)).put (some 28) (V 9)).put (some 29) (V 10)).put (some 30) (V 11)).put (some 31) (V 12)).put (some 32) (V 13)).put (some 33) (V 14)).put (some 34) (V 15)).put (some 35) (V 16)).put (some 36) (V 17)).put (some 37) (V 18)).put (some 38) (V 19)).put (some 39) (V 20)).put (some 40) (V 21)).put (some 41) (V 22)).put (some 42) (V 23)).put (some 43) (V 24)).put (some 44) (V 25)).put (some 45) (V 26)).put (some 46) (V 27)).put (some 47) (V 28)).put (some 48) (V 29)).put (some 49) (V 30)).put (some 50) (V 31)), fun _ => rfl⟩
  rw [ha0] at hfr
  simp only [Act.put, List.setIfInBounds_toArray, List.set_cons_zero, List.set_cons_succ] at hfr
  have HFR := Lib.hid hfr
  clear hfr
  refine wp_region_inv (by kernel_rfl) (by kernel_rfl) (fun L A W => ∃ V : Nat → Value, A = fr V ∧ Ks w [(w.heap.size, a), (w.heap.size + 1, b), (w.heap.size + 1 + 1, c)] W ∧ Vals (fun j => ([some (wv (a)), some (wv (notN a)), some (wv (notN (notN a))), some (wv (a)), some (.bool false), some (.bool false), some (wv (a)), some (wv (b)), some (wv (orN a b)), some (wv (notN (orN a b))), some (wv (a)), some (wv (notN a)), some (wv (b)), some (wv (notN b)), some (wv (andN (notN a) (notN b))), some (.bool false), some (.bool false), some (.bool false), some (wv (a)), some (wv (b)), some (wv (c)), some (wv (orN b c)), some (wv (andN a (orN b c))), some (wv (a)), some (wv (b)), some (wv (andN a b)), some (wv (a)), some (wv (c)), some (wv (andN a c)), some (wv (orN (andN a b) (andN a c))), some (.bool false), some (.bool false)] : List (Option Value)).getD j none) L V) ?_ ⟨?_, ?_, ?_, ?_, ?_, ?_, ?_, ?_, ?_, ?_, ?_, ?_, ?_, ?_, ?_, ?_, ?_, ?_, ?_, ?_, ?_, ?_, ?_, ?_, ?_, ?_, ?_, ?_, ?_, ?_, ?_, ?_, trivial⟩ ?_
  · refine ⟨fun j => a0.tmps.getD (([19, 20, 21, 22, 23, 24, 25, 26, 27, 28, 29, 30, 31, 32, 33, 34, 35, 36, 37, 38, 39, 40, 41, 42, 43, 44, 45, 46, 47, 48, 49, 50] : List Nat).getD j 0) undef, ?_, HS.drew, Vals.no _ _ _ (fun j hj => by simp at hj; simp [List.getD, List.getElem?_eq_none, hj])⟩
    rw [HFR.out, ha0]
    rfl
  all_goals clear ha0
  · rintro L A W K hL hC hW ⟨V, rfl, HS, HV⟩ hK
    have H := Lib.hid (show ∀ W', Ext W W' → K (fr (upd V 0 (wv (a)))) W' from fun W' he => hK _ _ ⟨upd V 0 (wv (a)), rfl, HS.ext he, HV.up 0 _ (fun x hx => Option.some.inj hx)⟩)
    clear hK hC hW hL HV 
    rw [HFR.out]
    refine wpList_load_wordG rfl 27 25 (.tmp 3) rfl Try.underlying27 winfo (w.heap.size) (a) rfl (HS.at (w.heap.size) (a) (by simp)) ?_
    show K _ _
    have := H.out _ (Ext.refl _)
    rw [HFR.out] at this
    exact this
  · rintro L A W K hL hC hW ⟨V, rfl, HS, HV⟩ hK
    have e0 : V 0 = wv (a) := HV 0 _ rfl (hW 0 rfl)
    have u0 : (upd V 1 (wv (notN a))) 0 = wv (a) := e0
    have HU := Lib.hid (show (upd V 1 (wv (notN a))) 0 = wv (a) from u0)
    clear u0
    have H := Lib.hid (show ∀ W', Ext W W' → K (fr (upd V 1 (wv (notN a)))) W' from fun W' he => hK _ _ ⟨upd V 1 (wv (notN a)), rfl, HS.ext he, HV.up 1 _ (fun x hx => Option.some.inj hx)⟩)
    clear hK hC hW hL HV 
    rw [HFR.out]
    rw [e0]
    clear e0
    go_wp2_with fail
    refine (not_w a _ ha).mono ?_
    rintro e wx ⟨rfl, hlt, he⟩
    have := H.out _ he
    clear H
    go_wp2_with fail
    show K _ _
    rw [HFR.out] at this
    obtain u0 := HU.out
    rw [u0] at this
    exact this
  · rintro L A W K hL hC hW ⟨V, rfl, HS, HV⟩ hK
    have e1 : V 1 = wv (notN a) := HV 1 _ rfl (hW 1 rfl)
    have u1 : (upd V 2 (wv (notN (notN a)))) 1 = wv (notN a) := e1
    have HU := Lib.hid (show (upd V 2 (wv (notN (notN a)))) 1 = wv (notN a) from u1)
    clear u1
    have H := Lib.hid (show ∀ W', Ext W W' → K (fr (upd V 2 (wv (notN (notN a))))) W' from fun W' he => hK _ _ ⟨upd V 2 (wv (notN (notN a))), rfl, HS.ext he, HV.up 2 _ (fun x hx => Option.some.inj hx)⟩)
    clear hK hC hW hL HV 
    rw [HFR.out]
    rw [e1]
    clear e1
    go_wp2_with fail
    refine (not_w (notN a) _ (notN_lt a)).mono ?_
    rintro e wx ⟨rfl, hlt, he⟩
    have := H.out _ he
    clear H
    go_wp2_with fail
    show K _ _
    rw [HFR.out] at this
    obtain u1 := HU.out
    rw [u1] at this
    exact this
  · rintro L A W K hL hC hW ⟨V, rfl, HS, HV⟩ hK
    have H := Lib.hid (show ∀ W', Ext W W' → K (fr (upd V 3 (wv (a)))) W' from fun W' he => hK _ _ ⟨upd V 3 (wv (a)), rfl, HS.ext he, HV.up 3 _ (fun x hx => Option.some.inj hx)⟩)
    clear hK hC hW hL HV 
    rw [HFR.out]
    refine wpList_load_wordG rfl 27 25 (.tmp 3) rfl Try.underlying27 winfo (w.heap.size) (a) rfl (HS.at (w.heap.size) (a) (by simp)) ?_
    show K _ _
    have := H.out _ (Ext.refl _)
    rw [HFR.out] at this
    exact this
  · rintro L A W K hL hC hW ⟨V, rfl, HS, HV⟩ hK
    have e2 : V 2 = wv (notN (notN a)) := HV 2 _ rfl (hW 2 rfl)
    have e3 : V 3 = wv (a) := HV 3 _ rfl (hW 3 rfl)
    have u2 : (upd V 4 (.bool false)) 2 = wv (notN (notN a)) := e2
    have u3 : (upd V 4 (.bool false)) 3 = wv (a) := e3
    have HU := Lib.hid (show (upd V 4 (.bool false)) 2 = wv (notN (notN a)) ∧ (upd V 4 (.bool false)) 3 = wv (a) from ⟨u2, u3⟩)
    clear u2 u3
    have H := Lib.hid (show ∀ W', Ext W W' → K (fr (upd V 4 (.bool false))) W' from fun W' he => hK _ _ ⟨upd V 4 (.bool false), rfl, HS.ext he, HV.up 4 _ (fun x hx => Option.some.inj hx)⟩)
    clear hK hC hW hL HV 
    rw [HFR.out]
    rw [e2, e3]
    clear e2 e3
    refine wpList_neq_word rfl (.tmp 21) (.tmp 22) rfl (notN (notN a)) (a) (notN_lt _) (ha) rfl rfl ?_
    rw [show ((notN (notN a)) != (a)) = false from by rw [not_not a ha]; exact bne_self_eq_false _]
    show K _ _
    have := H.out _ (Ext.refl _)
    rw [HFR.out] at this
    obtain ⟨u2, u3⟩ := HU.out
    rw [u2, u3] at this
    exact this
  · rintro L A W K hL hC hW ⟨V, rfl, HS, HV⟩ hK
    have e4 : V 4 = .bool false := HV 4 _ rfl (hW 4 rfl)
    have u4 : (upd V 5 (.bool false)) 4 = .bool false := e4
    have HU := Lib.hid (show (upd V 5 (.bool false)) 4 = .bool false from u4)
    clear u4
    have H := Lib.hid (show ∀ W', Ext W W' → K (fr (upd V 5 (.bool false))) W' from fun W' he => hK _ _ ⟨upd V 5 (.bool false), rfl, HS.ext he, HV.up 5 _ (fun x hx => Option.some.inj hx)⟩)
    clear hK hC hW hL HV 
    rw [HFR.out]
    rw [e4]
    clear e4
    go_wp2_with fail
    show K _ _
    have := H.out _ (Ext.refl _)
    rw [HFR.out] at this
    obtain u4 := HU.out
    rw [u4] at this
    exact this
  · rintro L A W K hL hC hW ⟨V, rfl, HS, HV⟩ hK
    have e5 : V 5 = .bool false := HV 5 _ rfl (hW 5 rfl)
    have u5 : (upd V 6 (wv (a))) 5 = .bool false := e5
    have HU := Lib.hid (show (upd V 6 (wv (a))) 5 = .bool false from u5)
    clear u5
    have H := Lib.hid (show ∀ W', Ext W W' → K (fr (upd V 6 (wv (a)))) W' from fun W' he => hK _ _ ⟨upd V 6 (wv (a)), rfl, HS.ext he, HV.up 6 _ (fun x hx => Option.some.inj hx)⟩)
    clear hK hC hW hL HV 
    rw [HFR.out]
    rw [e5]
    clear e5
    refine wpList_load_wordG rfl 27 25 (.tmp 3) rfl Try.underlying27 winfo (w.heap.size) (a) rfl (HS.at (w.heap.size) (a) (by simp)) ?_
    show K _ _
    have := H.out _ (Ext.refl _)
    rw [HFR.out] at this
    obtain u5 := HU.out
    rw [u5] at this
    exact this
  · rintro L A W K hL hC hW ⟨V, rfl, HS, HV⟩ hK
    have e5 : V 5 = .bool false := HV 5 _ rfl (hW 5 rfl)
    have u5 : (upd V 7 (wv (b))) 5 = .bool false := e5
    have HU := Lib.hid (show (upd V 7 (wv (b))) 5 = .bool false from u5)
    clear u5
    have H := Lib.hid (show ∀ W', Ext W W' → K (fr (upd V 7 (wv (b)))) W' from fun W' he => hK _ _ ⟨upd V 7 (wv (b)), rfl, HS.ext he, HV.up 7 _ (fun x hx => Option.some.inj hx)⟩)
    clear hK hC hW hL HV 
    rw [HFR.out]
    rw [e5]
    clear e5
    refine wpList_load_wordG rfl 27 25 (.tmp 4) rfl Try.underlying27 winfo (w.heap.size + 1) (b) rfl (HS.at (w.heap.size + 1) (b) (by simp)) ?_
    show K _ _
    have := H.out _ (Ext.refl _)
    rw [HFR.out] at this
    obtain u5 := HU.out
    rw [u5] at this
    exact this
  · rintro L A W K hL hC hW ⟨V, rfl, HS, HV⟩ hK
    have e5 : V 5 = .bool false := HV 5 _ rfl (hW 5 rfl)
    have e6 : V 6 = wv (a) := HV 6 _ rfl (hW 6 rfl)
    have e7 : V 7 = wv (b) := HV 7 _ rfl (hW 7 rfl)
    have u5 : (upd V 8 (wv (orN a b))) 5 = .bool false := e5
    have u6 : (upd V 8 (wv (orN a b))) 6 = wv (a) := e6
    have u7 : (upd V 8 (wv (orN a b))) 7 = wv (b) := e7
    have HU := Lib.hid (show (upd V 8 (wv (orN a b))) 5 = .bool false ∧ (upd V 8 (wv (orN a b))) 6 = wv (a) ∧ (upd V 8 (wv (orN a b))) 7 = wv (b) from ⟨u5, u6, u7⟩)
    clear u5 u6 u7
    have H := Lib.hid (show ∀ W', Ext W W' → K (fr (upd V 8 (wv (orN a b)))) W' from fun W' he => hK _ _ ⟨upd V 8 (wv (orN a b)), rfl, HS.ext he, HV.up 8 _ (fun x hx => Option.some.inj hx)⟩)
    clear hK hC hW hL HV 
    rw [HFR.out]
    rw [e5, e6, e7]
    clear e5 e6 e7
    go_wp2_with fail
    refine (or_w a b _ ha hb).mono ?_
    rintro e wx ⟨rfl, hlt, he⟩
    have := H.out _ he
    clear H
    go_wp2_with fail
    show K _ _
    rw [HFR.out] at this
    obtain ⟨u5, u6, u7⟩ := HU.out
    rw [u5, u6, u7] at this
    exact this
  · rintro L A W K hL hC hW ⟨V, rfl, HS, HV⟩ hK
    have e5 : V 5 = .bool false := HV 5 _ rfl (hW 5 rfl)
    have e8 : V 8 = wv (orN a b) := HV 8 _ rfl (hW 8 rfl)
    have u5 : (upd V 9 (wv (notN (orN a b)))) 5 = .bool false := e5
    have u8 : (upd V 9 (wv (notN (orN a b)))) 8 = wv (orN a b) := e8
    have HU := Lib.hid (show (upd V 9 (wv (notN (orN a b)))) 5 = .bool false ∧ (upd V 9 (wv (notN (orN a b)))) 8 = wv (orN a b) from ⟨u5, u8⟩)
    clear u5 u8
    have H := Lib.hid (show ∀ W', Ext W W' → K (fr (upd V 9 (wv (notN (orN a b))))) W' from fun W' he => hK _ _ ⟨upd V 9 (wv (notN (orN a b))), rfl, HS.ext he, HV.up 9 _ (fun x hx => Option.some.inj hx)⟩)
    clear hK hC hW hL HV 
    rw [HFR.out]
    rw [e5, e8]
    clear e5 e8
    go_wp2_with fail
    refine (not_w (orN a b) _ (orN_lt a b ha hb)).mono ?_
    rintro e wx ⟨rfl, hlt, he⟩
    have := H.out _ he
    clear H
    go_wp2_with fail
    show K _ _
    rw [HFR.out] at this
    obtain ⟨u5, u8⟩ := HU.out
    rw [u5, u8] at this
    exact this
  · rintro L A W K hL hC hW ⟨V, rfl, HS, HV⟩ hK
    have e5 : V 5 = .bool false := HV 5 _ rfl (hW 5 rfl)
    have u5 : (upd V 10 (wv (a))) 5 = .bool false := e5
    have HU := Lib.hid (show (upd V 10 (wv (a))) 5 = .bool false from u5)
    clear u5
    have H := Lib.hid (show ∀ W', Ext W W' → K (fr (upd V 10 (wv (a)))) W' from fun W' he => hK _ _ ⟨upd V 10 (wv (a)), rfl, HS.ext he, HV.up 10 _ (fun x hx => Option.some.inj hx)⟩)
    clear hK hC hW hL HV 
    rw [HFR.out]
    rw [e5]
    clear e5
    refine wpList_load_wordG rfl 27 25 (.tmp 3) rfl Try.underlying27 winfo (w.heap.size) (a) rfl (HS.at (w.heap.size) (a) (by simp)) ?_
    show K _ _
    have := H.out _ (Ext.refl _)
    rw [HFR.out] at this
    obtain u5 := HU.out
    rw [u5] at this
    exact this
  · rintro L A W K hL hC hW ⟨V, rfl, HS, HV⟩ hK
    have e5 : V 5 = .bool false := HV 5 _ rfl (hW 5 rfl)
    have e10 : V 10 = wv (a) := HV 10 _ rfl (hW 10 rfl)
    have u5 : (upd V 11 (wv (notN a))) 5 = .bool false := e5
    have u10 : (upd V 11 (wv (notN a))) 10 = wv (a) := e10
    have HU := Lib.hid (show (upd V 11 (wv (notN a))) 5 = .bool false ∧ (upd V 11 (wv (notN a))) 10 = wv (a) from ⟨u5, u10⟩)
    clear u5 u10
    have H := Lib.hid (show ∀ W', Ext W W' → K (fr (upd V 11 (wv (notN a)))) W' from fun W' he => hK _ _ ⟨upd V 11 (wv (notN a)), rfl, HS.ext he, HV.up 11 _ (fun x hx => Option.some.inj hx)⟩)
    clear hK hC hW hL HV 
    rw [HFR.out]
    rw [e5, e10]
    clear e5 e10
    go_wp2_with fail
    refine (not_w a _ ha).mono ?_
    rintro e wx ⟨rfl, hlt, he⟩
    have := H.out _ he
    clear H
    go_wp2_with fail
    show K _ _
    rw [HFR.out] at this
    obtain ⟨u5, u10⟩ := HU.out
    rw [u5, u10] at this
    exact this
  · rintro L A W K hL hC hW ⟨V, rfl, HS, HV⟩ hK
    have e5 : V 5 = .bool false := HV 5 _ rfl (hW 5 rfl)
    have u5 : (upd V 12 (wv (b))) 5 = .bool false := e5
    have HU := Lib.hid (show (upd V 12 (wv (b))) 5 = .bool false from u5)
    clear u5
    have H := Lib.hid (show ∀ W', Ext W W' → K (fr (upd V 12 (wv (b)))) W' from fun W' he => hK _ _ ⟨upd V 12 (wv (b)), rfl, HS.ext he, HV.up 12 _ (fun x hx => Option.some.inj hx)⟩)
    clear hK hC hW hL HV 
    rw [HFR.out]
    rw [e5]
    clear e5
    refine wpList_load_wordG rfl 27 25 (.tmp 4) rfl Try.underlying27 winfo (w.heap.size + 1) (b) rfl (HS.at (w.heap.size + 1) (b) (by simp)) ?_
    show K _ _
    have := H.out _ (Ext.refl _)
    rw [HFR.out] at this
    obtain u5 := HU.out
    rw [u5] at this
    exact this
  · rintro L A W K hL hC hW ⟨V, rfl, HS, HV⟩ hK
    have e5 : V 5 = .bool false := HV 5 _ rfl (hW 5 rfl)
    have e12 : V 12 = wv (b) := HV 12 _ rfl (hW 12 rfl)
    have u5 : (upd V 13 (wv (notN b))) 5 = .bool false := e5
    have u12 : (upd V 13 (wv (notN b))) 12 = wv (b) := e12
    have HU := Lib.hid (show (upd V 13 (wv (notN b))) 5 = .bool false ∧ (upd V 13 (wv (notN b))) 12 = wv (b) from ⟨u5, u12⟩)
    clear u5 u12
    have H := Lib.hid (show ∀ W', Ext W W' → K (fr (upd V 13 (wv (notN b)))) W' from fun W' he => hK _ _ ⟨upd V 13 (wv (notN b)), rfl, HS.ext he, HV.up 13 _ (fun x hx => Option.some.inj hx)⟩)
    clear hK hC hW hL HV 
    rw [HFR.out]
    rw [e5, e12]
    clear e5 e12
    go_wp2_with fail
    refine (not_w b _ hb).mono ?_
    rintro e wx ⟨rfl, hlt, he⟩
    have := H.out _ he
    clear H
    go_wp2_with fail
    show K _ _
    rw [HFR.out] at this
    obtain ⟨u5, u12⟩ := HU.out
    rw [u5, u12] at this
    exact this
  · rintro L A W K hL hC hW ⟨V, rfl, HS, HV⟩ hK
    have e5 : V 5 = .bool false := HV 5 _ rfl (hW 5 rfl)
    have e11 : V 11 = wv (notN a) := HV 11 _ rfl (hW 11 rfl)
    have e13 : V 13 = wv (notN b) := HV 13 _ rfl (hW 13 rfl)
    have u5 : (upd V 14 (wv (andN (notN a) (notN b)))) 5 = .bool false := e5
    have u11 : (upd V 14 (wv (andN (notN a) (notN b)))) 11 = wv (notN a) := e11
    have u13 : (upd V 14 (wv (andN (notN a) (notN b)))) 13 = wv (notN b) := e13
    have HU := Lib.hid (show (upd V 14 (wv (andN (notN a) (notN b)))) 5 = .bool false ∧ (upd V 14 (wv (andN (notN a) (notN b)))) 11 = wv (notN a) ∧ (upd V 14 (wv (andN (notN a) (notN b)))) 13 = wv (notN b) from ⟨u5, u11, u13⟩)
    clear u5 u11 u13
    have H := Lib.hid (show ∀ W', Ext W W' → K (fr (upd V 14 (wv (andN (notN a) (notN b))))) W' from fun W' he => hK _ _ ⟨upd V 14 (wv (andN (notN a) (notN b))), rfl, HS.ext he, HV.up 14 _ (fun x hx => Option.some.inj hx)⟩)
    clear hK hC hW hL HV 
    rw [HFR.out]
    rw [e5, e11, e13]
    clear e5 e11 e13
    go_wp2_with fail
    refine (and_w (notN a) (notN b) _ (notN_lt a) (notN_lt b)).mono ?_
    rintro e wx ⟨rfl, hlt, he⟩
    have := H.out _ he
    clear H
    go_wp2_with fail
    show K _ _
    rw [HFR.out] at this
    obtain ⟨u5, u11, u13⟩ := HU.out
    rw [u5, u11, u13] at this
    exact this
  · rintro L A W K hL hC hW ⟨V, rfl, HS, HV⟩ hK
    have e5 : V 5 = .bool false := HV 5 _ rfl (hW 5 rfl)
    have e9 : V 9 = wv (notN (orN a b)) := HV 9 _ rfl (hW 9 rfl)
    have e14 : V 14 = wv (andN (notN a) (notN b)) := HV 14 _ rfl (hW 14 rfl)
    have u5 : (upd V 15 (.bool false)) 5 = .bool false := e5
    have u9 : (upd V 15 (.bool false)) 9 = wv (notN (orN a b)) := e9
    have u14 : (upd V 15 (.bool false)) 14 = wv (andN (notN a) (notN b)) := e14
    have HU := Lib.hid (show (upd V 15 (.bool false)) 5 = .bool false ∧ (upd V 15 (.bool false)) 9 = wv (notN (orN a b)) ∧ (upd V 15 (.bool false)) 14 = wv (andN (notN a) (notN b)) from ⟨u5, u9, u14⟩)
    clear u5 u9 u14
    have H := Lib.hid (show ∀ W', Ext W W' → K (fr (upd V 15 (.bool false))) W' from fun W' he => hK _ _ ⟨upd V 15 (.bool false), rfl, HS.ext he, HV.up 15 _ (fun x hx => Option.some.inj hx)⟩)
    clear hK hC hW hL HV 
    rw [HFR.out]
    rw [e5, e9, e14]
    clear e5 e9 e14
    refine wpList_neq_word rfl (.tmp 28) (.tmp 33) rfl (notN (orN a b)) (andN (notN a) (notN b)) (notN_lt _) (andN_lt _ _ (notN_lt b)) rfl rfl ?_
    rw [show ((notN (orN a b)) != (andN (notN a) (notN b))) = false from by rw [not_or a b ha hb]; exact bne_self_eq_false _]
    show K _ _
    have := H.out _ (Ext.refl _)
    rw [HFR.out] at this
    obtain ⟨u5, u9, u14⟩ := HU.out
    rw [u5, u9, u14] at this
    exact this
  · rintro L A W K hL hC hW ⟨V, rfl, HS, HV⟩ hK
    have e5 : V 5 = .bool false := HV 5 _ rfl (hW 5 rfl)
    have e15 : V 15 = .bool false := HV 15 _ rfl (hW 15 rfl)
    have u5 : (upd V 16 (.bool false)) 5 = .bool false := e5
    have u15 : (upd V 16 (.bool false)) 15 = .bool false := e15
    have HU := Lib.hid (show (upd V 16 (.bool false)) 5 = .bool false ∧ (upd V 16 (.bool false)) 15 = .bool false from ⟨u5, u15⟩)
    clear u5 u15
    have H := Lib.hid (show ∀ W', Ext W W' → K (fr (upd V 16 (.bool false))) W' from fun W' he => hK _ _ ⟨upd V 16 (.bool false), rfl, HS.ext he, HV.up 16 _ (fun x hx => Option.some.inj hx)⟩)
    clear hK hC hW hL HV 
    rw [HFR.out]
    rw [e5, e15]
    clear e5 e15
    go_wp2_with fail
    show K _ _
    have := H.out _ (Ext.refl _)
    rw [HFR.out] at this
    obtain ⟨u5, u15⟩ := HU.out
    rw [u5, u15] at this
    exact this
  · rintro L A W K hL hC hW ⟨V, rfl, HS, HV⟩ hK
    have e16 : V 16 = .bool false := HV 16 _ rfl (hW 16 rfl)
    have u16 : (upd V 17 (.bool false)) 16 = .bool false := e16
    have HU := Lib.hid (show (upd V 17 (.bool false)) 16 = .bool false from u16)
    clear u16
    have H := Lib.hid (show ∀ W', Ext W W' → K (fr (upd V 17 (.bool false))) W' from fun W' he => hK _ _ ⟨upd V 17 (.bool false), rfl, HS.ext he, HV.up 17 _ (fun x hx => Option.some.inj hx)⟩)
    clear hK hC hW hL HV 
    rw [HFR.out]
    rw [e16]
    clear e16
    go_wp2_with fail
    show K _ _
    have := H.out _ (Ext.refl _)
    rw [HFR.out] at this
    obtain u16 := HU.out
    rw [u16] at this
    exact this
  · rintro L A W K hL hC hW ⟨V, rfl, HS, HV⟩ hK
    have e17 : V 17 = .bool false := HV 17 _ rfl (hW 17 rfl)
    have u17 : (upd V 18 (wv (a))) 17 = .bool false := e17
    have HU := Lib.hid (show (upd V 18 (wv (a))) 17 = .bool false from u17)
    clear u17
    have H := Lib.hid (show ∀ W', Ext W W' → K (fr (upd V 18 (wv (a)))) W' from fun W' he => hK _ _ ⟨upd V 18 (wv (a)), rfl, HS.ext he, HV.up 18 _ (fun x hx => Option.some.inj hx)⟩)
    clear hK hC hW hL HV 
    rw [HFR.out]
    rw [e17]
    clear e17
    refine wpList_load_wordG rfl 27 25 (.tmp 3) rfl Try.underlying27 winfo (w.heap.size) (a) rfl (HS.at (w.heap.size) (a) (by simp)) ?_
    show K _ _
    have := H.out _ (Ext.refl _)
    rw [HFR.out] at this
    obtain u17 := HU.out
    rw [u17] at this
    exact this
  · rintro L A W K hL hC hW ⟨V, rfl, HS, HV⟩ hK
    have e17 : V 17 = .bool false := HV 17 _ rfl (hW 17 rfl)
    have u17 : (upd V 19 (wv (b))) 17 = .bool false := e17
    have HU := Lib.hid (show (upd V 19 (wv (b))) 17 = .bool false from u17)
    clear u17
    have H := Lib.hid (show ∀ W', Ext W W' → K (fr (upd V 19 (wv (b)))) W' from fun W' he => hK _ _ ⟨upd V 19 (wv (b)), rfl, HS.ext he, HV.up 19 _ (fun x hx => Option.some.inj hx)⟩)
    clear hK hC hW hL HV 
    rw [HFR.out]
    rw [e17]
    clear e17
    refine wpList_load_wordG rfl 27 25 (.tmp 4) rfl Try.underlying27 winfo (w.heap.size + 1) (b) rfl (HS.at (w.heap.size + 1) (b) (by simp)) ?_
    show K _ _
    have := H.out _ (Ext.refl _)
    rw [HFR.out] at this
    obtain u17 := HU.out
    rw [u17] at this
    exact this
  · rintro L A W K hL hC hW ⟨V, rfl, HS, HV⟩ hK
    have e17 : V 17 = .bool false := HV 17 _ rfl (hW 17 rfl)
    have u17 : (upd V 20 (wv (c))) 17 = .bool false := e17
    have HU := Lib.hid (show (upd V 20 (wv (c))) 17 = .bool false from u17)
    clear u17
    have H := Lib.hid (show ∀ W', Ext W W' → K (fr (upd V 20 (wv (c)))) W' from fun W' he => hK _ _ ⟨upd V 20 (wv (c)), rfl, HS.ext he, HV.up 20 _ (fun x hx => Option.some.inj hx)⟩)
    clear hK hC hW hL HV 
    rw [HFR.out]
    rw [e17]
    clear e17
    refine wpList_load_wordG rfl 27 25 (.tmp 5) rfl Try.underlying27 winfo (w.heap.size + 1 + 1) (c) rfl (HS.at (w.heap.size + 1 + 1) (c) (by simp)) ?_
    show K _ _
    have := H.out _ (Ext.refl _)
    rw [HFR.out] at this
    obtain u17 := HU.out
    rw [u17] at this
    exact this
  · rintro L A W K hL hC hW ⟨V, rfl, HS, HV⟩ hK
    have e17 : V 17 = .bool false := HV 17 _ rfl (hW 17 rfl)
    have e19 : V 19 = wv (b) := HV 19 _ rfl (hW 19 rfl)
    have e20 : V 20 = wv (c) := HV 20 _ rfl (hW 20 rfl)
    have u17 : (upd V 21 (wv (orN b c))) 17 = .bool false := e17
    have u19 : (upd V 21 (wv (orN b c))) 19 = wv (b) := e19
    have u20 : (upd V 21 (wv (orN b c))) 20 = wv (c) := e20
    have HU := Lib.hid (show (upd V 21 (wv (orN b c))) 17 = .bool false ∧ (upd V 21 (wv (orN b c))) 19 = wv (b) ∧ (upd V 21 (wv (orN b c))) 20 = wv (c) from ⟨u17, u19, u20⟩)
    clear u17 u19 u20
    have H := Lib.hid (show ∀ W', Ext W W' → K (fr (upd V 21 (wv (orN b c)))) W' from fun W' he => hK _ _ ⟨upd V 21 (wv (orN b c)), rfl, HS.ext he, HV.up 21 _ (fun x hx => Option.some.inj hx)⟩)
    clear hK hC hW hL HV 
    rw [HFR.out]
    rw [e17, e19, e20]
    clear e17 e19 e20
    go_wp2_with fail
    refine (or_w b c _ hb hc).mono ?_
    rintro e wx ⟨rfl, hlt, he⟩
    have := H.out _ he
    clear H
    go_wp2_with fail
    show K _ _
    rw [HFR.out] at this
    obtain ⟨u17, u19, u20⟩ := HU.out
    rw [u17, u19, u20] at this
    exact this
  · rintro L A W K hL hC hW ⟨V, rfl, HS, HV⟩ hK
    have e17 : V 17 = .bool false := HV 17 _ rfl (hW 17 rfl)
    have e18 : V 18 = wv (a) := HV 18 _ rfl (hW 18 rfl)
    have e21 : V 21 = wv (orN b c) := HV 21 _ rfl (hW 21 rfl)
    have u17 : (upd V 22 (wv (andN a (orN b c)))) 17 = .bool false := e17
    have u18 : (upd V 22 (wv (andN a (orN b c)))) 18 = wv (a) := e18
    have u21 : (upd V 22 (wv (andN a (orN b c)))) 21 = wv (orN b c) := e21
    have HU := Lib.hid (show (upd V 22 (wv (andN a (orN b c)))) 17 = .bool false ∧ (upd V 22 (wv (andN a (orN b c)))) 18 = wv (a) ∧ (upd V 22 (wv (andN a (orN b c)))) 21 = wv (orN b c) from ⟨u17, u18, u21⟩)
    clear u17 u18 u21
    have H := Lib.hid (show ∀ W', Ext W W' → K (fr (upd V 22 (wv (andN a (orN b c))))) W' from fun W' he => hK _ _ ⟨upd V 22 (wv (andN a (orN b c))), rfl, HS.ext he, HV.up 22 _ (fun x hx => Option.some.inj hx)⟩)
    clear hK hC hW hL HV 
    rw [HFR.out]
    rw [e17, e18, e21]
    clear e17 e18 e21
    go_wp2_with fail
    refine (and_w a (orN b c) _ ha (orN_lt b c hb hc)).mono ?_
    rintro e wx ⟨rfl, hlt, he⟩
    have := H.out _ he
    clear H
    go_wp2_with fail
    show K _ _
    rw [HFR.out] at this
    obtain ⟨u17, u18, u21⟩ := HU.out
    rw [u17, u18, u21] at this
    exact this
  · rintro L A W K hL hC hW ⟨V, rfl, HS, HV⟩ hK
    have e17 : V 17 = .bool false := HV 17 _ rfl (hW 17 rfl)
    have u17 : (upd V 23 (wv (a))) 17 = .bool false := e17
    have HU := Lib.hid (show (upd V 23 (wv (a))) 17 = .bool false from u17)
    clear u17
    have H := Lib.hid (show ∀ W', Ext W W' → K (fr (upd V 23 (wv (a)))) W' from fun W' he => hK _ _ ⟨upd V 23 (wv (a)), rfl, HS.ext he, HV.up 23 _ (fun x hx => Option.some.inj hx)⟩)
    clear hK hC hW hL HV 
    rw [HFR.out]
    rw [e17]
    clear e17
    refine wpList_load_wordG rfl 27 25 (.tmp 3) rfl Try.underlying27 winfo (w.heap.size) (a) rfl (HS.at (w.heap.size) (a) (by simp)) ?_
    show K _ _
    have := H.out _ (Ext.refl _)
    rw [HFR.out] at this
    obtain u17 := HU.out
    rw [u17] at this
    exact this
  · rintro L A W K hL hC hW ⟨V, rfl, HS, HV⟩ hK
    have e17 : V 17 = .bool false := HV 17 _ rfl (hW 17 rfl)
    have u17 : (upd V 24 (wv (b))) 17 = .bool false := e17
    have HU := Lib.hid (show (upd V 24 (wv (b))) 17 = .bool false from u17)
    clear u17
    have H := Lib.hid (show ∀ W', Ext W W' → K (fr (upd V 24 (wv (b)))) W' from fun W' he => hK _ _ ⟨upd V 24 (wv (b)), rfl, HS.ext he, HV.up 24 _ (fun x hx => Option.some.inj hx)⟩)
    clear hK hC hW hL HV 
    rw [HFR.out]
    rw [e17]
    clear e17
    refine wpList_load_wordG rfl 27 25 (.tmp 4) rfl Try.underlying27 winfo (w.heap.size + 1) (b) rfl (HS.at (w.heap.size + 1) (b) (by simp)) ?_
    show K _ _
    have := H.out _ (Ext.refl _)
    rw [HFR.out] at this
    obtain u17 := HU.out
    rw [u17] at this
    exact this
  · rintro L A W K hL hC hW ⟨V, rfl, HS, HV⟩ hK
    have e17 : V 17 = .bool false := HV 17 _ rfl (hW 17 rfl)
    have e23 : V 23 = wv (a) := HV 23 _ rfl (hW 23 rfl)
    have e24 : V 24 = wv (b) := HV 24 _ rfl (hW 24 rfl)
    have u17 : (upd V 25 (wv (andN a b))) 17 = .bool false := e17
    have u23 : (upd V 25 (wv (andN a b))) 23 = wv (a) := e23
    have u24 : (upd V 25 (wv (andN a b))) 24 = wv (b) := e24
    have HU := Lib.hid (show (upd V 25 (wv (andN a b))) 17 = .bool false ∧ (upd V 25 (wv (andN a b))) 23 = wv (a) ∧ (upd V 25 (wv (andN a b))) 24 = wv (b) from ⟨u17, u23, u24⟩)
    clear u17 u23 u24
    have H := Lib.hid (show ∀ W', Ext W W' → K (fr (upd V 25 (wv (andN a b)))) W' from fun W' he => hK _ _ ⟨upd V 25 (wv (andN a b)), rfl, HS.ext he, HV.up 25 _ (fun x hx => Option.some.inj hx)⟩)
    clear hK hC hW hL HV 
    rw [HFR.out]
    rw [e17, e23, e24]
    clear e17 e23 e24
    go_wp2_with fail
    refine (and_w a b _ ha hb).mono ?_
    rintro e wx ⟨rfl, hlt, he⟩
    have := H.out _ he
    clear H
    go_wp2_with fail
    show K _ _
    rw [HFR.out] at this
    obtain ⟨u17, u23, u24⟩ := HU.out
    rw [u17, u23, u24] at this
    exact this
  · rintro L A W K hL hC hW ⟨V, rfl, HS, HV⟩ hK
    have e17 : V 17 = .bool false := HV 17 _ rfl (hW 17 rfl)
    have u17 : (upd V 26 (wv (a))) 17 = .bool false := e17
    have HU := Lib.hid (show (upd V 26 (wv (a))) 17 = .bool false from u17)
    clear u17
    have H := Lib.hid (show ∀ W', Ext W W' → K (fr (upd V 26 (wv (a)))) W' from fun W' he => hK _ _ ⟨upd V 26 (wv (a)), rfl, HS.ext he, HV.up 26 _ (fun x hx => Option.some.inj hx)⟩)
    clear hK hC hW hL HV 
    rw [HFR.out]
    rw [e17]
    clear e17
    refine wpList_load_wordG rfl 27 25 (.tmp 3) rfl Try.underlying27 winfo (w.heap.size) (a) rfl (HS.at (w.heap.size) (a) (by simp)) ?_
    show K _ _
    have := H.out _ (Ext.refl _)
    rw [HFR.out] at this
    obtain u17 := HU.out
    rw [u17] at this
    exact this
  · rintro L A W K hL hC hW ⟨V, rfl, HS, HV⟩ hK
    have e17 : V 17 = .bool false := HV 17 _ rfl (hW 17 rfl)
    have u17 : (upd V 27 (wv (c))) 17 = .bool false := e17
    have HU := Lib.hid (show (upd V 27 (wv (c))) 17 = .bool false from u17)
    clear u17
    have H := Lib.hid (show ∀ W', Ext W W' → K (fr (upd V 27 (wv (c)))) W' from fun W' he => hK _ _ ⟨upd V 27 (wv (c)), rfl, HS.ext he, HV.up 27 _ (fun x hx => Option.some.inj hx)⟩)
    clear hK hC hW hL HV 
    rw [HFR.out]
    rw [e17]
    clear e17
    refine wpList_load_wordG rfl 27 25 (.tmp 5) rfl Try.underlying27 winfo (w.heap.size + 1 + 1) (c) rfl (HS.at (w.heap.size + 1 + 1) (c) (by simp)) ?_
    show K _ _
    have := H.out _ (Ext.refl _)
    rw [HFR.out] at this
    obtain u17 := HU.out
    rw [u17] at this
    exact this
  · rintro L A W K hL hC hW ⟨V, rfl, HS, HV⟩ hK
    have e17 : V 17 = .bool false := HV 17 _ rfl (hW 17 rfl)
    have e26 : V 26 = wv (a) := HV 26 _ rfl (hW 26 rfl)
    have e27 : V 27 = wv (c) := HV 27 _ rfl (hW 27 rfl)
    have u17 : (upd V 28 (wv (andN a c))) 17 = .bool false := e17
    have u26 : (upd V 28 (wv (andN a c))) 26 = wv (a) := e26
    have u27 : (upd V 28 (wv (andN a c))) 27 = wv (c) := e27
    have HU := Lib.hid (show (upd V 28 (wv (andN a c))) 17 = .bool false ∧ (upd V 28 (wv (andN a c))) 26 = wv (a) ∧ (upd V 28 (wv (andN a c))) 27 = wv (c) from ⟨u17, u26, u27⟩)
    clear u17 u26 u27
    have H := Lib.hid (show ∀ W', Ext W W' → K (fr (upd V 28 (wv (andN a c)))) W' from fun W' he => hK _ _ ⟨upd V 28 (wv (andN a c)), rfl, HS.ext he, HV.up 28 _ (fun x hx => Option.some.inj hx)⟩)
    clear hK hC hW hL HV 
    rw [HFR.out]
    rw [e17, e26, e27]
    clear e17 e26 e27
    go_wp2_with fail
    refine (and_w a c _ ha hc).mono ?_
    rintro e wx ⟨rfl, hlt, he⟩
    have := H.out _ he
    clear H
    go_wp2_with fail
    show K _ _
    rw [HFR.out] at this
    obtain ⟨u17, u26, u27⟩ := HU.out
    rw [u17, u26, u27] at this
    exact this
  · rintro L A W K hL hC hW ⟨V, rfl, HS, HV⟩ hK
    have e17 : V 17 = .bool false := HV 17 _ rfl (hW 17 rfl)
    have e25 : V 25 = wv (andN a b) := HV 25 _ rfl (hW 25 rfl)
    have e28 : V 28 = wv (andN a c) := HV 28 _ rfl (hW 28 rfl)
    have u17 : (upd V 29 (wv (orN (andN a b) (andN a c)))) 17 = .bool false := e17
    have u25 : (upd V 29 (wv (orN (andN a b) (andN a c)))) 25 = wv (andN a b) := e25
    have u28 : (upd V 29 (wv (orN (andN a b) (andN a c)))) 28 = wv (andN a c) := e28
    have HU := Lib.hid (show (upd V 29 (wv (orN (andN a b) (andN a c)))) 17 = .bool false ∧ (upd V 29 (wv (orN (andN a b) (andN a c)))) 25 = wv (andN a b) ∧ (upd V 29 (wv (orN (andN a b) (andN a c)))) 28 = wv (andN a c) from ⟨u17, u25, u28⟩)
    clear u17 u25 u28
    have H := Lib.hid (show ∀ W', Ext W W' → K (fr (upd V 29 (wv (orN (andN a b) (andN a c))))) W' from fun W' he => hK _ _ ⟨upd V 29 (wv (orN (andN a b) (andN a c))), rfl, HS.ext he, HV.up 29 _ (fun x hx => Option.some.inj hx)⟩)
    clear hK hC hW hL HV 
    rw [HFR.out]
    rw [e17, e25, e28]
    clear e17 e25 e28
    go_wp2_with fail
    refine (or_w (andN a b) (andN a c) _ (andN_lt a b hb) (andN_lt a c hc)).mono ?_
    rintro e wx ⟨rfl, hlt, he⟩
    have := H.out _ he
    clear H
    go_wp2_with fail
    show K _ _
    rw [HFR.out] at this
    obtain ⟨u17, u25, u28⟩ := HU.out
    rw [u17, u25, u28] at this
    exact this
  · rintro L A W K hL hC hW ⟨V, rfl, HS, HV⟩ hK
    have e17 : V 17 = .bool false := HV 17 _ rfl (hW 17 rfl)
    have e22 : V 22 = wv (andN a (orN b c)) := HV 22 _ rfl (hW 22 rfl)
    have e29 : V 29 = wv (orN (andN a b) (andN a c)) := HV 29 _ rfl (hW 29 rfl)
    have u17 : (upd V 30 (.bool false)) 17 = .bool false := e17
    have u22 : (upd V 30 (.bool false)) 22 = wv (andN a (orN b c)) := e22
    have u29 : (upd V 30 (.bool false)) 29 = wv (orN (andN a b) (andN a c)) := e29
    have HU := Lib.hid (show (upd V 30 (.bool false)) 17 = .bool false ∧ (upd V 30 (.bool false)) 22 = wv (andN a (orN b c)) ∧ (upd V 30 (.bool false)) 29 = wv (orN (andN a b) (andN a c)) from ⟨u17, u22, u29⟩)
    clear u17 u22 u29
    have H := Lib.hid (show ∀ W', Ext W W' → K (fr (upd V 30 (.bool false))) W' from fun W' he => hK _ _ ⟨upd V 30 (.bool false), rfl, HS.ext he, HV.up 30 _ (fun x hx => Option.some.inj hx)⟩)
    clear hK hC hW hL HV 
    rw [HFR.out]
    rw [e17, e22, e29]
    clear e17 e22 e29
    refine wpList_neq_word rfl (.tmp 41) (.tmp 48) rfl (andN a (orN b c)) (orN (andN a b) (andN a c)) (andN_lt _ _ (orN_lt _ _ hb hc)) (orN_lt _ _ (andN_lt _ _ hb) (andN_lt _ _ hc)) rfl rfl ?_
    rw [show ((andN a (orN b c)) != (orN (andN a b) (andN a c))) = false from by rw [and_or a b c]; exact bne_self_eq_false _]
    show K _ _
    have := H.out _ (Ext.refl _)
    rw [HFR.out] at this
    obtain ⟨u17, u22, u29⟩ := HU.out
    rw [u17, u22, u29] at this
    exact this
  · rintro L A W K hL hC hW ⟨V, rfl, HS, HV⟩ hK
    have e17 : V 17 = .bool false := HV 17 _ rfl (hW 17 rfl)
    have e30 : V 30 = .bool false := HV 30 _ rfl (hW 30 rfl)
    have u17 : (upd V 31 (.bool false)) 17 = .bool false := e17
    have u30 : (upd V 31 (.bool false)) 30 = .bool false := e30
    have HU := Lib.hid (show (upd V 31 (.bool false)) 17 = .bool false ∧ (upd V 31 (.bool false)) 30 = .bool false from ⟨u17, u30⟩)
    clear u17 u30
    have H := Lib.hid (show ∀ W', Ext W W' → K (fr (upd V 31 (.bool false))) W' from fun W' he => hK _ _ ⟨upd V 31 (.bool false), rfl, HS.ext he, HV.up 31 _ (fun x hx => Option.some.inj hx)⟩)
    clear hK hC hW hL HV 
    rw [HFR.out]
    rw [e17, e30]
    clear e17 e30
    go_wp2_with fail
    show K _ _
    have := H.out _ (Ext.refl _)
    rw [HFR.out] at this
    obtain ⟨u17, u30⟩ := HU.out
    rw [u17, u30] at this
    exact this
  · rintro L A W hL ⟨V, rfl, HS, HV⟩
    have e0 : V 0 = wv (a) := HV 0 _ rfl (hL 0 (by simp))
    have e1 : V 1 = wv (notN a) := HV 1 _ rfl (hL 1 (by simp))
    have e2 : V 2 = wv (notN (notN a)) := HV 2 _ rfl (hL 2 (by simp))
    have e3 : V 3 = wv (a) := HV 3 _ rfl (hL 3 (by simp))
    have e4 : V 4 = .bool false := HV 4 _ rfl (hL 4 (by simp))
    have e5 : V 5 = .bool false := HV 5 _ rfl (hL 5 (by simp))
    have e6 : V 6 = wv (a) := HV 6 _ rfl (hL 6 (by simp))
    have e7 : V 7 = wv (b) := HV 7 _ rfl (hL 7 (by simp))
    have e8 : V 8 = wv (orN a b) := HV 8 _ rfl (hL 8 (by simp))
    have e9 : V 9 = wv (notN (orN a b)) := HV 9 _ rfl (hL 9 (by simp))
    have e10 : V 10 = wv (a) := HV 10 _ rfl (hL 10 (by simp))
    have e11 : V 11 = wv (notN a) := HV 11 _ rfl (hL 11 (by simp))
    have e12 : V 12 = wv (b) := HV 12 _ rfl (hL 12 (by simp))
    have e13 : V 13 = wv (notN b) := HV 13 _ rfl (hL 13 (by simp))
    have e14 : V 14 = wv (andN (notN a) (notN b)) := HV 14 _ rfl (hL 14 (by simp))
    have e15 : V 15 = .bool false := HV 15 _ rfl (hL 15 (by simp))
    have e16 : V 16 = .bool false := HV 16 _ rfl (hL 16 (by simp))
    have e17 : V 17 = .bool false := HV 17 _ rfl (hL 17 (by simp))
    have e18 : V 18 = wv (a) := HV 18 _ rfl (hL 18 (by simp))
    have e19 : V 19 = wv (b) := HV 19 _ rfl (hL 19 (by simp))
    have e20 : V 20 = wv (c) := HV 20 _ rfl (hL 20 (by simp))
    have e21 : V 21 = wv (orN b c) := HV 21 _ rfl (hL 21 (by simp))
    have e22 : V 22 = wv (andN a (orN b c)) := HV 22 _ rfl (hL 22 (by simp))
    have e23 : V 23 = wv (a) := HV 23 _ rfl (hL 23 (by simp))
    have e24 : V 24 = wv (b) := HV 24 _ rfl (hL 24 (by simp))
    have e25 : V 25 = wv (andN a b) := HV 25 _ rfl (hL 25 (by simp))
    have e26 : V 26 = wv (a) := HV 26 _ rfl (hL 26 (by simp))
    have e27 : V 27 = wv (c) := HV 27 _ rfl (hL 27 (by simp))
    have e28 : V 28 = wv (andN a c) := HV 28 _ rfl (hL 28 (by simp))
    have e29 : V 29 = wv (orN (andN a b) (andN a c)) := HV 29 _ rfl (hL 29 (by simp))
    have e30 : V 30 = .bool false := HV 30 _ rfl (hL 30 (by simp))
    have e31 : V 31 = .bool false := HV 31 _ rfl (hL 31 (by simp))
    rw [HFR.out]
    rw [e0, e1, e2, e3, e4, e5, e6, e7, e8, e9, e10, e11, e12, e13, e14, e15, e16, e17, e18, e19, e20, e21, e22, e23, e24, e25, e26, e27, e28, e29, e30, e31]
    clear hL HV e0 e1 e2 e3 e4 e5 e6 e7 e8 e9 e10 e11 e12 e13 e14 e15 e16 e17 e18 e19 e20 e21 e22 e23 e24 e25 e26 e27 e28 e29 e30 e31
    have HS := HS.sub [(w.heap.size, a), (w.heap.size + 1, b)] (by simp)
    clear HFR
    go_wp2_with fail
    refine wp_named fun a0 ha0 => ?_
    obtain ⟨fr, hfr⟩ : ∃ fr : (Nat → Value) → Act, ∀ V, fr V = ((((((((a0.put (some 51) (V 0)).put (some 52) (V 1)).put (some 53) (V 2)).put (some 54) (V 3)).put (some 55) (V 4)).put (some 56) (V 5)).put (some 7) (V 6)).put (some 8) (V 7)) := ⟨fun V => ((((((((a0.put (some 51) (V 0)).put (some 52) (V 1)).put (some 53) (V 2)).put (some 54) (V 3)).put (some 55) (V 4)).put (some 56) (V 5)).put (some 7) (V 6)).put (some 8) (V 7)), fun _ => rfl⟩
    rw [ha0] at hfr
    simp only [Act.put, List.setIfInBounds_toArray, List.set_cons_zero, List.set_cons_succ] at hfr
    have HFR := Lib.hid hfr
    clear hfr
    refine wp_region_inv (by kernel_rfl) (by kernel_rfl) (fun L A W => ∃ V : Nat → Value, A = fr V ∧ Ks w [(w.heap.size, a), (w.heap.size + 1, b)] W ∧ Vals (fun j => ([some (wv (a)), some (wv (b)), some (wv (andN a b)), some (wv (a)), some (wv (b)), some (wv (xorN a b)), none, none, none, none] : List (Option Value)).getD j none) L V ∧ (L 6 = true → Nb w [(w.heap.size, a), (w.heap.size + 1, b)] W (V 6) (L 8) (andN a b)) ∧ (L 7 = true → Nb w [(w.heap.size, a), (w.heap.size + 1, b)] W (V 7) (L 9) (xorN a b)) ∧ (L 6 = true → L 7 = true → V 6 ≠ V 7)) ?_ ⟨?_, ?_, ?_, ?_, ?_, ?_, ?_, ?_, ?_, ?_, trivial⟩ ?_
    · refine ⟨fun j => a0.tmps.getD (([51, 52, 53, 54, 55, 56, 7, 8, 0, 0] : List Nat).getD j 0) undef, ?_, HS.drew, Vals.no _ _ _ (fun j hj => by simp at hj; simp [List.getD, List.getElem?_eq_none, hj]), fun h => absurd h (by decide), fun h => absurd h (by decide), fun h => absurd h (by decide)⟩
      rw [HFR.out, ha0]
      rfl
    all_goals clear ha0
    · rintro L A W K hL hC hW ⟨V, rfl, HS, HV, f6, f7, d6_7⟩ hK
      have H := Lib.hid (show ∀ W', Ext W W' → K (fr (upd V 0 (wv (a)))) W' from fun W' he => hK _ _ ⟨upd V 0 (wv (a)), rfl, HS.ext he, HV.up 0 _ (fun x hx => Option.some.inj hx), fun h => Nb.weak (Nb.ext (f6 (more_ne h rfl)) he) (fun h => more_ne h rfl), fun h => Nb.weak (Nb.ext (f7 (more_ne h rfl)) he) (fun h => more_ne h rfl), fun h h' => d6_7 (more_ne h rfl) (more_ne h' rfl)⟩)
      clear hK hC hW hL HV f6 f7 d6_7
      rw [HFR.out]
      refine wpList_load_wordG rfl 27 25 (.tmp 3) rfl Try.underlying27 winfo (w.heap.size) (a) rfl (HS.at (w.heap.size) (a) (by simp)) ?_
      show K _ _
      have := H.out _ (Ext.refl _)
      rw [HFR.out] at this
      exact this
    · rintro L A W K hL hC hW ⟨V, rfl, HS, HV, f6, f7, d6_7⟩ hK
      have H := Lib.hid (show ∀ W', Ext W W' → K (fr (upd V 1 (wv (b)))) W' from fun W' he => hK _ _ ⟨upd V 1 (wv (b)), rfl, HS.ext he, HV.up 1 _ (fun x hx => Option.some.inj hx), fun h => Nb.weak (Nb.ext (f6 (more_ne h rfl)) he) (fun h => more_ne h rfl), fun h => Nb.weak (Nb.ext (f7 (more_ne h rfl)) he) (fun h => more_ne h rfl), fun h h' => d6_7 (more_ne h rfl) (more_ne h' rfl)⟩)
      clear hK hC hW hL HV f6 f7 d6_7
      rw [HFR.out]
      refine wpList_load_wordG rfl 27 25 (.tmp 4) rfl Try.underlying27 winfo (w.heap.size + 1) (b) rfl (HS.at (w.heap.size + 1) (b) (by simp)) ?_
      show K _ _
      have := H.out _ (Ext.refl _)
      rw [HFR.out] at this
      exact this
    · rintro L A W K hL hC hW ⟨V, rfl, HS, HV, f6, f7, d6_7⟩ hK
      have e0 : V 0 = wv (a) := HV 0 _ rfl (hW 0 rfl)
      have e1 : V 1 = wv (b) := HV 1 _ rfl (hW 1 rfl)
      have u0 : (upd V 2 (wv (andN a b))) 0 = wv (a) := e0
      have u1 : (upd V 2 (wv (andN a b))) 1 = wv (b) := e1
      have HU := Lib.hid (show (upd V 2 (wv (andN a b))) 0 = wv (a) ∧ (upd V 2 (wv (andN a b))) 1 = wv (b) from ⟨u0, u1⟩)
      clear u0 u1
      have H := Lib.hid (show ∀ W', Ext W W' → K (fr (upd V 2 (wv (andN a b)))) W' from fun W' he => hK _ _ ⟨upd V 2 (wv (andN a b)), rfl, HS.ext he, HV.up 2 _ (fun x hx => Option.some.inj hx), fun h => Nb.weak (Nb.ext (f6 (more_ne h rfl)) he) (fun h => more_ne h rfl), fun h => Nb.weak (Nb.ext (f7 (more_ne h rfl)) he) (fun h => more_ne h rfl), fun h h' => d6_7 (more_ne h rfl) (more_ne h' rfl)⟩)
      clear hK hC hW hL HV f6 f7 d6_7
      rw [HFR.out]
      rw [e0, e1]
      clear e0 e1
      go_wp2_with fail
      refine (and_w a b _ ha hb).mono ?_
      rintro e wx ⟨rfl, hlt, he⟩
      have := H.out _ he
      clear H
      go_wp2_with fail
      show K _ _
      rw [HFR.out] at this
      obtain ⟨u0, u1⟩ := HU.out
      rw [u0, u1] at this
      exact this
    · rintro L A W K hL hC hW ⟨V, rfl, HS, HV, f6, f7, d6_7⟩ hK
      have H := Lib.hid (show ∀ W', Ext W W' → K (fr (upd V 3 (wv (a)))) W' from fun W' he => hK _ _ ⟨upd V 3 (wv (a)), rfl, HS.ext he, HV.up 3 _ (fun x hx => Option.some.inj hx), fun h => Nb.weak (Nb.ext (f6 (more_ne h rfl)) he) (fun h => more_ne h rfl), fun h => Nb.weak (Nb.ext (f7 (more_ne h rfl)) he) (fun h => more_ne h rfl), fun h h' => d6_7 (more_ne h rfl) (more_ne h' rfl)⟩)
      clear hK hC hW hL HV f6 f7 d6_7
      rw [HFR.out]
      refine wpList_load_wordG rfl 27 25 (.tmp 3) rfl Try.underlying27 winfo (w.heap.size) (a) rfl (HS.at (w.heap.size) (a) (by simp)) ?_
      show K _ _
      have := H.out _ (Ext.refl _)
      rw [HFR.out] at this
      exact this
    · rintro L A W K hL hC hW ⟨V, rfl, HS, HV, f6, f7, d6_7⟩ hK
      have H := Lib.hid (show ∀ W', Ext W W' → K (fr (upd V 4 (wv (b)))) W' from fun W' he => hK _ _ ⟨upd V 4 (wv (b)), rfl, HS.ext he, HV.up 4 _ (fun x hx => Option.some.inj hx), fun h => Nb.weak (Nb.ext (f6 (more_ne h rfl)) he) (fun h => more_ne h rfl), fun h => Nb.weak (Nb.ext (f7 (more_ne h rfl)) he) (fun h => more_ne h rfl), fun h h' => d6_7 (more_ne h rfl) (more_ne h' rfl)⟩)
      clear hK hC hW hL HV f6 f7 d6_7
      rw [HFR.out]
      refine wpList_load_wordG rfl 27 25 (.tmp 4) rfl Try.underlying27 winfo (w.heap.size + 1) (b) rfl (HS.at (w.heap.size + 1) (b) (by simp)) ?_
      show K _ _
      have := H.out _ (Ext.refl _)
      rw [HFR.out] at this
      exact this
    · rintro L A W K hL hC hW ⟨V, rfl, HS, HV, f6, f7, d6_7⟩ hK
      have e3 : V 3 = wv (a) := HV 3 _ rfl (hW 3 rfl)
      have e4 : V 4 = wv (b) := HV 4 _ rfl (hW 4 rfl)
      have u3 : (upd V 5 (wv (xorN a b))) 3 = wv (a) := e3
      have u4 : (upd V 5 (wv (xorN a b))) 4 = wv (b) := e4
      have HU := Lib.hid (show (upd V 5 (wv (xorN a b))) 3 = wv (a) ∧ (upd V 5 (wv (xorN a b))) 4 = wv (b) from ⟨u3, u4⟩)
      clear u3 u4
      have H := Lib.hid (show ∀ W', Ext W W' → K (fr (upd V 5 (wv (xorN a b)))) W' from fun W' he => hK _ _ ⟨upd V 5 (wv (xorN a b)), rfl, HS.ext he, HV.up 5 _ (fun x hx => Option.some.inj hx), fun h => Nb.weak (Nb.ext (f6 (more_ne h rfl)) he) (fun h => more_ne h rfl), fun h => Nb.weak (Nb.ext (f7 (more_ne h rfl)) he) (fun h => more_ne h rfl), fun h h' => d6_7 (more_ne h rfl) (more_ne h' rfl)⟩)
      clear hK hC hW hL HV f6 f7 d6_7
      rw [HFR.out]
      rw [e3, e4]
      clear e3 e4
      go_wp2_with fail
      refine (xor_w a b _ ha hb).mono ?_
      rintro e wx ⟨rfl, hlt, he⟩
      have := H.out _ he
      clear H
      go_wp2_with fail
      show K _ _
      rw [HFR.out] at this
      obtain ⟨u3, u4⟩ := HU.out
      rw [u3, u4] at this
      exact this
    · rintro L A W K hL hC hW ⟨V, rfl, HS, HV, f6, f7, d6_7⟩ hK
      have H := Lib.hid (hK _ _ ⟨upd V 6 (.pointer (some ⟨W.heap.size, 0, none⟩)), rfl, HS.al _, HV.up 6 _ (fun x hx => absurd hx (by intro h; cases h)), fun _ => Nb.new HS _ (by show More L 6 8 = false; unfold More; rw [if_neg (by decide)]; exact hC.no hL 8 _ rfl rfl) _, fun h => Nb.weak (Nb.ext (f7 (more_ne h rfl)) ((Ext.refl W).alloc _)) (fun h => more_ne h rfl), fun _ h => (f7 (more_ne h rfl)).fresh.symm⟩)
      clear hK hC hW hL HV f6 f7 d6_7
      rw [HFR.out]
      go_wp2_with fail
      show K _ _
      have := H.out
      rw [HFR.out] at this
      exact this
    · rintro L A W K hL hC hW ⟨V, rfl, HS, HV, f6, f7, d6_7⟩ hK
      have H := Lib.hid (hK _ _ ⟨upd V 7 (.pointer (some ⟨W.heap.size, 0, none⟩)), rfl, HS.al _, HV.up 7 _ (fun x hx => absurd hx (by intro h; cases h)), fun h => Nb.weak (Nb.ext (f6 (more_ne h rfl)) ((Ext.refl W).alloc _)) (fun h => more_ne h rfl), fun _ => Nb.new HS _ (by show More L 7 9 = false; unfold More; rw [if_neg (by decide)]; exact hC.no hL 9 _ rfl rfl) _, fun h _ => (f6 (more_ne h rfl)).fresh⟩)
      clear hK hC hW hL HV f6 f7 d6_7
      rw [HFR.out]
      go_wp2_with fail
      show K _ _
      have := H.out
      rw [HFR.out] at this
      exact this
    · rintro L A W K hL hC hW ⟨V, rfl, HS, HV, f6, f7, d6_7⟩ hK
      have e2 : V 2 = wv (andN a b) := HV 2 _ rfl (hW 2 rfl)
      have u2 : (V) 2 = wv (andN a b) := e2
      have HU := Lib.hid (show (V) 2 = wv (andN a b) from u2)
      clear u2
      rw [HFR.out]
      rw [e2]
      refine wpList_store_nb rfl rfl (.tmp 7) (.tmp 53) rfl winfo HS (f6 (hW 6 rfl)) rfl rfl ?_
      intro W' g hg HS' hn hgr
      show K _ _
      have := hK _ _ ⟨V, rfl, HS', HV.st 8 rfl, fun _ => hn _, fun h => (Nb.other (f7 (more_ne h rfl)) hgr (by rw [← hg]; exact (d6_7 (hW 6 rfl) (more_ne h rfl)).symm)).weak (fun h => more_ne h rfl), fun h h' => d6_7 (more_ne h rfl) (more_ne h' rfl)⟩
      rw [HFR.out] at this
      obtain u2 := HU.out
      rw [u2] at this
      exact this
    · rintro L A W K hL hC hW ⟨V, rfl, HS, HV, f6, f7, d6_7⟩ hK
      have e5 : V 5 = wv (xorN a b) := HV 5 _ rfl (hW 5 rfl)
      have u5 : (V) 5 = wv (xorN a b) := e5
      have HU := Lib.hid (show (V) 5 = wv (xorN a b) from u5)
      clear u5
      rw [HFR.out]
      rw [e5]
      refine wpList_store_nb rfl rfl (.tmp 8) (.tmp 56) rfl winfo HS (f7 (hW 7 rfl)) rfl rfl ?_
      intro W' g hg HS' hn hgr
      show K _ _
      have := hK _ _ ⟨V, rfl, HS', HV.st 9 rfl, fun h => (Nb.other (f6 (more_ne h rfl)) hgr (by rw [← hg]; exact d6_7 (more_ne h rfl) (hW 7 rfl))).weak (fun h => more_ne h rfl), fun _ => hn _, fun h h' => d6_7 (more_ne h rfl) (more_ne h' rfl)⟩
      rw [HFR.out] at this
      obtain u5 := HU.out
      rw [u5] at this
      exact this
    · rintro L A W hL ⟨V, rfl, HS, HV, f6, f7, d6_7⟩
      have e0 : V 0 = wv (a) := HV 0 _ rfl (hL 0 (by simp))
      have e1 : V 1 = wv (b) := HV 1 _ rfl (hL 1 (by simp))
      have e2 : V 2 = wv (andN a b) := HV 2 _ rfl (hL 2 (by simp))
      have e3 : V 3 = wv (a) := HV 3 _ rfl (hL 3 (by simp))
      have e4 : V 4 = wv (b) := HV 4 _ rfl (hL 4 (by simp))
      have e5 : V 5 = wv (xorN a b) := HV 5 _ rfl (hL 5 (by simp))
      obtain ⟨g7, p7, hb7, hn7, k7⟩ := Nb.done (Nb.weak (f6 (hL 6 (by simp))) (fun _ => hL 8 (by simp)))
      obtain ⟨g8, p8, hb8, hn8, k8⟩ := Nb.done (Nb.weak (f7 (hL 7 (by simp))) (fun _ => hL 9 (by simp)))
      rw [HFR.out]
      rw [e0, e1, e2, e3, e4, e5, p7, p8]
      clear hL HV e0 e1 e2 e3 e4 e5 p7 p8 f6 f7 d6_7
      have HS := HS.two k7 k8
      clear HFR hb7 hn7 k7 hb8 hn8 k8
      go_wp2_with (first
        | ((with_reducible refine wpList_load_wordG ?_ 27 25 (.tmp 7) rfl Try.underlying27 winfo (g7) (andN a b) ?_ ?_ ?_); (exact rfl); (exact rfl); (exact HS.at (g7) (andN a b) (by simp))))
      refine (add_w (andN a b) (andN a b) _ (andN_lt a b hb) (andN_lt a b hb)).mono ?_
      rintro e w7 ⟨rfl, k7, he⟩
      have HS := HS.ext he
      clear he
      generalize ovr (andN a b) (andN a b) = o1
      go_wp2_with (first
        | ((with_reducible refine wpList_store_word rfl rfl 27 (.tmp 9) (.tmp 61) rfl winfo (w7.heap.size) (wc 0) (addN (andN a b) (andN a b)) ?_ ?_ ?_ ?_ ?_); (exact rfl); (exact rfl); (exact heap_alloc_new _ _); (exact rfl); intro w8 kz gz; have HS := HS.put gz kz; clear kz gz)
        | ((with_reducible refine wpList_load_wordG ?_ 27 25 (.tmp 9) rfl Try.underlying27 winfo (w7.heap.size) (addN (andN a b) (andN a b)) ?_ ?_ ?_); (exact rfl); (exact rfl); (exact HS.at (w7.heap.size) (addN (andN a b) (andN a b)) (by simp)))
        | ((with_reducible refine wpList_load_wordG ?_ 27 25 (.tmp 8) rfl Try.underlying27 winfo (g8) (xorN a b) ?_ ?_ ?_); (exact rfl); (exact rfl); (exact HS.at (g8) (xorN a b) (by simp))))
      refine (add_w (addN (andN a b) (andN a b)) (xorN a b) _ (addN_lt _ _) (xorN_lt a b ha hb)).mono ?_
      rintro e ws ⟨rfl, ks, he⟩
      have HS := HS.ext he
      clear he
      generalize ovr (addN (andN a b) (andN a b)) (xorN a b) = o2
      go_wp2_with (first
        | ((with_reducible refine wpList_store_word rfl rfl 27 (.tmp 11) (.tmp 67) rfl winfo (ws.heap.size) (wc 0) (addN (addN (andN a b) (andN a b)) (xorN a b)) ?_ ?_ ?_ ?_ ?_); (exact rfl); (exact rfl); (exact heap_alloc_new _ _); (exact rfl); intro w10 kz gz; have HS := HS.put gz kz; clear kz gz)
        | ((with_reducible refine wpList_load_wordG ?_ 27 25 (.tmp 3) rfl Try.underlying27 winfo (w.heap.size) (a) ?_ ?_ ?_); (exact rfl); (exact rfl); (exact HS.at (w.heap.size) (a) (by simp)))
        | ((with_reducible refine wpList_load_wordG ?_ 27 25 (.tmp 4) rfl Try.underlying27 winfo (w.heap.size + 1) (b) ?_ ?_ ?_); (exact rfl); (exact rfl); (exact HS.at (w.heap.size + 1) (b) (by simp))))
      refine (add_w a b _ ha hb).mono ?_
      rintro e wt ⟨rfl, kt, he⟩
      have HS := HS.ext he
      clear he
      generalize ovr a b = o3
      go_wp2_with (first
        | ((with_reducible refine wpList_store_word rfl rfl 27 (.tmp 13) (.tmp 73) rfl winfo (wt.heap.size) (wc 0) (addN a b) ?_ ?_ ?_ ?_ ?_); (exact rfl); (exact rfl); (exact heap_alloc_new _ _); (exact rfl); intro w12 kz gz; have HS := HS.put gz kz; clear kz gz))
      have HS := HS.sub [(wt.heap.size, addN a b), (ws.heap.size, addN (addN (andN a b) (andN a b)) (xorN a b)), (w.heap.size, a), (w.heap.size + 1, b)] (by simp)
      refine wp_named fun a0 ha0 => ?_
      obtain ⟨fr, hfr⟩ : ∃ fr : (Nat → Value) → Act, ∀ V, fr V = (((((((((a0.put (some 76) (V 0)).put (some 77) (V 1)).put (some 78) (V 2)).put (some 79) (V 3)).put (some 75) (V 4)).put (some 80) (V 5)).put (some 81) (V 6)).put (some 15) (V 7)).put (some 16) (V 9)) := ⟨fun V => (((((((((a0.put (some 76) (V 0)).put (some 77) (V 1)).put (some 78) (V 2)).put (some 79) (V 3)).put (some 75) (V 4)).put (some 80) (V 5)).put (some 81) (V 6)).put (some 15) (V 7)).put (some 16) (V 9)), fun _ => rfl⟩
      rw [ha0] at hfr
      simp only [Act.put, List.setIfInBounds_toArray, List.set_cons_zero, List.set_cons_succ] at hfr
      have HFR := Lib.hid hfr
      clear hfr
      refine wp_region_inv (by kernel_rfl) (by kernel_rfl) (fun L A W => ∃ V : Nat → Value, A = fr V ∧ Ks w [(wt.heap.size, addN a b), (ws.heap.size, addN (addN (andN a b) (andN a b)) (xorN a b)), (w.heap.size, a), (w.heap.size + 1, b)] W ∧ Vals (fun j => ([some (wv (a)), some (wv (a)), some (wv (notN a)), some (.tuple #[wv (addN a (notN a)), .bool (ovr a (notN a))]), some (.tuple #[wv (addN a (notN a)), .bool (ovr a (notN a))]), some (wv (addN a (notN a))), some (.bool (ovr a (notN a))), none, none, some (.bool (ovr a (notN a)))] : List (Option Value)).getD j none) L V ∧ (L 7 = true → Nb w [(wt.heap.size, addN a b), (ws.heap.size, addN (addN (andN a b) (andN a b)) (xorN a b)), (w.heap.size, a), (w.heap.size + 1, b)] W (V 7) (L 8) (addN a (notN a)))) ?_ ⟨?_, ?_, ?_, ?_, ?_, ?_, ?_, ?_, ?_, ?_, trivial⟩ ?_
      · refine ⟨fun j => a0.tmps.getD (([76, 77, 78, 79, 75, 80, 81, 15, 0, 16] : List Nat).getD j 0) undef, ?_, HS.drew, Vals.no _ _ _ (fun j hj => by simp at hj; simp [List.getD, List.getElem?_eq_none, hj]), fun h => absurd h (by decide)⟩
        rw [HFR.out, ha0]
        rfl
      all_goals clear ha0
      · rintro L A W K hL hC hW ⟨V, rfl, HS, HV, f7⟩ hK
        have H := Lib.hid (show ∀ W', Ext W W' → K (fr (upd V 0 (wv (a)))) W' from fun W' he => hK _ _ ⟨upd V 0 (wv (a)), rfl, HS.ext he, HV.up 0 _ (fun x hx => Option.some.inj hx), fun h => Nb.weak (Nb.ext (f7 (more_ne h rfl)) he) (fun h => more_ne h rfl)⟩)
        clear hK hC hW hL HV f7
        rw [HFR.out]
        refine wpList_load_wordG rfl 27 25 (.tmp 3) rfl Try.underlying27 winfo (w.heap.size) (a) rfl (HS.at (w.heap.size) (a) (by simp)) ?_
        show K _ _
        have := H.out _ (Ext.refl _)
        rw [HFR.out] at this
        exact this
      · rintro L A W K hL hC hW ⟨V, rfl, HS, HV, f7⟩ hK
        have H := Lib.hid (show ∀ W', Ext W W' → K (fr (upd V 1 (wv (a)))) W' from fun W' he => hK _ _ ⟨upd V 1 (wv (a)), rfl, HS.ext he, HV.up 1 _ (fun x hx => Option.some.inj hx), fun h => Nb.weak (Nb.ext (f7 (more_ne h rfl)) he) (fun h => more_ne h rfl)⟩)
        clear hK hC hW hL HV f7
        rw [HFR.out]
        refine wpList_load_wordG rfl 27 25 (.tmp 3) rfl Try.underlying27 winfo (w.heap.size) (a) rfl (HS.at (w.heap.size) (a) (by simp)) ?_
        show K _ _
        have := H.out _ (Ext.refl _)
        rw [HFR.out] at this
        exact this
      · rintro L A W K hL hC hW ⟨V, rfl, HS, HV, f7⟩ hK
        have e1 : V 1 = wv (a) := HV 1 _ rfl (hW 1 rfl)
        have u1 : (upd V 2 (wv (notN a))) 1 = wv (a) := e1
        have HU := Lib.hid (show (upd V 2 (wv (notN a))) 1 = wv (a) from u1)
        clear u1
        have H := Lib.hid (show ∀ W', Ext W W' → K (fr (upd V 2 (wv (notN a)))) W' from fun W' he => hK _ _ ⟨upd V 2 (wv (notN a)), rfl, HS.ext he, HV.up 2 _ (fun x hx => Option.some.inj hx), fun h => Nb.weak (Nb.ext (f7 (more_ne h rfl)) he) (fun h => more_ne h rfl)⟩)
        clear hK hC hW hL HV f7
        rw [HFR.out]
        rw [e1]
        clear e1
        go_wp2_with fail
        refine (not_w a _ ha).mono ?_
        rintro e wx ⟨rfl, hlt, he⟩
        have := H.out _ he
        clear H
        go_wp2_with fail
        show K _ _
        rw [HFR.out] at this
        obtain u1 := HU.out
        rw [u1] at this
        exact this
      · rintro L A W K hL hC hW ⟨V, rfl, HS, HV, f7⟩ hK
        have e0 : V 0 = wv (a) := HV 0 _ rfl (hW 0 rfl)
        have e2 : V 2 = wv (notN a) := HV 2 _ rfl (hW 2 rfl)
        have u0 : (upd V 3 (.tuple #[wv (addN a (notN a)), .bool (ovr a (notN a))])) 0 = wv (a) := e0
        have u2 : (upd V 3 (.tuple #[wv (addN a (notN a)), .bool (ovr a (notN a))])) 2 = wv (notN a) := e2
        have HU := Lib.hid (show (upd V 3 (.tuple #[wv (addN a (notN a)), .bool (ovr a (notN a))])) 0 = wv (a) ∧ (upd V 3 (.tuple #[wv (addN a (notN a)), .bool (ovr a (notN a))])) 2 = wv (notN a) from ⟨u0, u2⟩)
        clear u0 u2
        have H := Lib.hid (show ∀ W', Ext W W' → K (fr (upd V 3 (.tuple #[wv (addN a (notN a)), .bool (ovr a (notN a))]))) W' from fun W' he => hK _ _ ⟨upd V 3 (.tuple #[wv (addN a (notN a)), .bool (ovr a (notN a))]), rfl, HS.ext he, HV.up 3 _ (fun x hx => Option.some.inj hx), fun h => Nb.weak (Nb.ext (f7 (more_ne h rfl)) he) (fun h => more_ne h rfl)⟩)
        clear hK hC hW hL HV f7
        rw [HFR.out]
        rw [e0, e2]
        clear e0 e2
        go_wp2_with fail
        refine (add_w a (notN a) _ ha (notN_lt a)).mono ?_
        rintro e wx ⟨rfl, hlt, he⟩
        have := H.out _ he
        clear H
        go_wp2_with fail
        show K _ _
        rw [HFR.out] at this
        obtain ⟨u0, u2⟩ := HU.out
        rw [u0, u2] at this
        exact this
      · rintro L A W K hL hC hW ⟨V, rfl, HS, HV, f7⟩ hK
        have e3 : V 3 = .tuple #[wv (addN a (notN a)), .bool (ovr a (notN a))] := HV 3 _ rfl (hW 3 rfl)
        have u3 : (upd V 4 (.tuple #[wv (addN a (notN a)), .bool (ovr a (notN a))])) 3 = .tuple #[wv (addN a (notN a)), .bool (ovr a (notN a))] := e3
        have HU := Lib.hid (show (upd V 4 (.tuple #[wv (addN a (notN a)), .bool (ovr a (notN a))])) 3 = .tuple #[wv (addN a (notN a)), .bool (ovr a (notN a))] from u3)
        clear u3
        have H := Lib.hid (show ∀ W', Ext W W' → K (fr (upd V 4 (.tuple #[wv (addN a (notN a)), .bool (ovr a (notN a))]))) W' from fun W' he => hK _ _ ⟨upd V 4 (.tuple #[wv (addN a (notN a)), .bool (ovr a (notN a))]), rfl, HS.ext he, HV.up 4 _ (fun x hx => Option.some.inj hx), fun h => Nb.weak (Nb.ext (f7 (more_ne h rfl)) he) (fun h => more_ne h rfl)⟩)
        clear hK hC hW hL HV f7
        rw [HFR.out]
        rw [e3]
        clear e3
        go_wp2_with fail
        show K _ _
        have := H.out _ (Ext.refl _)
        rw [HFR.out] at this
        obtain u3 := HU.out
        rw [u3] at this
        exact this
      · rintro L A W K hL hC hW ⟨V, rfl, HS, HV, f7⟩ hK
        have e4 : V 4 = .tuple #[wv (addN a (notN a)), .bool (ovr a (notN a))] := HV 4 _ rfl (hW 4 rfl)
        have u4 : (upd V 5 (wv (addN a (notN a)))) 4 = .tuple #[wv (addN a (notN a)), .bool (ovr a (notN a))] := e4
        have HU := Lib.hid (show (upd V 5 (wv (addN a (notN a)))) 4 = .tuple #[wv (addN a (notN a)), .bool (ovr a (notN a))] from u4)
        clear u4
        have H := Lib.hid (show ∀ W', Ext W W' → K (fr (upd V 5 (wv (addN a (notN a))))) W' from fun W' he => hK _ _ ⟨upd V 5 (wv (addN a (notN a))), rfl, HS.ext he, HV.up 5 _ (fun x hx => Option.some.inj hx), fun h => Nb.weak (Nb.ext (f7 (more_ne h rfl)) he) (fun h => more_ne h rfl)⟩)
        clear hK hC hW hL HV f7
        rw [HFR.out]
        rw [e4]
        clear e4
        go_wp2_with fail
        show K _ _
        have := H.out _ (Ext.refl _)
        rw [HFR.out] at this
        obtain u4 := HU.out
        rw [u4] at this
        exact this
      · rintro L A W K hL hC hW ⟨V, rfl, HS, HV, f7⟩ hK
        have e4 : V 4 = .tuple #[wv (addN a (notN a)), .bool (ovr a (notN a))] := HV 4 _ rfl (hW 4 rfl)
        have u4 : (upd V 6 (.bool (ovr a (notN a)))) 4 = .tuple #[wv (addN a (notN a)), .bool (ovr a (notN a))] := e4
        have HU := Lib.hid (show (upd V 6 (.bool (ovr a (notN a)))) 4 = .tuple #[wv (addN a (notN a)), .bool (ovr a (notN a))] from u4)
        clear u4
        have H := Lib.hid (show ∀ W', Ext W W' → K (fr (upd V 6 (.bool (ovr a (notN a))))) W' from fun W' he => hK _ _ ⟨upd V 6 (.bool (ovr a (notN a))), rfl, HS.ext he, HV.up 6 _ (fun x hx => Option.some.inj hx), fun h => Nb.weak (Nb.ext (f7 (more_ne h rfl)) he) (fun h => more_ne h rfl)⟩)
        clear hK hC hW hL HV f7
        rw [HFR.out]
        rw [e4]
        clear e4
        go_wp2_with fail
        show K _ _
        have := H.out _ (Ext.refl _)
        rw [HFR.out] at this
        obtain u4 := HU.out
        rw [u4] at this
        exact this
      · rintro L A W K hL hC hW ⟨V, rfl, HS, HV, f7⟩ hK
        have H := Lib.hid (hK _ _ ⟨upd V 7 (.pointer (some ⟨W.heap.size, 0, none⟩)), rfl, HS.al _, HV.up 7 _ (fun x hx => absurd hx (by intro h; cases h)), fun _ => Nb.new HS _ (by show More L 7 8 = false; unfold More; rw [if_neg (by decide)]; exact hC.no hL 8 _ rfl rfl) _⟩)
        clear hK hC hW hL HV f7
        rw [HFR.out]
        go_wp2_with fail
        show K _ _
        have := H.out
        rw [HFR.out] at this
        exact this
      · rintro L A W K hL hC hW ⟨V, rfl, HS, HV, f7⟩ hK
        have e5 : V 5 = wv (addN a (notN a)) := HV 5 _ rfl (hW 5 rfl)
        have u5 : (V) 5 = wv (addN a (notN a)) := e5
        have HU := Lib.hid (show (V) 5 = wv (addN a (notN a)) from u5)
        clear u5
        rw [HFR.out]
        rw [e5]
        refine wpList_store_nb rfl rfl (.tmp 15) (.tmp 80) rfl winfo HS (f7 (hW 7 rfl)) rfl rfl ?_
        intro W' g hg HS' hn hgr
        show K _ _
        have := hK _ _ ⟨V, rfl, HS', HV.st 8 rfl, fun _ => hn _⟩
        rw [HFR.out] at this
        obtain u5 := HU.out
        rw [u5] at this
        exact this
      · rintro L A W K hL hC hW ⟨V, rfl, HS, HV, f7⟩ hK
        have e6 : V 6 = .bool (ovr a (notN a)) := HV 6 _ rfl (hW 6 rfl)
        have u6 : (upd V 9 (.bool (ovr a (notN a)))) 6 = .bool (ovr a (notN a)) := e6
        have HU := Lib.hid (show (upd V 9 (.bool (ovr a (notN a)))) 6 = .bool (ovr a (notN a)) from u6)
        clear u6
        have H := Lib.hid (show ∀ W', Ext W W' → K (fr (upd V 9 (.bool (ovr a (notN a))))) W' from fun W' he => hK _ _ ⟨upd V 9 (.bool (ovr a (notN a))), rfl, HS.ext he, HV.up 9 _ (fun x hx => Option.some.inj hx), fun h => Nb.weak (Nb.ext (f7 (more_ne h rfl)) he) (fun h => more_ne h rfl)⟩)
        clear hK hC hW hL HV f7
        rw [HFR.out]
        rw [e6]
        clear e6
        go_wp2_with fail
        show K _ _
        have := H.out _ (Ext.refl _)
        rw [HFR.out] at this
        obtain u6 := HU.out
        rw [u6] at this
        exact this
      · rintro L A W hL ⟨V, rfl, HS, HV, f7⟩
        have e0 : V 0 = wv (a) := HV 0 _ rfl (hL 0 (by simp))
        have e1 : V 1 = wv (a) := HV 1 _ rfl (hL 1 (by simp))
        have e2 : V 2 = wv (notN a) := HV 2 _ rfl (hL 2 (by simp))
        have e3 : V 3 = .tuple #[wv (addN a (notN a)), .bool (ovr a (notN a))] := HV 3 _ rfl (hL 3 (by simp))
        have e4 : V 4 = .tuple #[wv (addN a (notN a)), .bool (ovr a (notN a))] := HV 4 _ rfl (hL 4 (by simp))
        have e5 : V 5 = wv (addN a (notN a)) := HV 5 _ rfl (hL 5 (by simp))
        have e6 : V 6 = .bool (ovr a (notN a)) := HV 6 _ rfl (hL 6 (by simp))
        have e9 : V 9 = .bool (ovr a (notN a)) := HV 9 _ rfl (hL 9 (by simp))
        obtain ⟨g15, p15, hb15, hn15, k15⟩ := Nb.done (Nb.weak (f7 (hL 7 (by simp))) (fun _ => hL 8 (by simp)))
        rw [HFR.out]
        rw [e0, e1, e2, e3, e4, e5, e6, e9, p15]
        clear hL HV e0 e1 e2 e3 e4 e5 e6 e9 p15 f7
        have HS := HS.cons k15
        clear HFR hb15 hn15 k15
        go_wp2_with fail
        refine wp_named fun a0 ha0 => ?_
        obtain ⟨fr, hfr⟩ : ∃ fr : (Nat → Value) → Act, ∀ V, fr V = (((((((((((((((((((a0.put (some 82) (V 0)).put (some 83) (V 1)).put (some 84) (V 2)).put (some 85) (V 3)).put (some 86) (V 4)).put (some 87) (V 5)).put (some 88) (V 6)).put (some 89) (V 7)).put (some 90) (V 8)).put (some 91) (V 9)).put (some 92) (V 10)).put (some 93) (V 11)).put (some 94) (V 12)).put (some 95) (V 13)).put (some 96) (V 14)).put (some 97) (V 15)).put (some 98) (V 16)).put (some 99) (V 17)).put (some 6) (V 18)) := ⟨fun V => (((((((((((((((((((a0.put (some 82) (V 0)).put (some 83) (V 1)).put (some 84) (V 2)).put (some 85) (V 3)).put (some 86) (V 4)).put (some 87) (V 5)).put (some 88) (V 6)).put (some 89) (V 7)).put (some 90) (V 8)).put (some 91) (V 9)).put (some 92) (V 10)).put (some 93) (V 11)).put (some 94) (V 12)).put (some 95) (V 13)).put (some 96) (V 14)).put (some 97) (V 15)).put (some 98) (V 16)).put (some 99) (V 17)).put (some 6) (V 18)), fun _ => rfl⟩
        rw [ha0] at hfr
        simp only [Act.put, List.setIfInBounds_toArray, List.set_cons_zero, List.set_cons_succ] at hfr
        have HFR := Lib.hid hfr
        clear hfr
        refine wp_region_inv (by kernel_rfl) (by kernel_rfl) (fun L A W => ∃ V : Nat → Value, A = fr V ∧ Ks w [(g15, addN a (notN a)), (wt.heap.size, addN a b), (ws.heap.size, addN (addN (andN a b) (andN a b)) (xorN a b)), (w.heap.size, a), (w.heap.size + 1, b)] W ∧ Vals (fun j => ([some (wv (addN (addN (andN a b) (andN a b)) (xorN a b))), some (wv (addN a b)), some (.bool true), some (.bool true), some (wv (addN a (notN a))), some (wv 0), some (wv (notN 0)), some (.bool true), some (.bool true), some (.bool true), some (wv (a)), some (wv (b)), some (wv (xorN a b)), some (wv (b)), some (wv (xorN (xorN a b) b)), some (wv (a)), some (.bool true), some (.bool true), some (.bool true)] : List (Option Value)).getD j none) L V) ?_ ⟨?_, ?_, ?_, ?_, ?_, ?_, ?_, ?_, ?_, ?_, ?_, ?_, ?_, ?_, ?_, ?_, ?_, ?_, ?_, trivial⟩ ?_
        · refine ⟨fun j => a0.tmps.getD (([82, 83, 84, 85, 86, 87, 88, 89, 90, 91, 92, 93, 94, 95, 96, 97, 98, 99, 6] : List Nat).getD j 0) undef, ?_, HS.drew, Vals.no _ _ _ (fun j hj => by simp at hj; simp [List.getD, List.getElem?_eq_none, hj])⟩
          rw [HFR.out, ha0]
          rfl
        all_goals clear ha0
        · rintro L A W K hL hC hW ⟨V, rfl, HS, HV⟩ hK
          have H := Lib.hid (show ∀ W', Ext W W' → K (fr (upd V 0 (wv (addN (addN (andN a b) (andN a b)) (xorN a b))))) W' from fun W' he => hK _ _ ⟨upd V 0 (wv (addN (addN (andN a b) (andN a b)) (xorN a b))), rfl, HS.ext he, HV.up 0 _ (fun x hx => Option.some.inj hx)⟩)
          clear hK hC hW hL HV 
          rw [HFR.out]
          refine wpList_load_wordG rfl 27 25 (.tmp 11) rfl Try.underlying27 winfo (ws.heap.size) (addN (addN (andN a b) (andN a b)) (xorN a b)) rfl (HS.at (ws.heap.size) (addN (addN (andN a b) (andN a b)) (xorN a b)) (by simp)) ?_
          show K _ _
          have := H.out _ (Ext.refl _)
          rw [HFR.out] at this
          exact this
        · rintro L A W K hL hC hW ⟨V, rfl, HS, HV⟩ hK
          have H := Lib.hid (show ∀ W', Ext W W' → K (fr (upd V 1 (wv (addN a b)))) W' from fun W' he => hK _ _ ⟨upd V 1 (wv (addN a b)), rfl, HS.ext he, HV.up 1 _ (fun x hx => Option.some.inj hx)⟩)
          clear hK hC hW hL HV 
          rw [HFR.out]
          refine wpList_load_wordG rfl 27 25 (.tmp 13) rfl Try.underlying27 winfo (wt.heap.size) (addN a b) rfl (HS.at (wt.heap.size) (addN a b) (by simp)) ?_
          show K _ _
          have := H.out _ (Ext.refl _)
          rw [HFR.out] at this
          exact this
        · rintro L A W K hL hC hW ⟨V, rfl, HS, HV⟩ hK
          have e0 : V 0 = wv (addN (addN (andN a b) (andN a b)) (xorN a b)) := HV 0 _ rfl (hW 0 rfl)
          have e1 : V 1 = wv (addN a b) := HV 1 _ rfl (hW 1 rfl)
          have u0 : (upd V 2 (.bool true)) 0 = wv (addN (addN (andN a b) (andN a b)) (xorN a b)) := e0
          have u1 : (upd V 2 (.bool true)) 1 = wv (addN a b) := e1
          have HU := Lib.hid (show (upd V 2 (.bool true)) 0 = wv (addN (addN (andN a b) (andN a b)) (xorN a b)) ∧ (upd V 2 (.bool true)) 1 = wv (addN a b) from ⟨u0, u1⟩)
          clear u0 u1
          have H := Lib.hid (show ∀ W', Ext W W' → K (fr (upd V 2 (.bool true))) W' from fun W' he => hK _ _ ⟨upd V 2 (.bool true), rfl, HS.ext he, HV.up 2 _ (fun x hx => Option.some.inj hx)⟩)
          clear hK hC hW hL HV 
          rw [HFR.out]
          rw [e0, e1]
          clear e0 e1
          refine wpList_eql_word rfl (.tmp 82) (.tmp 83) rfl (addN (addN (andN a b) (andN a b)) (xorN a b)) (addN a b) (addN_lt _ _) (addN_lt _ _) rfl rfl ?_
          rw [show ((addN (addN (andN a b) (andN a b)) (xorN a b)) == (addN a b)) = true from by rw [twice_one]; exact beq_self_eq_true _]
          show K _ _
          have := H.out _ (Ext.refl _)
          rw [HFR.out] at this
          obtain ⟨u0, u1⟩ := HU.out
          rw [u0, u1] at this
          exact this
        · rintro L A W K hL hC hW ⟨V, rfl, HS, HV⟩ hK
          have e2 : V 2 = .bool true := HV 2 _ rfl (hW 2 rfl)
          have u2 : (upd V 3 (.bool true)) 2 = .bool true := e2
          have HU := Lib.hid (show (upd V 3 (.bool true)) 2 = .bool true from u2)
          clear u2
          have H := Lib.hid (show ∀ W', Ext W W' → K (fr (upd V 3 (.bool true))) W' from fun W' he => hK _ _ ⟨upd V 3 (.bool true), rfl, HS.ext he, HV.up 3 _ (fun x hx => Option.some.inj hx)⟩)
          clear hK hC hW hL HV 
          rw [HFR.out]
          rw [e2]
          clear e2
          go_wp2_with fail
          show K _ _
          have := H.out _ (Ext.refl _)
          rw [HFR.out] at this
          obtain u2 := HU.out
          rw [u2] at this
          exact this
        · rintro L A W K hL hC hW ⟨V, rfl, HS, HV⟩ hK
          have e3 : V 3 = .bool true := HV 3 _ rfl (hW 3 rfl)
          have u3 : (upd V 4 (wv (addN a (notN a)))) 3 = .bool true := e3
          have HU := Lib.hid (show (upd V 4 (wv (addN a (notN a)))) 3 = .bool true from u3)
          clear u3
          have H := Lib.hid (show ∀ W', Ext W W' → K (fr (upd V 4 (wv (addN a (notN a))))) W' from fun W' he => hK _ _ ⟨upd V 4 (wv (addN a (notN a))), rfl, HS.ext he, HV.up 4 _ (fun x hx => Option.some.inj hx)⟩)
          clear hK hC hW hL HV 
          rw [HFR.out]
          rw [e3]
          clear e3
          refine wpList_load_wordG rfl 27 25 (.tmp 15) rfl Try.underlying27 winfo (g15) (addN a (notN a)) rfl (HS.at (g15) (addN a (notN a)) (by simp)) ?_
          show K _ _
          have := H.out _ (Ext.refl _)
          rw [HFR.out] at this
          obtain u3 := HU.out
          rw [u3] at this
          exact this
        · rintro L A W K hL hC hW ⟨V, rfl, HS, HV⟩ hK
          have e3 : V 3 = .bool true := HV 3 _ rfl (hW 3 rfl)
          have u3 : (upd V 5 (wv 0)) 3 = .bool true := e3
          have HU := Lib.hid (show (upd V 5 (wv 0)) 3 = .bool true from u3)
          clear u3
          have H := Lib.hid (show ∀ W', Ext W W' → K (fr (upd V 5 (wv 0))) W' from fun W' he => hK _ _ ⟨upd V 5 (wv 0), rfl, HS.ext he, HV.up 5 _ (fun x hx => Option.some.inj hx)⟩)
          clear hK hC hW hL HV 
          rw [HFR.out]
          rw [e3]
          clear e3
          go_wp2_with fail
          show K _ _
          have := H.out _ (Ext.refl _)
          rw [HFR.out] at this
          obtain u3 := HU.out
          rw [u3] at this
          exact this
        · rintro L A W K hL hC hW ⟨V, rfl, HS, HV⟩ hK
          have e3 : V 3 = .bool true := HV 3 _ rfl (hW 3 rfl)
          have e5 : V 5 = wv 0 := HV 5 _ rfl (hW 5 rfl)
          have u3 : (upd V 6 (wv (notN 0))) 3 = .bool true := e3
          have u5 : (upd V 6 (wv (notN 0))) 5 = wv 0 := e5
          have HU := Lib.hid (show (upd V 6 (wv (notN 0))) 3 = .bool true ∧ (upd V 6 (wv (notN 0))) 5 = wv 0 from ⟨u3, u5⟩)
          clear u3 u5
          have H := Lib.hid (show ∀ W', Ext W W' → K (fr (upd V 6 (wv (notN 0)))) W' from fun W' he => hK _ _ ⟨upd V 6 (wv (notN 0)), rfl, HS.ext he, HV.up 6 _ (fun x hx => Option.some.inj hx)⟩)
          clear hK hC hW hL HV 
          rw [HFR.out]
          rw [e3, e5]
          clear e3 e5
          go_wp2_with fail
          refine (not_w 0 _ (by decide)).mono ?_
          rintro e wx ⟨rfl, hlt, he⟩
          have := H.out _ he
          clear H
          go_wp2_with fail
          show K _ _
          rw [HFR.out] at this
          obtain ⟨u3, u5⟩ := HU.out
          rw [u3, u5] at this
          exact this
        · rintro L A W K hL hC hW ⟨V, rfl, HS, HV⟩ hK
          have e3 : V 3 = .bool true := HV 3 _ rfl (hW 3 rfl)
          have e4 : V 4 = wv (addN a (notN a)) := HV 4 _ rfl (hW 4 rfl)
          have e6 : V 6 = wv (notN 0) := HV 6 _ rfl (hW 6 rfl)
          have u3 : (upd V 7 (.bool true)) 3 = .bool true := e3
          have u4 : (upd V 7 (.bool true)) 4 = wv (addN a (notN a)) := e4
          have u6 : (upd V 7 (.bool true)) 6 = wv (notN 0) := e6
          have HU := Lib.hid (show (upd V 7 (.bool true)) 3 = .bool true ∧ (upd V 7 (.bool true)) 4 = wv (addN a (notN a)) ∧ (upd V 7 (.bool true)) 6 = wv (notN 0) from ⟨u3, u4, u6⟩)
          clear u3 u4 u6
          have H := Lib.hid (show ∀ W', Ext W W' → K (fr (upd V 7 (.bool true))) W' from fun W' he => hK _ _ ⟨upd V 7 (.bool true), rfl, HS.ext he, HV.up 7 _ (fun x hx => Option.some.inj hx)⟩)
          clear hK hC hW hL HV 
          rw [HFR.out]
          rw [e3, e4, e6]
          clear e3 e4 e6
          refine wpList_eql_word rfl (.tmp 86) (.tmp 88) rfl (addN a (notN a)) (notN 0) (addN_lt _ _) (notN_lt 0) rfl rfl ?_
          rw [show ((addN a (notN a)) == (notN 0)) = true from by rw [add_not a ha]; exact beq_self_eq_true _]
          show K _ _
          have := H.out _ (Ext.refl _)
          rw [HFR.out] at this
          obtain ⟨u3, u4, u6⟩ := HU.out
          rw [u3, u4, u6] at this
          exact this
        · rintro L A W K hL hC hW ⟨V, rfl, HS, HV⟩ hK
          have e3 : V 3 = .bool true := HV 3 _ rfl (hW 3 rfl)
          have e7 : V 7 = .bool true := HV 7 _ rfl (hW 7 rfl)
          have u3 : (upd V 8 (.bool true)) 3 = .bool true := e3
          have u7 : (upd V 8 (.bool true)) 7 = .bool true := e7
          have HU := Lib.hid (show (upd V 8 (.bool true)) 3 = .bool true ∧ (upd V 8 (.bool true)) 7 = .bool true from ⟨u3, u7⟩)
          clear u3 u7
          have H := Lib.hid (show ∀ W', Ext W W' → K (fr (upd V 8 (.bool true))) W' from fun W' he => hK _ _ ⟨upd V 8 (.bool true), rfl, HS.ext he, HV.up 8 _ (fun x hx => Option.some.inj hx)⟩)
          clear hK hC hW hL HV 
          rw [HFR.out]
          rw [e3, e7]
          clear e3 e7
          go_wp2_with fail
          show K _ _
          have := H.out _ (Ext.refl _)
          rw [HFR.out] at this
          obtain ⟨u3, u7⟩ := HU.out
          rw [u3, u7] at this
          exact this
        · rintro L A W K hL hC hW ⟨V, rfl, HS, HV⟩ hK
          have e8 : V 8 = .bool true := HV 8 _ rfl (hW 8 rfl)
          have u8 : (upd V 9 (.bool true)) 8 = .bool true := e8
          have HU := Lib.hid (show (upd V 9 (.bool true)) 8 = .bool true from u8)
          clear u8
          have H := Lib.hid (show ∀ W', Ext W W' → K (fr (upd V 9 (.bool true))) W' from fun W' he => hK _ _ ⟨upd V 9 (.bool true), rfl, HS.ext he, HV.up 9 _ (fun x hx => Option.some.inj hx)⟩)
          clear hK hC hW hL HV 
          rw [HFR.out]
          rw [e8]
          clear e8
          go_wp2_with fail
          show K _ _
          have := H.out _ (Ext.refl _)
          rw [HFR.out] at this
          obtain u8 := HU.out
          rw [u8] at this
          exact this
        · rintro L A W K hL hC hW ⟨V, rfl, HS, HV⟩ hK
          have e9 : V 9 = .bool true := HV 9 _ rfl (hW 9 rfl)
          have u9 : (upd V 10 (wv (a))) 9 = .bool true := e9
          have HU := Lib.hid (show (upd V 10 (wv (a))) 9 = .bool true from u9)
          clear u9
          have H := Lib.hid (show ∀ W', Ext W W' → K (fr (upd V 10 (wv (a)))) W' from fun W' he => hK _ _ ⟨upd V 10 (wv (a)), rfl, HS.ext he, HV.up 10 _ (fun x hx => Option.some.inj hx)⟩)
          clear hK hC hW hL HV 
          rw [HFR.out]
          rw [e9]
          clear e9
          refine wpList_load_wordG rfl 27 25 (.tmp 3) rfl Try.underlying27 winfo (w.heap.size) (a) rfl (HS.at (w.heap.size) (a) (by simp)) ?_
          show K _ _
          have := H.out _ (Ext.refl _)
          rw [HFR.out] at this
          obtain u9 := HU.out
          rw [u9] at this
          exact this
        · rintro L A W K hL hC hW ⟨V, rfl, HS, HV⟩ hK
          have e9 : V 9 = .bool true := HV 9 _ rfl (hW 9 rfl)
          have u9 : (upd V 11 (wv (b))) 9 = .bool true := e9
          have HU := Lib.hid (show (upd V 11 (wv (b))) 9 = .bool true from u9)
          clear u9
          have H := Lib.hid (show ∀ W', Ext W W' → K (fr (upd V 11 (wv (b)))) W' from fun W' he => hK _ _ ⟨upd V 11 (wv (b)), rfl, HS.ext he, HV.up 11 _ (fun x hx => Option.some.inj hx)⟩)
          clear hK hC hW hL HV 
          rw [HFR.out]
          rw [e9]
          clear e9
          refine wpList_load_wordG rfl 27 25 (.tmp 4) rfl Try.underlying27 winfo (w.heap.size + 1) (b) rfl (HS.at (w.heap.size + 1) (b) (by simp)) ?_
          show K _ _
          have := H.out _ (Ext.refl _)
          rw [HFR.out] at this
          obtain u9 := HU.out
          rw [u9] at this
          exact this
        · rintro L A W K hL hC hW ⟨V, rfl, HS, HV⟩ hK
          have e9 : V 9 = .bool true := HV 9 _ rfl (hW 9 rfl)
          have e10 : V 10 = wv (a) := HV 10 _ rfl (hW 10 rfl)
          have e11 : V 11 = wv (b) := HV 11 _ rfl (hW 11 rfl)
          have u9 : (upd V 12 (wv (xorN a b))) 9 = .bool true := e9
          have u10 : (upd V 12 (wv (xorN a b))) 10 = wv (a) := e10
          have u11 : (upd V 12 (wv (xorN a b))) 11 = wv (b) := e11
          have HU := Lib.hid (show (upd V 12 (wv (xorN a b))) 9 = .bool true ∧ (upd V 12 (wv (xorN a b))) 10 = wv (a) ∧ (upd V 12 (wv (xorN a b))) 11 = wv (b) from ⟨u9, u10, u11⟩)
          clear u9 u10 u11
          have H := Lib.hid (show ∀ W', Ext W W' → K (fr (upd V 12 (wv (xorN a b)))) W' from fun W' he => hK _ _ ⟨upd V 12 (wv (xorN a b)), rfl, HS.ext he, HV.up 12 _ (fun x hx => Option.some.inj hx)⟩)
          clear hK hC hW hL HV 
          rw [HFR.out]
          rw [e9, e10, e11]
          clear e9 e10 e11
          go_wp2_with fail
          refine (xor_w a b _ ha hb).mono ?_
          rintro e wx ⟨rfl, hlt, he⟩
          have := H.out _ he
          clear H
          go_wp2_with fail
          show K _ _
          rw [HFR.out] at this
          obtain ⟨u9, u10, u11⟩ := HU.out
          rw [u9, u10, u11] at this
          exact this
        · rintro L A W K hL hC hW ⟨V, rfl, HS, HV⟩ hK
          have e9 : V 9 = .bool true := HV 9 _ rfl (hW 9 rfl)
          have u9 : (upd V 13 (wv (b))) 9 = .bool true := e9
          have HU := Lib.hid (show (upd V 13 (wv (b))) 9 = .bool true from u9)
          clear u9
          have H := Lib.hid (show ∀ W', Ext W W' → K (fr (upd V 13 (wv (b)))) W' from fun W' he => hK _ _ ⟨upd V 13 (wv (b)), rfl, HS.ext he, HV.up 13 _ (fun x hx => Option.some.inj hx)⟩)
          clear hK hC hW hL HV 
          rw [HFR.out]
          rw [e9]
          clear e9
          refine wpList_load_wordG rfl 27 25 (.tmp 4) rfl Try.underlying27 winfo (w.heap.size + 1) (b) rfl (HS.at (w.heap.size + 1) (b) (by simp)) ?_
          show K _ _
          have := H.out _ (Ext.refl _)
          rw [HFR.out] at this
          obtain u9 := HU.out
          rw [u9] at this
          exact this
        · rintro L A W K hL hC hW ⟨V, rfl, HS, HV⟩ hK
          have e9 : V 9 = .bool true := HV 9 _ rfl (hW 9 rfl)
          have e12 : V 12 = wv (xorN a b) := HV 12 _ rfl (hW 12 rfl)
          have e13 : V 13 = wv (b) := HV 13 _ rfl (hW 13 rfl)
          have u9 : (upd V 14 (wv (xorN (xorN a b) b))) 9 = .bool true := e9
          have u12 : (upd V 14 (wv (xorN (xorN a b) b))) 12 = wv (xorN a b) := e12
          have u13 : (upd V 14 (wv (xorN (xorN a b) b))) 13 = wv (b) := e13
          have HU := Lib.hid (show (upd V 14 (wv (xorN (xorN a b) b))) 9 = .bool true ∧ (upd V 14 (wv (xorN (xorN a b) b))) 12 = wv (xorN a b) ∧ (upd V 14 (wv (xorN (xorN a b) b))) 13 = wv (b) from ⟨u9, u12, u13⟩)
          clear u9 u12 u13
          have H := Lib.hid (show ∀ W', Ext W W' → K (fr (upd V 14 (wv (xorN (xorN a b) b)))) W' from fun W' he => hK _ _ ⟨upd V 14 (wv (xorN (xorN a b) b)), rfl, HS.ext he, HV.up 14 _ (fun x hx => Option.some.inj hx)⟩)
          clear hK hC hW hL HV 
          rw [HFR.out]
          rw [e9, e12, e13]
          clear e9 e12 e13
          go_wp2_with fail
          refine (xor_w (xorN a b) b _ (xorN_lt a b ha hb) hb).mono ?_
          rintro e wx ⟨rfl, hlt, he⟩
          have := H.out _ he
          clear H
          go_wp2_with fail
          show K _ _
          rw [HFR.out] at this
          obtain ⟨u9, u12, u13⟩ := HU.out
          rw [u9, u12, u13] at this
          exact this
        · rintro L A W K hL hC hW ⟨V, rfl, HS, HV⟩ hK
          have e9 : V 9 = .bool true := HV 9 _ rfl (hW 9 rfl)
          have u9 : (upd V 15 (wv (a))) 9 = .bool true := e9
          have HU := Lib.hid (show (upd V 15 (wv (a))) 9 = .bool true from u9)
          clear u9
          have H := Lib.hid (show ∀ W', Ext W W' → K (fr (upd V 15 (wv (a)))) W' from fun W' he => hK _ _ ⟨upd V 15 (wv (a)), rfl, HS.ext he, HV.up 15 _ (fun x hx => Option.some.inj hx)⟩)
          clear hK hC hW hL HV 
          rw [HFR.out]
          rw [e9]
          clear e9
          refine wpList_load_wordG rfl 27 25 (.tmp 3) rfl Try.underlying27 winfo (w.heap.size) (a) rfl (HS.at (w.heap.size) (a) (by simp)) ?_
          show K _ _
          have := H.out _ (Ext.refl _)
          rw [HFR.out] at this
          obtain u9 := HU.out
          rw [u9] at this
          exact this
        · rintro L A W K hL hC hW ⟨V, rfl, HS, HV⟩ hK
          have e9 : V 9 = .bool true := HV 9 _ rfl (hW 9 rfl)
          have e14 : V 14 = wv (xorN (xorN a b) b) := HV 14 _ rfl (hW 14 rfl)
          have e15 : V 15 = wv (a) := HV 15 _ rfl (hW 15 rfl)
          have u9 : (upd V 16 (.bool true)) 9 = .bool true := e9
          have u14 : (upd V 16 (.bool true)) 14 = wv (xorN (xorN a b) b) := e14
          have u15 : (upd V 16 (.bool true)) 15 = wv (a) := e15
          have HU := Lib.hid (show (upd V 16 (.bool true)) 9 = .bool true ∧ (upd V 16 (.bool true)) 14 = wv (xorN (xorN a b) b) ∧ (upd V 16 (.bool true)) 15 = wv (a) from ⟨u9, u14, u15⟩)
          clear u9 u14 u15
          have H := Lib.hid (show ∀ W', Ext W W' → K (fr (upd V 16 (.bool true))) W' from fun W' he => hK _ _ ⟨upd V 16 (.bool true), rfl, HS.ext he, HV.up 16 _ (fun x hx => Option.some.inj hx)⟩)
          clear hK hC hW hL HV 
          rw [HFR.out]
          rw [e9, e14, e15]
          clear e9 e14 e15
          refine wpList_eql_word rfl (.tmp 96) (.tmp 97) rfl (xorN (xorN a b) b) (a) (xorN_lt _ _ (xorN_lt a b ha hb) hb) (ha) rfl rfl ?_
          rw [show ((xorN (xorN a b) b) == (a)) = true from by rw [xor_xor]; exact beq_self_eq_true _]
          show K _ _
          have := H.out _ (Ext.refl _)
          rw [HFR.out] at this
          obtain ⟨u9, u14, u15⟩ := HU.out
          rw [u9, u14, u15] at this
          exact this
        · rintro L A W K hL hC hW ⟨V, rfl, HS, HV⟩ hK
          have e9 : V 9 = .bool true := HV 9 _ rfl (hW 9 rfl)
          have e16 : V 16 = .bool true := HV 16 _ rfl (hW 16 rfl)
          have u9 : (upd V 17 (.bool true)) 9 = .bool true := e9
          have u16 : (upd V 17 (.bool true)) 16 = .bool true := e16
          have HU := Lib.hid (show (upd V 17 (.bool true)) 9 = .bool true ∧ (upd V 17 (.bool true)) 16 = .bool true from ⟨u9, u16⟩)
          clear u9 u16
          have H := Lib.hid (show ∀ W', Ext W W' → K (fr (upd V 17 (.bool true))) W' from fun W' he => hK _ _ ⟨upd V 17 (.bool true), rfl, HS.ext he, HV.up 17 _ (fun x hx => Option.some.inj hx)⟩)
          clear hK hC hW hL HV 
          rw [HFR.out]
          rw [e9, e16]
          clear e9 e16
          go_wp2_with fail
          show K _ _
          have := H.out _ (Ext.refl _)
          rw [HFR.out] at this
          obtain ⟨u9, u16⟩ := HU.out
          rw [u9, u16] at this
          exact this
        · rintro L A W K hL hC hW ⟨V, rfl, HS, HV⟩ hK
          have e17 : V 17 = .bool true := HV 17 _ rfl (hW 17 rfl)
          have u17 : (upd V 18 (.bool true)) 17 = .bool true := e17
          have HU := Lib.hid (show (upd V 18 (.bool true)) 17 = .bool true from u17)
          clear u17
          have H := Lib.hid (show ∀ W', Ext W W' → K (fr (upd V 18 (.bool true))) W' from fun W' he => hK _ _ ⟨upd V 18 (.bool true), rfl, HS.ext he, HV.up 18 _ (fun x hx => Option.some.inj hx)⟩)
          clear hK hC hW hL HV 
          rw [HFR.out]
          rw [e17]
          clear e17
          go_wp2_with fail
          show K _ _
          have := H.out _ (Ext.refl _)
          rw [HFR.out] at this
          obtain u17 := HU.out
          rw [u17] at this
          exact this
        · rintro L A W hL ⟨V, rfl, HS, HV⟩
          have e0 : V 0 = wv (addN (addN (andN a b) (andN a b)) (xorN a b)) := HV 0 _ rfl (hL 0 (by simp))
          have e1 : V 1 = wv (addN a b) := HV 1 _ rfl (hL 1 (by simp))
          have e2 : V 2 = .bool true := HV 2 _ rfl (hL 2 (by simp))
          have e3 : V 3 = .bool true := HV 3 _ rfl (hL 3 (by simp))
          have e4 : V 4 = wv (addN a (notN a)) := HV 4 _ rfl (hL 4 (by simp))
          have e5 : V 5 = wv 0 := HV 5 _ rfl (hL 5 (by simp))
          have e6 : V 6 = wv (notN 0) := HV 6 _ rfl (hL 6 (by simp))
          have e7 : V 7 = .bool true := HV 7 _ rfl (hL 7 (by simp))
          have e8 : V 8 = .bool true := HV 8 _ rfl (hL 8 (by simp))
          have e9 : V 9 = .bool true := HV 9 _ rfl (hL 9 (by simp))
          have e10 : V 10 = wv (a) := HV 10 _ rfl (hL 10 (by simp))
          have e11 : V 11 = wv (b) := HV 11 _ rfl (hL 11 (by simp))
          have e12 : V 12 = wv (xorN a b) := HV 12 _ rfl (hL 12 (by simp))
          have e13 : V 13 = wv (b) := HV 13 _ rfl (hL 13 (by simp))
          have e14 : V 14 = wv (xorN (xorN a b) b) := HV 14 _ rfl (hL 14 (by simp))
          have e15 : V 15 = wv (a) := HV 15 _ rfl (hL 15 (by simp))
          have e16 : V 16 = .bool true := HV 16 _ rfl (hL 16 (by simp))
          have e17 : V 17 = .bool true := HV 17 _ rfl (hL 17 (by simp))
          have e18 : V 18 = .bool true := HV 18 _ rfl (hL 18 (by simp))
          rw [HFR.out]
          rw [e0, e1, e2, e3, e4, e5, e6, e7, e8, e9, e10, e11, e12, e13, e14, e15, e16, e17, e18]
          clear hL HV e0 e1 e2 e3 e4 e5 e6 e7 e8 e9 e10 e11 e12 e13 e14 e15 e16 e17 e18
          go_wp2_with fail
          go_ret
          exact ⟨rfl, HS.2⟩

theorem sets_told (W : World) (args : Array Value) (h : Told Try.f11 W args) : Calls Try.prog 11 args W (RetT W) := by
  obtain ⟨H, enc, base, ds, p, hval, hA⟩ := h
  rw [Try.params11] at hA hval
  obtain ⟨v0, v1, v2, d0, d1, d2, p0, p1, p2, rfl, rfl, rfl, h0, h1, h2⟩ := trodAll_three hA
  obtain ⟨a, ha, rfl⟩ := word_came (hval 0 _ v0 rfl rfl) h0
  obtain ⟨b, hb, rfl⟩ := word_came (hval 1 _ v1 rfl rfl) h1
  obtain ⟨c, hc, rfl⟩ := word_came (hval 2 _ v2 rfl rfl) h2
  exact sets_walk a b c W ha hb hc

theorem sets_spec (H : Type) : ∀ ds : List (DataW H), ds.length = Try.f11.params.toList.length → Rows.wordSetsSpec.fn H ds = { results := [.lit (.bool true)], args := ds }
  | [_, _, _], _ => rfl
  | [], h | [_], h | [_, _], h | _ :: _ :: _ :: _ :: _, h => by rw [Try.params11] at h; simp at h

set_option maxRecDepth 100000 in
theorem wordSets_holds : Rows.WordSetsSaid :=
  OpenClaim.holds_of_wide 11 Try.f11 rfl rfl rfl rfl rfl rfl rfl ⟨rfl, rfl, rfl, rfl, rfl⟩ rfl rfl rfl rfl rfl (by kernel_rfl) Try.func11 (by kernel_rfl)
    (of_decide_eq_true (by kernel_rfl)) (by unfold Func.isWrapper; first | (rw [if_pos (by decide +kernel)]; kernel_rfl) | (rw [if_neg (by decide +kernel)]; exact ⟨rfl, rfl⟩))
    (fun os started H enc _ => law_lifted started (by kernel_rfl) Try.func11 rfl rfl (sets_spec H) (of_decide_eq_true (by kernel_rfl))
      (ChangeSpec.witness6 (enc := enc) (C := Try.checked) false ⟨#[], #[.agg #[.int .u64 0, .int .u64 0, .int .u64 0, .int .u64 0], .agg #[.int .u64 0, .int .u64 0, .int .u64 0, .int .u64 0], .agg #[.int .u64 0, .int .u64 0, .int .u64 0, .int .u64 0]], []⟩ 8 (by kernel_rfl) (by kernel_rfl) (by kernel_rfl) (by kernel_rfl)) sets_told)
end Go.Proofs.Ytiadabjmkabcfaa
