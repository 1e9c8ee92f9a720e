/- Package state: a slot behind all others; Save. -/
import Derived.Test.YtmojbekihbmdfaaStn
namespace Go.Proofs.Ytmojbekihbmdfaa
open Go.ChangeShapes Go.WideShapes Go.ChangeAt Go.RowKit Go.Shelf

set_option maxRecDepth 100000 in
theorem pkf_app (l m : List (Nat × Nat)) : pkf (l ++ m) = pkf l ++ pkf m := by simp [pkf]
set_option maxRecDepth 100000 in
theorem pkf_one1 (p : Nat × Nat) : pkf [p] = (pkc p).toList := by simp [pkf]
set_option maxRecDepth 100000 in
theorem rs_pair {W : World} {g : Nat} {p : Nat × Nat} (h : Cs W g 33 (pkc p)) : Rs W 8 (.slice (some ⟨g, 0, none⟩) 1 1) 1 (pkc p).toList := ⟨rfl, _, _, rfl, Nat.le_refl _, by unfold maxLen; omega, fun _ => ⟨g, 0, rfl, fun i z hz => by
  rw [Nat.zero_add]
  exact Cs.cell h i z (by rwa [Array.getElem?_toList] at hz)⟩⟩
set_option maxRecDepth 100000 in
theorem pair_range {W : World} {g : Nat} {p : Nat × Nat} (h : Cs W g 33 (pkc p)) : W.rangeAt g 0 (pkc p).toList := fun j x hx => by
  rw [Nat.zero_add]
  exact Cs.cell h j x (by rwa [Array.getElem?_toList] at hx)
set_option maxRecDepth 100000 in
theorem pkc_ones (p : Nat × Nat) : ∀ z ∈ (pkc p).toList, z.oneCell' = true := fun z hz => Array.all_eq_true_iff_forall_mem.1 (pkc_one p) z (by simpa using hz)
set_option maxRecDepth 100000 in
set_option maxHeartbeats 2000000 in
theorem insertEnd_any (sv : Value) (l : List (Nat × Nat)) (g : Nat) (p : Nat × Nat) (lo : Nat) (w : World) (hs : OwnK w lo sv l) (hl : l.length ≤ 100000) (hp : p.1 < M256 ∧ p.2 < M256) (hg : Cs w g 33 (pkc p)) (hlo : lo ≤ w.heap.size) :
    Calls Try.prog 91 #[sv, .int .i64 (l.length : Nat), .slice (some ⟨g, 0, none⟩) 1 1] w fun e w' => ∃ v', e = .returned v' ∧ OwnK w' lo v' (l ++ [p]) ∧ w.grownBy w' sv.ownBlock := by
  have HS := Lib.hid hs
  have HP := Lib.hid (rs_pair hg)
  have HLW := Lib.hid (show ∀ q ∈ l ++ [p], q.1 < M256 ∧ q.2 < M256 from fun q hq => by
    rcases List.mem_append.1 hq with h | h
    · exact hs.2 q h
    · rw [List.mem_singleton.1 h]; exact hp)
  obtain ⟨_, A1, c, rfl, h1, h2, _⟩ := Rs.of_own hs.1
  unfold maxLen at h2
  have HLL := Lib.hid (show (l ++ [p]).length = l.length + 1 by simp)
  have HPA := Lib.hid (show pkf (l ++ [p]) = pkf l ++ (pkc p).toList by rw [pkf_app, pkf_one1])
  clear hs hg
  go_enter Try.func91, Try.ntmps91
  go_wp2_with (first
    | (at_builtin; refine wpList_append_row ?_ (.tmp 23) (.tmp 24) 35 rfl lo 33 Try.underlying35 _ 8 64 pkinfo3 rfl (by decide) (.slice A1 l.length c) l.length (pkf l) rfl HS.out.1 (.slice (some ⟨g, 0, none⟩) 1 1) 1 (pkc p).toList rfl HP.out (pkc_ones p) (by omega) (by decide) hlo ?_; (exact rfl); intro v5 w5 o5 g5 b5; have O5 := Lib.hid o5; have G5 := Lib.hid g5; clear o5 g5 b5))
  all_goals
    refine bodyPost_ret (results_tmp rfl _ _ _) rfl ?_
    exact ⟨_, rfl, ⟨by rw [HLL.out, HPA.out]; exact O5.out, HLW.out⟩, by have := G5.out; cases A1 <;> exact this⟩

/-! ### saved -/
/-- The slots, of which that of p's key holds p's value. -/
def savL (l : List (Nat × Nat)) (p : Nat × Nat) : List (Nat × Nat) := (l.filter (fun q => decide (q.1 < p.1)) ++ if p.2 = 0 then [] else [p]) ++ l.filter (fun q => decide (p.1 < q.1))
def SavedOK (l : List (Nat × Nat)) (p : Nat × Nat) : Prop := ∀ (lo : Nat) (W : World) (sv : Value), OwnK W lo sv l → lo ≤ W.heap.size → Calls Try.prog 71 #[sv, .agg (pkc p)] W fun e w' => ∃ v', e = .returned v' ∧ OwnK w' lo v' (savL l p) ∧ W.grownBy w' sv.ownBlock
set_option maxRecDepth 100000 in
theorem grown_ext_any {W W' : World} (h : Ext W W') (row : Option Nat) : W.grownBy W' row := ⟨h.os, h.tape, h.output, h.size, fun k hk _ => Below.block h k hk⟩
set_option maxRecDepth 100000 in
theorem grown_then {W W1 W2 : World} {row : Option Nat} (h : Ext W W1) (k : W1.grownBy W2 row) : W.grownBy W2 row := ⟨k.os.trans h.os, k.tape.trans h.tape, k.output.trans h.output, Nat.le_trans h.size k.size, fun j hj hne => (k.block j (Nat.lt_of_lt_of_le hj h.size) hne).trans (Below.block h j hj)⟩
set_option maxRecDepth 100000 in
set_option maxHeartbeats 4000000 in
theorem saved_nil (p : Nat × Nat) (hp : p.1 < M256 ∧ p.2 < M256) (hp0 : p.2 ≠ 0) : SavedOK [] p := by
  intro lo w sv hs hlo
  have HS := Lib.hid hs
  obtain ⟨_, A1, c, rfl, h1, h2, _⟩ := Rs.of_own hs.1
  have HK : Hid (Cs (w.alloc (.cells (pkc p) 33)) w.heap.size 33 (pkc p)) := Lib.hid (Cs.new _ _ _ _ rfl)
  have HE := Lib.hid ((Ext.refl w).alloc (.cells (pkc p) 33))
  have HPK := Lib.hid (pkb_key HK.out)
  have HSL := Lib.hid (show savL [] p = [p] by simp [savL, hp0])
  have hz : (p.2 == 0) = false := by simpa using hp0
  have HNZ := Lib.hid hz
  clear hs hp0 hz
  obtain ⟨pc, hpc⟩ : ∃ pc, pkc p = pc := ⟨_, rfl⟩
  have HPC := Lib.hid hpc
  rw [hpc] at HE HK HPK ⊢
  clear hpc
  go_enter Try.func71, Try.ntmps71
  go_wp2_with ((with_reducible refine wpList_load_wordIn ?_ (.tmp 9) ?_ w.heap.size 0 p.1 ?_ ?_ ?_); (exact rfl); (exact rfl); (exact rfl); (exact HPK.out))
  generalize w.alloc (.cells pc 33) = w0 at *
  refine (slot_any _ [] p.1 _ (HS.out.ext HE.out).pks (fun i j _ h => by simp at h) (by simp) hp.1).mono ?_
  rintro e w1 ⟨rfl, he⟩
  have HE1 := Lib.hid (HE.out.trans he)
  have HK1 := Lib.hid (Cs.ext HK.out he)
  rw [← HPC.out] at HK1
  have HPV := Lib.hid (pkb_val HK1.out)
  clear he HK HE HPK
  rw [show posK [] p.1 = 0 from rfl, show hasK [] p.1 = false from rfl]
  go_wp2_with (first
    | ((with_reducible refine wpList_load_wordIn ?_ (.tmp 20) ?_ w.heap.size 4 p.2 ?_ ?_ ?_); (exact rfl); (exact rfl); (exact rfl); (exact HPV.out))
    | ((with_reducible refine wpList_eql_word ?_ (.tmp 21) (.tmp 22) ?_ p.2 0 hp.2 (by decide) ?_ ?_ ?_); (exact rfl); (exact rfl); (exact rfl); (exact rfl); rw [HNZ.out])
    | ((with_reducible refine wpList_load_pair ?_ (.tmp 3) ?_ w.heap.size 0 p ?_ ?_ ?_); (exact rfl); (exact rfl); (exact rfl); (exact pair_range HK1.out))
    | ((with_reducible refine wpList_build_one ?_ (.tmp 27) 35 33 ?_ Try.underlying35 _ 8 64 pkinfo3 (by decide) (by decide) (pkc p) rfl ?_ ?_); (exact rfl); (exact rfl); (exact rfl)))
  have HS1 := Lib.hid ((HS.out.ext HE1.out).ext ((Ext.refl w1).alloc (.cells (pkc p) 33)))
  refine (insertEnd_any _ [] w1.heap.size p lo _ HS1.out (by simp) hp (Cs.new _ _ _ _ rfl) (by have := HE1.out.size; simp; omega)).mono ?_
  rintro e w2 ⟨v', rfl, ho, hg⟩
  have HO := Lib.hid ho
  have HG := Lib.hid (grown_then (HE1.out.alloc (.cells (pkc p) 33)) hg)
  clear ho hg
  go_wp2_with fail
  refine bodyPost_ret (results_tmp rfl _ _ _) rfl ?_
  exact ⟨_, rfl, by rw [HSL.out]; exact HO.out, HG.out⟩
end Go.Proofs.Ytmojbekihbmdfaa
