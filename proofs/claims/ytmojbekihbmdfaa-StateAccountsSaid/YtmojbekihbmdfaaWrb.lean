/- Contracts of package word: the small functions below the others. -/
import Derived.Test.YtmojbekihbmdfaaRows
import Derived.Test.YtmojbekihbmdfaaWra
import Derived.RegionTactic
import Derived.Deep.QuietTactic
import Derived.BigQuiet
import Derived.Outline
import Derived.Laws.BitsAllLaws
namespace Go.Proofs.Ytmojbekihbmdfaa
open Go.RowKit

set_option maxRecDepth 100000 in
theorem add64 (x y c : Int) (hx : 0 ≤ x) (hy : 0 ≤ y) (hc0 : 0 ≤ c) (hc : c ≤ 1) (w : World) : (callFunc 62 #[.int .u64 x, .int .u64 y, .int .u64 c]).run Try.prog w =
    .ok (.value (.tuple #[.int .u64 ((x + y + c) % 18446744073709551616), .int .u64 ((x + y + c) / 18446744073709551616)])) w := by
  rw [run_callFunc_extern Try.func62 (by kernel_rfl) (by kernel_rfl) (by kernel_rfl) (e := add64Entry) (by kernel_rfl), run_add64 x y c hx hy hc0 hc]
  rfl

set_option maxRecDepth 100000 in
theorem winfo : (Try.prog.info? 31).map (·.size) = some 4 := by kernel_rfl

/-- The four cells of which the first k are f's, the others nought. -/
def partC (f : Nat → Nat) (k : Nat) : Array Value := ((List.range 4).map fun i => lv (if i < k then f i else 0)).toArray

set_option maxRecDepth 100000 in
theorem partC_zero (f : Nat → Nat) : partC f 0 = #[.int .u64 0, .int .u64 0, .int .u64 0, .int .u64 0] := rfl
set_option maxRecDepth 100000 in
theorem partC_size (f : Nat → Nat) (k : Nat) : (partC f k).size = 4 := rfl
set_option maxRecDepth 100000 in
theorem partC_four (f : Nat → Nat) : partC f 4 = #[lv (f 0), lv (f 1), lv (f 2), lv (f 3)] := rfl
set_option maxRecDepth 100000 in
theorem partC_step (f : Nat → Nat) (k : Nat) (h : k < 4) : (partC f k).setIfInBounds k (lv (f k)) = partC f (k + 1) := by
  match k, h with
  | 0, _ => rfl
  | 1, _ => rfl
  | 2, _ => rfl
  | 3, _ => rfl
set_option maxRecDepth 100000 in
theorem partC_get (f : Nat → Nat) (k i : Nat) (h : i < 4) : (partC f k)[i]? = some (lv (if i < k then f i else 0)) := by
  match i, h with
  | 0, _ => rfl
  | 1, _ => rfl
  | 2, _ => rfl
  | 3, _ => rfl

set_option maxRecDepth 100000 in
set_option maxHeartbeats 400000 in
theorem limbs_any (F : FuncId) (cap : Array Value) (f : Nat → Nat) (J : Nat → World → Prop) (row : Option Nat) (w : World)
    (hF : ∀ (args : Array Value) (u : World), (callFunc F args).run Try.prog u = .ok (.enter F args) u)
    (hrow : ∀ g, row = some g → g < w.heap.size) (hJ0 : J 0 w)
    (hst : ∀ i u u', J i u → (∀ k, k < w.heap.size → u'.heap[k]? = u.heap[k]?) → J i u')
    (hcall : ∀ i u, i < 4 → J i u → Calls Try.prog F (#[.int .i64 i] ++ cap) u (fun e u' => e = .returned (lv (f i)) ∧ J (i + 1) u' ∧ u.grownBy u' row)) (n : Nat) (_hn : n < M256) (hf : ∀ i, i < 4 → f i = lb n i) :
    Calls Try.prog 60 #[.func (.func F) #[] cap] w fun e w' => e = .returned (wv n) ∧ J 4 w' ∧ w.grownBy w' row := by
  have hfin : partC f 4 = wc n := by rw [partC_four, hf 0 (by omega), hf 1 (by omega), hf 2 (by omega), hf 3 (by omega)]; rfl
  have HFIN := Lib.hid hfin
  have HF := Lib.hid hF
  have HR := Lib.hid hrow
  have HST := Lib.hid hst
  have HC := Lib.hid hcall
  have HJ0 := Lib.hid hJ0
  clear hF hrow hst hcall hJ0 hf hfin
  go_enter Try.func60, Try.ntmps60
  go_wp2
  go_loopw [4, 5, 6, 7, 8, 9, 10, 11, 12, 13] (fun _ i _ _ _ _ _ _ _ _ wr => ∃ k : Nat, k ≤ 4 ∧ i = .int .i64 k ∧ Cs wr w.heap.size 31 (wc 0) ∧ Cs wr (w.heap.size + 1) 31 (partC f k) ∧ Hid (J k wr) ∧ Hid (w.grownBy wr row)) (fun _ i _ _ _ _ _ _ _ _ _ => 4 - (intOf i).toNat)
  case atStart =>
    refine ⟨0, by omega, rfl, heap_alloc2_old _ _ _, heap_alloc2_new _ _ _, ?_, ?_⟩
    · exact HST.out 0 _ _ HJ0.out (fun k hk => (Below.heap_alloc _ _ k (by simp; omega)).trans (Below.heap_alloc _ _ k hk))
    · exact grown_alloc (grown_alloc (World.grownBy.refl _ _) _) _
  case round =>
    obtain ⟨k, hk, rfl, hr0, hr1, HJ, HG⟩ := hrel
    have hrn : ∀ j, w.heap.size ≤ j → some j ≠ row := fun j hj e => by have := HR.out j e.symm; omega
    have HRN := Lib.hid hrn
    clear hrn
    by_cases hlt : k < 4
    · go_wp2
      rw [HF.out, Oper.upon_enter]
      refine (HC.out k _ hlt HJ.out).mono ?_
      rintro e w1 ⟨rfl, hj1, hg1⟩
      have hr0' := hr0.kept hg1 (HRN.out _ (by omega))
      have hr1' := hr1.kept hg1 (HRN.out _ (by omega))
      have hcell : w1.cell? ⟨w.heap.size + 1, k, none⟩ = some (lv (if k < k then f k else 0)) := hr1'.cell k _ (partC_get f k k hlt)
      have hfz : w1.frozen? ⟨w.heap.size + 1, k, none⟩ = false := hr1'.frozen k
      have HJ1 := Lib.hid hj1
      have HG1 := Lib.hid (grown_trans HG.out hg1)
      clear hj1 hg1 hr0 hr1
      rw [if_neg (by omega)] at hcell
      unfold lv at hcell
      unfold lv
      go_wp2
      go_roundw
      case rel =>
        refine ⟨k + 1, by omega, by go_num, hr0'.kept (grown_set _ _ _ _) (by simp), ?_, ?_, ?_⟩
        · rw [← partC_step f k hlt]
          exact hr1'.set k (lv (f k))
        · exact HST.out (k + 1) _ _ HJ1.out (fun j hj => heap_setCell_other _ _ _ _ (by simp; omega))
        · exact grown_setNew HG1.out _ (by simp) _
      case measure => simp [intOf]; omega
    · obtain rfl : k = 4 := by omega
      clear hlt hk
      rw [HFIN.out] at hr1
      go_wp2_with (first
        | (refine wpList_load_word rfl 31 28 (.tmp 3) rfl Try.underlying31 winfo (w.heap.size + 1) _ rfl hr1.wd ?_)
        | (refine wpList_store_word rfl rfl 31 (.tmp 2) (.tmp 14) rfl winfo w.heap.size _ _ rfl rfl hr0 rfl ?_; intro w3 hw3 hg3; have HW3 := Lib.hid hw3; have HG3 := Lib.hid hg3; clear hw3 hg3))
      refine bodyPost_ret (results_cell_row Try.results60 _ _ w.heap.size 31 (wc n) (0, 0) _ rfl HW3.out Try.underlying31 rfl winfo) rfl ⟨rfl, ?_, ?_⟩
      · exact HST.out 4 _ _ HJ.out (fun j hj => HG3.out.block j (by have := HG.out.size; omega) (by intro e; injection e with e; omega))
      · exact grown_new HG.out HG3.out (Nat.le_refl _)
end Go.Proofs.Ytmojbekihbmdfaa
