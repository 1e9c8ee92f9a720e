/- Package addr: does the layer do anything? -/
import Derived.Test.YthjmjccggkejhaaDoorAdb
namespace Go.Proofs.YthjmjccggkejhaaDoor
open Go.RowKit Go.Shelf

set_option maxRecDepth 100000 in
/-- A slice that is written out in the text. -/
theorem bs_lit (w : World) (g : Nat) (t : TypeId) (l : List UInt8) (cs : Array Value) (n : Nat) (hg : w.heap[g]? = some (.cells cs t (0, 0))) (hcs : cs = (l.map bv).toArray) (hn : n = l.length) (hl : l.length ≤ maxLen) :
    Bs w (.slice (some ⟨g, 0, none⟩) n n) l := by
  subst hn
  subst hcs
  exact (Row.own (base := 0) (show Row w g t l from hg) (Nat.zero_le _) hl).bs
set_option maxRecDepth 100000 in
theorem az_lit (w : World) (l : List Int) (t : TypeId) (n : Nat) (cs : Array Value) (hcs : cs = (l.map az).toArray) (hn : n = l.length) (hl : l.length ≤ maxLen) : Az (w.alloc (.cells cs t)) (.slice (some ⟨w.heap.size, 0, none⟩) n n) l := by
  subst hn
  subst hcs
  exact Rs.new w (l.map az) t 1 l.length (by simp) hl
set_option maxRecDepth 100000 in
theorem near_lit (a b : Nat) (c : Bool) (h : nearB a b = c) (ha : a < 18446744073709551616) (hb : b < 18446744073709551616) (w : World) :
    Calls Tryd.prog 58 #[.agg #[.int .u64 (a : Int), .int .u64 0, .int .u64 0, .int .u64 0], .agg #[.int .u64 (b : Int), .int .u64 0, .int .u64 0, .int .u64 0]] w fun e w' => e = .returned (.bool c) ∧ Ext w w' := by
  rw [← wc_lit a ha, ← wc_lit b hb, ← h]
  exact near_any a b w (by unfold M256; omega) (by unfold M256; omega)
set_option maxRecDepth 100000 in
theorem sr393 (r : List Int) (h : SR [9, 3, 9] r) : r = [3, 9] :=
  h.unique ⟨by simp, fun x => by simp; omega⟩

set_option maxRecDepth 100000 in
set_option maxHeartbeats 2000000 in
theorem adrWakes_any (w : World) : Calls Tryd.prog 37 #[] w (RetT w) := by
  have HN1 := Lib.hid (fun W => near_lit 134 7 true (by decide) (by decide) (by decide) W)
  have HN2 := Lib.hid (fun W => near_lit 135 7 false (by decide) (by decide) (by decide) W)
  have HR := Lib.hid (show adrRd [0, 0, 0, 0, 0, 0, 1, 2, 9] = .tuple #[.int .u64 258, .int .i64 0] by
    have hn : num (last8 (([0, 0, 0, 0, 0, 0, 1, 2, 9] : List UInt8).take 8)) = 258 := by decide +kernel
    unfold adrRd
    rw [if_neg (by decide), hn]
    rfl)
  go_enter Tryd.func37, Tryd.ntmps37
  go_wp2_with fail
  refine (adrRead_any _ [0, 0, 0, 0, 0, 0, 1, 2, 9] _ (bs_lit _ _ _ [0, 0, 0, 0, 0, 0, 1, 2, 9] _ _ (heap_alloc_new _ _) rfl rfl (by simp [maxLen]))).mono ?_
  rintro e w1 ⟨rfl, rfl⟩
  rw [HR.out]
  have HE := Lib.hid ((Ext.refl w).alloc (.cells (([0, 0, 0, 0, 0, 0, 1, 2, 9] : List UInt8).map bv).toArray 5))
  generalize w.alloc (.cells (([0, 0, 0, 0, 0, 0, 1, 2, 9] : List UInt8).map bv).toArray 5) = w1 at *
  go_wp2_with fail
  refine (sorted_any _ [9, 3, 9] _ (az_lit _ [9, 3, 9] _ _ _ rfl rfl (by simp [maxLen])) (by simp)).mono ?_
  rintro e w2 ⟨v, r, rfl, hsr, ho, he⟩
  obtain rfl := sr393 r hsr
  obtain ⟨b, o, c, rfl, hc1, hc2, hc3⟩ := (AzO.az ho).cells (by simp)
  have HE2 := Lib.hid ((HE.out.alloc _).trans he)
  have hcell := hc3 0 (by simp)
  simp only [List.getD_cons_zero, Nat.add_zero, List.length_cons, List.length_nil, Nat.reduceAdd] at hcell hc1 ⊢
  clear hsr ho he HE hc3
  go_wp2_with fail
  refine (HN1.out _).mono ?_
  rintro e w3 ⟨rfl, he3⟩
  have HE3 := Lib.hid (HE2.out.trans he3)
  clear he3 hcell HE2
  go_wp2_with fail
  refine (HN2.out _).mono ?_
  rintro e w4 ⟨rfl, he4⟩
  have HE4 := Lib.hid (HE3.out.trans he4)
  clear he4 HE3
  go_wp2_with fail
  go_ret
  exact ⟨rfl, HE4.out⟩
end Go.Proofs.YthjmjccggkejhaaDoor
