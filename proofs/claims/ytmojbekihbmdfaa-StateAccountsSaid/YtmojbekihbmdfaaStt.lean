/- The law's wakes. -/
import Derived.Test.YtmojbekihbmdfaaSts
namespace Go.Proofs.Ytmojbekihbmdfaa
open Go.ChangeShapes Go.WideShapes Go.ChangeAt Go.RowKit Go.Shelf

def wkA : List Ac := [⟨20, 7, 0, [], []⟩]
def wkB : List Ac := [⟨20, 4, 0, [], []⟩, ⟨21, 3, 0, [], []⟩]
def wkC : List Ac := [⟨20, 4, 0, [], []⟩, ⟨21, 3, 0, [], [(5, 9)]⟩]
set_option maxRecDepth 100000 in
theorem wk_mint : mintS [] 20 7 = (wkA, 0) := by kernel_rfl
set_option maxRecDepth 100000 in
theorem wk_move : moveS wkA 20 21 3 = (wkB, 0) := by kernel_rfl
set_option maxRecDepth 100000 in
theorem wk_save : saveS wkB 21 (5, 9) = (wkC, 0) := by kernel_rfl
set_option maxRecDepth 100000 in
theorem wk_tot : totN wkC = 7 := by kernel_rfl
set_option maxRecDepth 100000 in
theorem wk_load : loadN wkC 21 5 = 9 := by kernel_rfl
set_option maxRecDepth 100000 in
theorem wk_acc : (accF wkB 21).1.store = [] := by kernel_rfl
set_option maxRecDepth 100000 in
theorem wk_sz {l : List Ac} (h : l = wkA ∨ l = wkB ∨ l = wkC) : ∀ q ∈ l, q.code.length ≤ 1000000 ∧ q.store.length ≤ 1000000 := by
  rcases h with rfl | rfl | rfl <;> simp [wkA, wkB, wkC]
set_option maxRecDepth 100000 in
theorem wk_sz2 {l : List Ac} (h : l = wkA ∨ l = wkB ∨ l = wkC) : ∀ q ∈ l, q.code.length ≤ 1000000000 ∧ q.store.length ≤ 1000000000 := fun q hq => by
  have := wk_sz h q hq
  omega
set_option maxRecDepth 100000 in
theorem wk_lit (a : Nat) (ha : a < 18446744073709551616) : wv a = .agg #[.int .u64 (a : Int), .int .u64 0, .int .u64 0, .int .u64 0] := by unfold wv; rw [wc_small a ha]
set_option maxRecDepth 100000 in
theorem wkMint_any (w : World) : Calls Try.prog 36 #[.agg #[.slice none 0 0], .int .u64 20, .agg #[.int .u64 7, .int .u64 0, .int .u64 0, .int .u64 0]] w (RetS w (wkA, 0)) := by
  have := stateMint_any (.slice none 0 0) [] 20 7 w (acs_nil w) (by simp) (fun q hq => nomatch hq) (by decide) (by decide)
  rw [wk_mint, wk_lit 7 (by decide)] at this
  exact this
set_option maxRecDepth 100000 in
theorem wkMove_any (sv : Value) (w : World) (hs : Acs w sv wkA) : Calls Try.prog 32 #[.agg #[sv], .int .u64 20, .int .u64 21, .agg #[.int .u64 3, .int .u64 0, .int .u64 0, .int .u64 0]] w (RetS w (wkB, 0)) := by
  have := stateMove_any sv wkA 20 21 3 w hs (by simp [wkA]) (wk_sz2 (.inl rfl)) (by decide) (by decide) (by decide)
  rw [wk_move, wk_lit 3 (by decide)] at this
  exact this
set_option maxRecDepth 100000 in
theorem wkSave_any (sv : Value) (w : World) (hs : Acs w sv wkB) : Calls Try.prog 37 #[.agg #[sv], .int .u64 21, .agg #[.int .u64 5, .int .u64 0, .int .u64 0, .int .u64 0, .int .u64 9, .int .u64 0, .int .u64 0, .int .u64 0]] w (RetS w (wkC, 0)) := by
  have := stateSave_any sv wkB 21 (5, 9) w hs (by decide) (by simp [wkB]) (wk_sz (.inr (.inl rfl))) (by rw [wk_acc]; exact saved_nil (5, 9) ⟨by decide, by decide⟩ (by decide))
  rw [wk_save, show pkc (5, 9) = #[.int .u64 5, .int .u64 0, .int .u64 0, .int .u64 0, .int .u64 9, .int .u64 0, .int .u64 0, .int .u64 0] by simp [pkc, lv, lb]] at this
  exact this
set_option maxRecDepth 100000 in
theorem wkTotal_any (sv : Value) (w : World) (hs : Acs w sv wkC) : Calls Try.prog 18 #[.agg #[sv]] w fun e w' => e = .returned (wv 7) ∧ Ext w w' := by
  have := stateTotal_any sv wkC w hs (by simp [wkC])
  rw [wk_tot] at this
  exact this
set_option maxRecDepth 100000 in
theorem wkLoad_any (sv : Value) (w : World) (hs : Acs w sv wkC) : Calls Try.prog 24 #[.agg #[sv], .int .u64 21, .agg #[.int .u64 5, .int .u64 0, .int .u64 0, .int .u64 0]] w fun e w' => e = .returned (wv 9) ∧ Ext w w' := by
  have := stateLoad_any sv wkC 21 5 w hs (by decide) (by simp [wkC]) (by decide)
  rw [wk_load, wk_lit 5 (by decide)] at this
  exact this
/-- The place of the state, the row of its accounts. -/
def WkJ (w : World) (g : Nat) (A : Option Addr) (n c : Nat) (l : List Ac) (W : World) : Prop := Cs W g 24 #[.slice A n c] ∧ RwA w.heap.size W (.slice A n c) (.slice none 0 0) l ∧ Ext w W
set_option maxRecDepth 100000 in
theorem WkJ.ext {w : World} {g n c : Nat} {A : Option Addr} {l : List Ac} {W W' : World} (h : WkJ w g A n c l W) (he : Ext W W') : WkJ w g A n c l W' := ⟨Cs.ext h.1 he, h.2.1.ext he, h.2.2.trans he⟩
set_option maxRecDepth 100000 in
theorem WkJ.put {w : World} {g n c n' c' : Nat} {A A' : Option Addr} {l l' : List Ac} {W : World} (h : WkJ w g A n c l W) (hg : w.heap.size ≤ g) (hr : RwA w.heap.size W (.slice A' n' c') (.slice none 0 0) l') : WkJ w g A' n' c' l' (W.setCell ⟨g, 0, none⟩ (.slice A' n' c')) :=
  ⟨by simpa using Cs.set h.1 0 (.slice A' n' c'), hr.keptS (grown_set _ _ _ _) h.1, h.2.2.grown (grown_set _ _ _ _) hg⟩
set_option maxRecDepth 100000 in
set_option maxHeartbeats 4000000 in
theorem stateWakes_any (w : World) : Calls Try.prog 9 #[] w fun e w' => e = .returned (.bool true) ∧ Ext w w' := by
  go_enter Try.func9, Try.ntmps9
  go_wp2_with fail
  refine (wkMint_any w).mono ?_
  rintro e w1 ⟨v1, rfl, hr, he⟩
  dsimp only at hr ⊢
  obtain ⟨A1, c1, e1⟩ := hr.shape
  rw [show wkA.length = 1 from rfl] at e1
  subst e1
  have HJ1 : Hid (WkJ w w1.heap.size A1 1 c1 wkA (w1.alloc (.cells #[.slice A1 1 c1] 24))) := Lib.hid ⟨Cs.new _ _ _ _ rfl, hr.ext ((Ext.refl w1).alloc _), he.alloc _⟩
  have HG := Lib.hid he.size
  have q1 : (w1.alloc (.cells #[.slice A1 1 c1] 24)).cell? ⟨w1.heap.size, 0, none⟩ = some (.slice A1 1 c1) := HJ1.out.1.cell 0 _ rfl
  clear hr he
  go_wp2_with fail
  generalize w1.alloc (.cells #[.slice A1 1 c1] 24) = w2 at *
  refine (wkMove_any _ w2 HJ1.out.2.1.acs).mono ?_
  rintro e w3 ⟨v3, rfl, hr, he⟩
  dsimp only at hr ⊢
  obtain ⟨A3, c3, e3⟩ := hr.shape
  rw [show wkB.length = 2 from rfl] at e3
  subst e3
  have HJ3 := Lib.hid (HJ1.out.ext he)
  have HR3 := Lib.hid (hr.low HJ1.out.2.2.size)
  have q3 : w3.cell? ⟨w1.heap.size, 0, none⟩ = some (.slice A1 1 c1) := HJ3.out.1.cell 0 _ rfl
  have f3 : w3.frozen? ⟨w1.heap.size, 0, none⟩ = false := HJ3.out.1.frozen 0
  have HJ4 := Lib.hid (HJ3.out.put HG.out HR3.out)
  have q4 : (w3.setCell ⟨w1.heap.size, 0, none⟩ (.slice A3 2 c3)).cell? ⟨w1.heap.size, 0, none⟩ = some (.slice A3 2 c3) := HJ4.out.1.cell 0 _ rfl
  clear hr he HJ1 HJ3 HR3 q1
  go_wp2_with fail
  clear q3 f3
  generalize w3.setCell ⟨w1.heap.size, 0, none⟩ (.slice A3 2 c3) = w4 at *
  refine (wkSave_any _ w4 HJ4.out.2.1.acs).mono ?_
  rintro e w5 ⟨v5, rfl, hr, he⟩
  dsimp only at hr ⊢
  obtain ⟨A5, c5, e5⟩ := hr.shape
  rw [show wkC.length = 2 from rfl] at e5
  subst e5
  have HJ5 := Lib.hid (HJ4.out.ext he)
  have HR5 := Lib.hid (hr.low HJ4.out.2.2.size)
  have q5 : w5.cell? ⟨w1.heap.size, 0, none⟩ = some (.slice A3 2 c3) := HJ5.out.1.cell 0 _ rfl
  have f5 : w5.frozen? ⟨w1.heap.size, 0, none⟩ = false := HJ5.out.1.frozen 0
  have HJ6 := Lib.hid (HJ5.out.put HG.out HR5.out)
  have q6 : (w5.setCell ⟨w1.heap.size, 0, none⟩ (.slice A5 2 c5)).cell? ⟨w1.heap.size, 0, none⟩ = some (.slice A5 2 c5) := HJ6.out.1.cell 0 _ rfl
  clear hr he HJ4 HJ5 HR5 q4
  go_wp2_with fail
  clear q5 f5
  generalize w5.setCell ⟨w1.heap.size, 0, none⟩ (.slice A5 2 c5) = w6 at *
  refine (wkTotal_any _ w6 HJ6.out.2.1.acs).mono ?_
  rintro e w7 ⟨rfl, he⟩
  have HJ7 := Lib.hid (HJ6.out.ext he)
  have q7 : w7.cell? ⟨w1.heap.size, 0, none⟩ = some (.slice A5 2 c5) := HJ7.out.1.cell 0 _ rfl
  clear he HJ6 q6
  go_wp2_with ((with_reducible refine wpList_eql_word ?_ (.tmp 43) (.tmp 44) ?_ 7 7 (by decide) (by decide) ?_ ?_ ?_); (exact rfl); (exact rfl); (exact rfl); (exact (wk_lit 7 (by decide)).symm); rw [show ((7 : Nat) == 7) = true from rfl])
  refine (wkLoad_any _ w7 HJ7.out.2.1.acs).mono ?_
  rintro e w8 ⟨rfl, he⟩
  have HE8 := Lib.hid (HJ7.out.2.2.trans he)
  clear he HJ7 q7
  go_wp2_with ((with_reducible refine wpList_eql_word ?_ (.tmp 50) (.tmp 51) ?_ 9 9 (by decide) (by decide) ?_ ?_ ?_); (exact rfl); (exact rfl); (exact rfl); (exact (wk_lit 9 (by decide)).symm); rw [show ((9 : Nat) == 9) = true from rfl])
  go_ret
  exact ⟨rfl, HE8.out⟩
end Go.Proofs.Ytmojbekihbmdfaa
