/- Contract of Text: digits that a loop over bits collects. -/
import Derived.Test.YtmojbekihbmdfaaWri
import Derived.Shelf.Bytes.SlSmallAll
import Derived.WalkSpells
import Derived.Lib.SliceRun
namespace Go.Proofs.Ytmojbekihbmdfaa
open Go.RowKit Go.Shelf
attribute [local go_sem] Oper.semAt_some

set_option maxRecDepth 100000 in
theorem nums_of (l : List UInt8) : strOfNums (l.map fun c => (c.toNat : Int)) = ⟨l.toArray⟩ := by
  unfold strOfNums
  congr 2
  rw [List.map_map]
  conv => rhs; rw [← List.map_id l]
  apply List.map_congr_left
  intro c _
  simp

set_option maxRecDepth 100000 in
theorem Bs.conv {P : Program} {w : World} {v : Value} {l : List UInt8} (h : Bs w v l) (src e dst : TypeId) (hs : P.underlying src = some (.slice e)) (he : P.underlying e = some (.int .u8)) (hd : P.underlying dst = some .string) :
    (convert src dst v).run P w = .ok (.string ⟨l.toArray⟩) w := by
  obtain ⟨A, c, rfl, h1, h2, h3⟩ := h
  rcases Nat.eq_zero_or_pos l.length with h0 | h0
  · obtain rfl : l = [] := List.eq_nil_of_length_eq_zero h0
    exact run_convert_bytes_zero w src e hs he A c dst hd
  · obtain ⟨b, o, rfl, hc⟩ := h3 h0
    rw [← nums_of]
    refine run_convert_bytes_arg (P := P) w src e hs he b o _ c _ (by simp) ?_ dst hd
    intro i hi
    rw [hc i hi]
    simp [bv, List.getD, List.getElem?_eq_getElem hi]

/-- The digit of a number below 16. -/
def dgt (y : Nat) : UInt8 := if y < 10 then UInt8.ofNat (48 + y) else UInt8.ofNat (87 + y)

/-- What a round adds to the digits. -/
def txtS (n : Nat) (l : List UInt8) (k : Nat) : List UInt8 := if dBits n 4 k ≠ 0 ∨ l ≠ [] ∨ dAt 4 k = 0 then l ++ [dgt (dBits n 4 k)] else l
def txtL (n : Nat) (pre : List Nat) : List UInt8 := pre.foldl (txtS n) []
set_option maxRecDepth 100000 in
theorem txtL_snoc (n : Nat) (pre : List Nat) (k : Nat) : txtL n (pre ++ [k]) = txtS n (txtL n pre) k := by simp [txtL]
set_option maxRecDepth 100000 in
theorem txtS_len (n : Nat) (l : List UInt8) (k : Nat) : (txtS n l k).length ≤ l.length + 1 := by unfold txtS; split <;> simp
set_option maxRecDepth 100000 in
theorem txtL_len (n : Nat) (pre : List Nat) : (txtL n pre).length ≤ pre.length := by
  unfold txtL
  suffices h : ∀ s : List UInt8, (pre.foldl (txtS n) s).length ≤ s.length + pre.length by simpa using h []
  induction pre with
  | nil => simp
  | cons k pre ih =>
    intro s
    have h1 := ih (txtS n s k)
    have h2 := txtS_len n s k
    simp only [List.foldl_cons, List.length_cons]
    omega

set_option maxRecDepth 100000 in
theorem idx_digit (y : Nat) (hy : y < 16) (w : World) : (Instr.index 9 (.string ⟨#[48, 49, 50, 51, 52, 53, 54, 55, 56, 57, 97, 98, 99, 100, 101, 102]⟩) (.int .u64 (y : Nat))).run Try.prog w = .ok (.int .u8 ((dgt y).toNat : Int)) w := by
  have h : y = 0 ∨ y = 1 ∨ y = 2 ∨ y = 3 ∨ y = 4 ∨ y = 5 ∨ y = 6 ∨ y = 7 ∨ y = 8 ∨ y = 9 ∨ y = 10 ∨ y = 11 ∨ y = 12 ∨ y = 13 ∨ y = 14 ∨ y = 15 := by omega
  rcases h with rfl | rfl | rfl | rfl | rfl | rfl | rfl | rfl | rfl | rfl | rfl | rfl | rfl | rfl | rfl | rfl <;> rfl

set_option maxRecDepth 100000 in
theorem RwI.drew {w : World} {N0 Bt gr cap : Nat} {l : List UInt8} {W : World} (h : RwI w N0 Bt gr cap l W) : RwI w N0 Bt gr cap l W.drew := h.ext (Ext.refl W).drew

set_option maxRecDepth 100000 in
/-- A byte is laid behind the row where there is room, and the variable is set. -/
theorem RwI.lay {w : World} {N0 Bt gr cap : Nat} {l : List UInt8} {W : World} (h : RwI w N0 Bt gr cap l W) (o : Obj) (c : UInt8) (hne : Bt ≠ gr) (hBt : w.heap.size ≤ Bt) (hgr : w.heap.size ≤ gr) (hl : l.length < cap) :
    RwI w N0 Bt gr cap (l ++ [c]) (((W.alloc o).setCell ⟨gr, l.length, none⟩ (bv c)).setCell ⟨Bt, 0, none⟩ (.slice (some ⟨gr, 0, none⟩) (l.length + 1) cap)) ∧
      (∀ g h : Nat, g < W.heap.size → h < W.heap.size → g ≠ Bt → g ≠ gr → h ≠ Bt → h ≠ gr → Stp g h W (((W.alloc o).setCell ⟨gr, l.length, none⟩ (bv c)).setCell ⟨Bt, 0, none⟩ (.slice (some ⟨gr, 0, none⟩) (l.length + 1) cap))) ∧
      (∃ u, W.cell? ⟨gr, l.length, none⟩ = some u) ∧ W.frozen? ⟨gr, l.length, none⟩ = false := by
  have hown := h.2.2.1
  rcases hown.2 with ⟨e, _⟩ | ⟨g, c', cur, e, hb, hg, hnc, hcm, hcs, htake⟩
  · cases e
  · injection e with e1 e2 e3
    injection e1 with e1
    injection e1 with e1
    subst e1
    subst e3
    have hrow : Cs W gr 5 cur := hg
    have hlt : l.length < cur.size := by rw [hcs]; omega
    refine ⟨(h.push o c hne hBt hgr ?_ (grown_set _ gr l.length (bv c))).1, (h.push o c hne hBt hgr ?_ (grown_set _ gr l.length (bv c))).2.1, ⟨cur[l.length], hrow.cell _ _ (Array.getElem?_eq_getElem hlt)⟩, hrow.frozen _⟩
    all_goals
      refine ⟨by simp, .inr ⟨gr, cap, cur.setIfInBounds l.length (bv c), rfl, hb, (hrow.alloc o).set l.length (bv c), by omega, hcm, by simpa using hcs, ?_⟩⟩
      rw [Array.toList_setIfInBounds, Nat.mul_one, List.take_set, List.take_succ_eq_append_getElem (by simpa using hlt)]
      rw [Nat.mul_one] at htake
      rw [htake]
      rw [List.set_append_right _ _ (by simp)]
      simp

end Go.Proofs.Ytmojbekihbmdfaa
