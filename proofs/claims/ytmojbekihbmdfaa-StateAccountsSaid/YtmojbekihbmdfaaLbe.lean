/- Contracts of the library's calls on bytes: bytes.Equal. -/
import Derived.Test.YtmojbekihbmdfaaRows
import Derived.Test.YtmojbekihbmdfaaByt
import Derived.Shelf.Bytes.SlSmallAll
import Derived.WalkSpells
import Derived.Lib.SliceRun
import Derived.Lib.Hide
namespace Go.Proofs.Ytmojbekihbmdfaa
open Go.RowKit

set_option maxRecDepth 100000 in
theorem own_made (w : World) (b : Nat) (t : TypeId) (hb : b ≤ w.heap.size) : Own (w.alloc (.cells #[] t)) b t (.slice (some ⟨w.heap.size, 0, none⟩) 0 0) [] :=
  World.ownsRow_made w #[] 0 hb (by simp [maxLen]) (by simp)

set_option maxRecDepth 100000 in
theorem nums_of (l : List UInt8) : strOfNums (l.map fun c => (c.toNat : Int)) = ⟨l.toArray⟩ := by
  unfold strOfNums
  congr 2
  rw [List.map_map]
  conv => rhs; rw [← List.map_id l]
  apply List.map_congr_left
  intro c _
  simp

set_option maxRecDepth 100000 in
theorem Bs.conv {P : Program} {w : World} {v : Value} {l : List UInt8} (h : Bs w v l) (src e dst : TypeId) (hs : P.underlying src = some (.slice e)) (he : P.underlying e = some (.int .u8)) (hd : P.underlying dst = some .string) :
    (convert src dst v).run P w = .ok (.string ⟨l.toArray⟩) w := by
  obtain ⟨A, c, rfl, h1, h2, h3⟩ := h
  rcases Nat.eq_zero_or_pos l.length with h0 | h0
  · obtain rfl : l = [] := List.eq_nil_of_length_eq_zero h0
    exact run_convert_bytes_zero w src e hs he A c dst hd
  · obtain ⟨b, o, rfl, hc⟩ := h3 h0
    rw [← nums_of]
    refine run_convert_bytes_arg (P := P) w src e hs he b o _ c _ (by simp) ?_ dst hd
    intro i hi
    rw [hc i hi]
    simp [bv, List.getD, List.getElem?_eq_getElem hi]

set_option maxRecDepth 100000 in
set_option maxHeartbeats 400000 in
theorem bytesEqual_any (v1 v2 : Value) (a b : List UInt8) (w : World) (h1 : Bs w v1 a) (h2 : Bs w v2 b) :
    Calls Try.prog 34 #[v1, v2] w fun e w' => e = .returned (.bool (a == b)) ∧ w = w' := by
  have c1 := h1.conv (P := Try.prog) 34 5 9 Try.underlying34 Try.underlying5 Try.underlying9
  have c2 := h2.conv (P := Try.prog) 34 5 9 Try.underlying34 Try.underlying5 Try.underlying9
  have e1 : (⟨a.toArray⟩ : ByteArray).toList = a := by simp
  have e2 : (⟨b.toArray⟩ : ByteArray).toList = b := by simp
  generalize (⟨a.toArray⟩ : ByteArray) = s1 at *
  generalize (⟨b.toArray⟩ : ByteArray) = s2 at *
  subst e1
  subst e2
  clear h1 h2
  go_enter Try.func34, Try.ntmps34
  go_wp2
  go_ret
  exact ⟨rfl, rfl⟩

set_option maxRecDepth 100000 in
/-- The same bytes. -/
theorem bytesEqual_same (v1 v2 : Value) (a : List UInt8) (w : World) (h1 : Bs w v1 a) (h2 : Bs w v2 a) :
    Calls Try.prog 34 #[v1, v2] w fun e w' => e = .returned (.bool true) ∧ Ext w w' :=
  (bytesEqual_any v1 v2 a a w h1 h2).mono fun _ _ ⟨h, e⟩ => ⟨by rw [h]; simp, e ▸ Ext.refl _⟩
end Go.Proofs.Ytmojbekihbmdfaa
