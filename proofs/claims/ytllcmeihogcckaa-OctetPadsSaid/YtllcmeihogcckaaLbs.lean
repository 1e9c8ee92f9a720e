/- Contracts of the library's calls on bytes: bytes.Equal, HasPrefix, HasSuffix, slices.Clone; and of the law's own helpers. -/
import Derived.Test.YtllcmeihogcckaaOcy
import Derived.Shelf.Bytes.SlSmallAll
import Derived.WalkSpells
import Derived.Lib.SliceRun
namespace Go.Proofs.Ytllcmeihogcckaa
open Go.RowKit

theorem own_made (w : World) (b : Nat) (t : TypeId) (hb : b ≤ w.heap.size) : Own (w.alloc (.cells #[] t)) b t (.slice (some ⟨w.heap.size, 0, none⟩) 0 0) [] :=
  World.ownsRow_made w #[] 0 hb (by simp [maxLen]) (by simp)

theorem nums_of (l : List UInt8) : strOfNums (l.map fun c => (c.toNat : Int)) = ⟨l.toArray⟩ := by
  unfold strOfNums
  congr 2
  rw [List.map_map]
  conv => rhs; rw [← List.map_id l]
  apply List.map_congr_left
  intro c _
  simp

theorem Bs.conv {P : Program} {w : World} {v : Value} {l : List UInt8} (h : Bs w v l) (src e dst : TypeId) (hs : P.underlying src = some (.slice e)) (he : P.underlying e = some (.int .u8)) (hd : P.underlying dst = some .string) :
    (convert src dst v).run P w = .ok (.string ⟨l.toArray⟩) w := by
  obtain ⟨A, c, rfl, h1, h2, h3⟩ := h
  rcases Nat.eq_zero_or_pos l.length with h0 | h0
  · obtain rfl : l = [] := List.eq_nil_of_length_eq_zero h0
    exact run_convert_bytes_zero w src e hs he A c dst hd
  · obtain ⟨b, o, rfl, hc⟩ := h3 h0
    rw [← nums_of]
    refine run_convert_bytes_arg (P := P) w src e hs he b o _ c _ (by simp) ?_ dst hd
    intro i hi
    rw [hc i hi]
    simp [bv, List.getD, List.getElem?_eq_getElem hi]

set_option maxHeartbeats 400000 in
theorem bytesEqual_any (v1 v2 : Value) (a b : List UInt8) (w : World) (h1 : Bs w v1 a) (h2 : Bs w v2 b) :
    Calls Try.prog 30 #[v1, v2] w fun e w' => e = .returned (.bool (a == b)) ∧ w = w' := by
  have c1 := h1.conv (P := Try.prog) 22 5 9 Try.underlying22 Try.underlying5 Try.underlying9
  have c2 := h2.conv (P := Try.prog) 22 5 9 Try.underlying22 Try.underlying5 Try.underlying9
  have e1 : (⟨a.toArray⟩ : ByteArray).toList = a := by simp
  have e2 : (⟨b.toArray⟩ : ByteArray).toList = b := by simp
  generalize (⟨a.toArray⟩ : ByteArray) = s1 at *
  generalize (⟨b.toArray⟩ : ByteArray) = s2 at *
  subst e1
  subst e2
  clear h1 h2
  go_enter Try.func30, Try.ntmps30
  go_wp2
  go_ret
  exact ⟨rfl, rfl⟩

set_option maxHeartbeats 400000 in
theorem equal_any (v1 v2 : Value) (a b : List UInt8) (w : World) (h1 : Bs w v1 a) (h2 : Bs w v2 b) :
    Calls Try.prog 19 #[v1, v2] w fun e w' => e = .returned (.bool (a == b)) ∧ w = w' := by
  have hc := bytesEqual_any v1 v2 a b w h1 h2
  have HC := Lib.hid hc
  clear hc h1 h2
  go_enter Try.func19, Try.ntmps19
  go_wp2_with fail
  refine HC.out.mono ?_
  rintro e w' ⟨rfl, rfl⟩
  go_wp2_with fail
  go_ret
  exact ⟨rfl, rfl⟩

set_option maxHeartbeats 400000 in
theorem hasSuffix_yes (v1 v2 : Value) (p a : List UInt8) (w : World) (h1 : Bs w v1 (p ++ a)) (h2 : Bs w v2 a) :
    Calls Try.prog 31 #[v1, v2] w fun e w' => e = .returned (.bool true) ∧ w = w' := by
  have H1 := Lib.hid h1
  have H2 := Lib.hid h2
  obtain ⟨A, c, rfl, g1, g2, g3⟩ := h1
  obtain ⟨A', c', rfl, k1, k2, k3⟩ := h2
  have HD := Lib.hid (H1.out.drop p.length (by simp))
  rw [List.drop_left] at HD
  clear g3 k3
  unfold maxLen at g2 k2
  rw [List.length_append] at *
  by_cases hc : c = p.length
  · rw [if_pos hc] at HD
    go_enter Try.func31, Try.ntmps31
    go_wp2_with fail
    refine (bytesEqual_any _ _ a a w ?_ H2.out).mono ?_
    · simpa [Nat.add_sub_cancel_left, hc] using HD.out
    rintro e w' ⟨rfl, rfl⟩
    rw [show (a == a) = true by simp]
    go_wp2_with fail
    go_ret
    exact ⟨rfl, rfl⟩
  · rw [if_neg hc] at HD
    go_enter Try.func31, Try.ntmps31
    go_wp2_with fail
    refine (bytesEqual_any _ _ a a w ?_ H2.out).mono ?_
    · simpa [Nat.add_sub_cancel_left, hc] using HD.out
    rintro e w' ⟨rfl, rfl⟩
    rw [show (a == a) = true by simp]
    go_wp2_with fail
    go_ret
    exact ⟨rfl, rfl⟩

set_option maxHeartbeats 400000 in
theorem hasPrefix_yes (v1 v2 : Value) (a q : List UInt8) (w : World) (h1 : Bs w v1 (a ++ q)) (h2 : Bs w v2 a) :
    Calls Try.prog 32 #[v1, v2] w fun e w' => e = .returned (.bool true) ∧ w = w' := by
  have H1 := Lib.hid h1
  have H2 := Lib.hid h2
  obtain ⟨A, c, rfl, g1, g2, g3⟩ := h1
  obtain ⟨A', c', rfl, k1, k2, k3⟩ := h2
  have HD := Lib.hid (H1.out.take a.length (by simp))
  rw [List.take_left] at HD
  clear g3 k3
  unfold maxLen at g2 k2
  rw [List.length_append] at *
  go_enter Try.func32, Try.ntmps32
  go_wp2_with fail
  refine (bytesEqual_any _ _ a a w HD.out H2.out).mono ?_
  rintro e w' ⟨rfl, rfl⟩
  rw [show (a == a) = true by simp]
  go_wp2_with fail
  go_ret
  exact ⟨rfl, rfl⟩


set_option maxHeartbeats 400000 in
theorem clone_any (v : Value) (l : List UInt8) (w : World) (hb : Bs w v l) (hl : l.length ≤ 140737488355328) :
    Calls Try.prog 33 #[v] w (RetB w l) := by
  have HB := Lib.hid hb
  obtain ⟨A, c, rfl, h1, h2, h3⟩ := hb
  clear h1 h2
  have hnil := fun (w : World) (n : Nat) => Lib.run_eql_slice_nil (P := Try.prog) w 22 5 A n c 0 0 Try.underlying22
  rcases A with _ | ad
  · obtain rfl : l = [] := by
      rcases Nat.eq_zero_or_pos l.length with h0 | h0
      · exact List.eq_nil_of_length_eq_zero h0
      · obtain ⟨b, o, e, _⟩ := h3 h0
        cases e
    clear h3
    go_enter Try.func33, Try.ntmps33
    go_wp2
    go_ret
    exact ⟨_, rfl, own_nil _ _ _, Ext.refl _⟩
  · clear h3
    go_enter Try.func33, Try.ntmps33
    go_wp2_with (at_builtin; go_loud (refine wpList_append_bytes rfl (.tmp 5) (.tmp 6) _ rfl w.heap.size 5 Try.underlying22 u8info _ [] rfl (own_made w w.heap.size 5 (Nat.le_refl _)) _ l rfl (HB.out.ext ((Ext.refl w).alloc _)) (by simpa using hl) (by simp) ?_); intro v' w' ho hg hat; have HO := Lib.hid ho; have HG := Lib.hid hg; clear ho hg hat)
    go_ret
    exact ⟨v', rfl, by simpa using HO.out, ((Ext.refl w).alloc _).grown HG.out (Nat.le_refl _)⟩
end Go.Proofs.Ytllcmeihogcckaa
