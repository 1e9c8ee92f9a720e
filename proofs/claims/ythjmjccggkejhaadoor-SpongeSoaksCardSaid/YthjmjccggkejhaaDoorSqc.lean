/- Bytes that are copied: slices.Clone, few. -/
import Derived.Test.YthjmjccggkejhaaDoorSpv
import Derived.Test.YthjmjccggkejhaaDoorSpy
namespace Go.Proofs.YthjmjccggkejhaaDoor
open Go.RowKit

set_option maxRecDepth 100000 in
theorem own_nil (w : World) (b : Nat) (t : TypeId) : Own w b t (.slice none 0 0) [] := World.ownsRow_nil w b t 1

set_option maxRecDepth 100000 in
set_option maxHeartbeats 400000 in
theorem clone_any (v : Value) (l : List UInt8) (w : World) (hb : Bs w v l) (hl : l.length ≤ 140737488355328) :
    Calls Tryd.prog 45 #[v] w (RetP w l) := by
  have HB := Lib.hid hb
  obtain ⟨A, c, rfl, h1, h2, h3⟩ := hb
  clear h1 h2
  have hnil := fun (w : World) (n : Nat) => Lib.run_eql_slice_nil (P := Tryd.prog) w 24 5 A n c 0 0 Tryd.underlying24
  rcases A with _ | ad
  · obtain rfl : l = [] := by
      rcases Nat.eq_zero_or_pos l.length with h0 | h0
      · exact List.eq_nil_of_length_eq_zero h0
      · obtain ⟨b, o, e, _⟩ := h3 h0
        cases e
    clear h3
    go_enter Tryd.func45, Tryd.ntmps45
    go_wp2
    go_ret
    exact ⟨_, rfl, own_nil _ _ _, Ext.refl _⟩
  · clear h3
    go_enter Tryd.func45, Tryd.ntmps45
    go_wp2_with (at_builtin; go_loud (refine wpList_append_bytes rfl (.tmp 5) (.tmp 6) _ rfl w.heap.size 5 Tryd.underlying24 u8info _ [] rfl (own_made w w.heap.size 5 (Nat.le_refl _)) _ l rfl (HB.out.ext ((Ext.refl w).alloc _)) (by simpa using hl) (by simp) ?_); intro v' w' ho hg hat; have HO := Lib.hid ho; have HG := Lib.hid hg; clear ho hg hat)
    go_ret
    exact ⟨v', rfl, by simpa using HO.out, ((Ext.refl w).alloc _).grown HG.out (Nat.le_refl _)⟩

set_option maxRecDepth 100000 in
theorem few_any (v : Value) (l : List UInt8) (w : World) (hb : Bs w v l) : Calls Tryd.prog 12 #[v] w (RetP w (l.take 800)) := by
  have HB := Lib.hid hb
  obtain ⟨A, c, rfl, h1, h2, h3⟩ := hb
  clear h3
  unfold maxLen at h2
  go_enter Tryd.func12, Tryd.ntmps12
  go_wp2_with fail
  refine (clone_any _ (l.take 800) w (HB.out.takeMin 800 _ (by omega)) (by simp; omega)).mono ?_
  rintro e w1 ⟨v1, rfl, ho, he⟩
  have HO := Lib.hid ho
  have HE := Lib.hid he
  clear ho he
  go_wp2_with fail
  go_ret
  exact ⟨v1, rfl, HO.out, HE.out⟩
end Go.Proofs.YthjmjccggkejhaaDoor
