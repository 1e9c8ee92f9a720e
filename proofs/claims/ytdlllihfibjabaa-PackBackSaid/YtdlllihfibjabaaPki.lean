/- Package pack: Bytes. -/
import Derived.Test.YtdlllihfibjabaaPkh
import Derived.Lib.SliceRun
namespace Go.Proofs.Ytdlllihfibjabaa
open Go.RowKit Go.Shelf

set_option maxRecDepth 100000 in
set_option maxHeartbeats 400000 in
theorem pclone_any (v : Value) (l : List UInt8) (w : World) (hb : Bs w v l) (hl : l.length ≤ 140737488355328) :
    Calls Try.prog 73 #[v] w (RetB w l) := by
  have HB := Lib.hid hb
  obtain ⟨A, c, rfl, h1, h2, h3⟩ := hb
  clear h1 h2
  have hnil := fun (w : World) (n : Nat) => Lib.run_eql_slice_nil (P := Try.prog) w 28 5 A n c 0 0 Try.underlying28
  rcases A with _ | ad
  · obtain rfl : l = [] := by
      rcases Nat.eq_zero_or_pos l.length with h0 | h0
      · exact List.eq_nil_of_length_eq_zero h0
      · obtain ⟨b, o, e, _⟩ := h3 h0
        cases e
    clear h3
    go_enter Try.func73, Try.ntmps73
    go_wp2
    go_ret
    exact ⟨_, rfl, World.ownsRow_nil _ _ _ _, Ext.refl _⟩
  · clear h3
    have hmd : Own (w.alloc (.cells #[] 5)) w.heap.size 5 (.slice (some ⟨w.heap.size, 0, none⟩) 0 0) [] := World.ownsRow_made w #[] 0 (Nat.le_refl _) (by simp [maxLen]) (by simp)
    go_enter Try.func73, Try.ntmps73
    go_wp2_with (at_builtin; (refine wpList_append_bytes rfl (.tmp 5) (.tmp 6) _ rfl w.heap.size 5 Try.underlying28 u8info _ [] rfl hmd _ l rfl (HB.out.ext ((Ext.refl w).alloc _)) (by simpa using hl) (by simp) ?_); intro v' w' ho hg hat; have HO := Lib.hid ho; have HG := Lib.hid hg; clear ho hg hat)
    go_ret
    exact ⟨v', rfl, by simpa using HO.out, ((Ext.refl w).alloc _).grown HG.out (Nat.le_refl _)⟩
/-- What Bytes answers. -/
def RetPt (w : World) (l : List UInt8) (e : Ending) (w' : World) : Prop := ∃ u, e = .returned (.agg (ptc (true, 0, l) u)) ∧ Own w' w.heap.size 5 u l ∧ Ext w w'
set_option maxRecDepth 100000 in
theorem packBytes_any (v : Value) (l : List UInt8) (w : World) (hb : Bs w v l) (hl : l.length ≤ 140737488355328) :
    Calls Try.prog 28 #[v] w (RetPt w l) := by
  have HZ : Hid (Cs (w.alloc (.cells pz 48)) w.heap.size 48 pz) := Lib.hid (Cs.new _ _ _ _ rfl)
  have HE : Hid (Ext w (w.alloc (.cells pz 48))) := Lib.hid ((Ext.refl w).alloc _)
  have HB := Lib.hid hb
  obtain ⟨A, c, rfl, h1, h2, _⟩ := hb
  unfold pz at HZ HE
  go_enter Try.func28, Try.ntmps28
  go_wp2_with fail
  refine (pclone_any _ l _ (HB.out.ext HE.out) hl).mono ?_
  rintro e w1 ⟨u, rfl, ho, he⟩
  have HO := Lib.hid (Own.mono ho HE.out.size)
  have HZ1 := Lib.hid (Cs.ext HZ.out he)
  have HE1 := Lib.hid (HE.out.trans he)
  have HNE := Lib.hid (show u.ownBlock ≠ some w.heap.size from fun e => by have := (ho.lt _ e).1; simp at this; omega)
  obtain ⟨A2, c2, rfl, _, _, _⟩ := ho.bs
  clear ho he HZ HE
  have HN1 := Lib.hid (show Pb ((((((w1.setCell ⟨w.heap.size, 0, none⟩ (.bool true)).setCell ⟨w.heap.size, 1, none⟩ (.int .u64 0)).setCell ⟨w.heap.size, 2, none⟩ (.int .u64 0)).setCell ⟨w.heap.size, 3, none⟩ (.int .u64 0)).setCell ⟨w.heap.size, 4, none⟩ (.int .u64 0)).setCell ⟨w.heap.size, 5, none⟩ (.slice A2 l.length c2)) w.heap.size (true, 0, l) (.slice A2 l.length c2) from by
    have h := Cs.set (Cs.set (Cs.set (Cs.set (Cs.set (Cs.set HZ1.out 0 (.bool true)) 1 (.int .u64 0)) 2 (.int .u64 0)) 3 (.int .u64 0)) 4 (.int .u64 0)) 5 (.slice A2 l.length c2)
    simp only [List.setIfInBounds_toArray, List.set_cons_zero, List.set_cons_succ] at h
    have e : ptc (true, 0, l) (.slice A2 l.length c2) = #[.bool true, .int .u64 0, .int .u64 0, .int .u64 0, .int .u64 0, .slice A2 l.length c2] := by simp [ptc, lv, lb]
    unfold Pb
    rw [e]
    exact h)
  have hg6 : w1.grownBy ((((((w1.setCell ⟨w.heap.size, 0, none⟩ (.bool true)).setCell ⟨w.heap.size, 1, none⟩ (.int .u64 0)).setCell ⟨w.heap.size, 2, none⟩ (.int .u64 0)).setCell ⟨w.heap.size, 3, none⟩ (.int .u64 0)).setCell ⟨w.heap.size, 4, none⟩ (.int .u64 0)).setCell ⟨w.heap.size, 5, none⟩ (.slice A2 l.length c2)) (some w.heap.size) :=
    grown_trans (grown_trans (grown_trans (grown_trans (grown_trans (grown_set _ _ _ _) (grown_set _ _ _ _)) (grown_set _ _ _ _)) (grown_set _ _ _ _)) (grown_set _ _ _ _)) (grown_set _ _ _ _)
  have HO4 := Lib.hid (World.ownsRow.kept HO.out hg6 (.inr HNE.out))
  have HE4 := Lib.hid (HE1.out.grown hg6 (Nat.le_refl _))
  clear hg6
  have c0 := Cs.cell HZ1.out 0 _ rfl
  have c1 := Cs.cell HZ1.out 1 _ rfl
  have c2' := Cs.cell HZ1.out 2 _ rfl
  have c3 := Cs.cell HZ1.out 3 _ rfl
  have c4 := Cs.cell HZ1.out 4 _ rfl
  have c5 := Cs.cell HZ1.out 5 _ rfl
  have f0 := Cs.frozen HZ1.out 0
  have f1 := Cs.frozen HZ1.out 1
  have f2 := Cs.frozen HZ1.out 2
  have f3 := Cs.frozen HZ1.out 3
  have f4 := Cs.frozen HZ1.out 4
  have f5 := Cs.frozen HZ1.out 5
  go_wp2_with fail
  exact bodyPost_ret (results_part Try.results28 _ _ w.heap.size _ _ rfl HN1.out) rfl ⟨_, rfl, HO4.out, HE4.out⟩
end Go.Proofs.Ytdlllihfibjabaa
