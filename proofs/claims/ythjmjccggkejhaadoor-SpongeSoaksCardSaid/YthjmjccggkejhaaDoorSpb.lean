/- The places of lanes, one by one: the function over which Mix and Rows range. -/
import Derived.Test.YthjmjccggkejhaaDoorSpa
import Derived.RangeFuncNested
import Derived.RangeFuncBound
import Derived.RangeFuncCalls
import Derived.RangeFuncLeaves
import Derived.RangeFuncWrites
import Derived.Shelf.Abstract
import Derived.Shelf.RegionOpen
import Derived.OwnWalkIn
import Derived.TacticsInMore
import Derived.LoopNIn
import Derived.LoopIn
namespace Go.Proofs.YthjmjccggkejhaaDoor
open Go.RowKit Go.Shelf
attribute [local go_sem] Oper.semAt_some

/-- What the round k is handed. -/
def pEnc (k : Nat) : Array Value := #[.int .i64 (k % 5 : Nat), .int .i64 (k / 5 % 5 : Nat)]
def KpT (_ _ : World) : Prop := True

set_option maxRecDepth 100000 in
theorem places_any (w : World) : Calls Tryd.prog 48 #[] w fun e w' => e = .returned (.func (.func 68) #[] #[]) ∧ w = w' := by
  go_enter Tryd.func48, Tryd.ntmps48
  go_wp2
  go_ret
  exact ⟨rfl, rfl⟩

set_option maxRecDepth 100000 in
set_option maxHeartbeats 1000000 in
theorem places1_stops (m : Nat) (hm : 1 ≤ m) (w : World) :
    SeqStopsK Fence.wide m Tryd.prog 68 #[] pEnc KpT (fun xs => xs = List.range 25) (fun _ => True) 25 w := fun l J Jx W hW hJ hJx hY h0 => by
  refine callsIn_of_wp Tryd.func68 rfl trivial ?_ rfl
  simp only [Tryd.ntmps68, List.size_toArray, List.length_cons, List.length_nil, Nat.reduceAdd, Nat.reduceSub, Array.replicate_succ, Array.replicate_zero, List.push_toArray, List.append_toArray, List.nil_append, List.cons_append]
  have HY0 := Lib.hid hY
  have H0 := Lib.hid h0
  clear hY h0 hJ hJx
  gi_wp2
  gi_loopw [2, 3, 4, 5, 6, 7, 8, 9, 10, 11, 12, 13, 14, 15, 16] (fun _ _ i _ _ _ _ _ _ _ _ _ _ _ _ wr => ∃ y : Nat, y ≤ 5 ∧ i = .int .i64 y ∧ Hid (J (List.range (5 * y)) wr)) (fun _ _ i _ _ _ _ _ _ _ _ _ _ _ _ _ => 5 - (intOf i).toNat)
  case atStart => exact ⟨0, by omega, rfl, H0⟩
  case round =>
    clear H0
    obtain ⟨y, hy5, rfl, HJ⟩ := hrel
    by_cases hlt : y < 5
    · have hdy : decide ((y : Int) < 5) = true := by simp; omega
      gi_wp2
      gi_loopw [3, 7, 8, 9, 10, 11, 12, 13, 14, 15] (fun _ i _ _ _ _ _ _ _ _ wr => ∃ x : Nat, x ≤ 5 ∧ i = .int .i64 x ∧ Hid (J (List.range (5 * y + x)) wr)) (fun _ i _ _ _ _ _ _ _ _ _ => 5 - (intOf i).toNat)
      case atStart => exact ⟨0, by omega, rfl, HJ⟩
      case round =>
        clear HJ
        obtain ⟨x, hx5, rfl, HJ⟩ := hrel
        by_cases hlx : x < 5
        · have hdx : decide ((x : Int) < 5) = true := by simp; omega
          obtain ⟨fn, tmps, assign, body, hy, hR⟩ := HY0.out (List.range (5 * y + x)) (5 * y + x) wr HJ.out (by rw [List.length_range]; omega)
          unfold pEnc at hy
          rw [show (5 * y + x) % 5 = x by omega, show (5 * y + x) / 5 % 5 = y by omega] at hy
          have HR := Lib.hid hR
          clear hR HJ
          gi_wp2
          refine HR.out.mono ?_
          rintro e W3 (⟨rfl, h1, _⟩ | ⟨rfl, h1⟩)
          · have H1 := Lib.hid (show J (List.range (5 * y + (x + 1))) W3 by rw [← Nat.add_assoc, List.range_succ]; exact h1)
            clear h1 HR hy
            gi_wp2
            refine ⟨⟨x + 1, by omega, by go_num, H1⟩, by simp [intOf]; omega⟩
          · have H1 := Lib.hid h1
            clear h1 HR hy
            gi_wp2
            refine bodyPost_ret (results_none rfl _ _ _) rfl ?_
            exact ⟨⟨_, rfl⟩, .inr ⟨_, trivial, H1.out⟩⟩
        · obtain rfl : x = 5 := by omega
          gi_wp2
          refine ⟨⟨y + 1, by omega, by go_num, by rw [show 5 * (y + 1) = 5 * y + 5 by omega]; exact HJ⟩, by simp [intOf]; omega⟩
    · obtain rfl : y = 5 := by omega
      gi_wp2
      go_end0
      exact ⟨⟨_, rfl⟩, .inl ⟨_, rfl, HJ.out⟩⟩
end Go.Proofs.YthjmjccggkejhaaDoor
