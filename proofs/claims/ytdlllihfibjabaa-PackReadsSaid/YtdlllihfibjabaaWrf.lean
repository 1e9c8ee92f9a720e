/- The bits of a word, told from the highest one on: the function over which Div, Bytes and Text range. -/
import Derived.Test.YtdlllihfibjabaaWre
import Derived.RangeFuncNested
import Derived.RangeFuncBound
import Derived.RangeFuncCalls
import Derived.RangeFuncLeaves
import Derived.RangeFuncWrites
import Derived.Shelf.Abstract
import Derived.Shelf.RegionOpen
import Derived.OwnWalkIn
import Derived.TacticsInMore
import Derived.LoopNIn
import Derived.LoopIn
namespace Go.Proofs.Ytdlllihfibjabaa
open Go.RowKit Go.Shelf
attribute [local go_sem] Oper.semAt_some

/-- What downward leaves: the function, with its two captured blocks. -/
def RetDown (n wd : Nat) (w : World) (e : Ending) (w' : World) : Prop :=
  ∃ g h : Nat, e = .returned (.func (.func 132) #[] #[.pointer (some ⟨g, 0, none⟩), .pointer (some ⟨h, 0, none⟩)]) ∧ g = w.heap.size + 1 ∧ h = w.heap.size ∧ Cs w' g 3 #[.int .i64 wd] ∧ Wd w' h 46 n ∧ w'.heap.size = w.heap.size + 2 ∧ Ext w w'

set_option maxRecDepth 100000 in
set_option maxHeartbeats 400000 in
theorem downward_any (n wd : Nat) (wi : Int) (hwi : wi = (wd : Int)) (w : World) :
    Calls Try.prog 107 #[wv n, .int .i64 wi] w (RetDown n wd w) := by
  subst hwi
  unfold wv
  go_enter Try.func107, Try.ntmps107
  go_wp2
  go_ret
  exact ⟨_, _, rfl, rfl, rfl, Cs.new _ _ _ _ (by simp), (Cs.new _ _ _ _ rfl).alloc _, by simp, ((Ext.refl w).alloc _).alloc _⟩

/-- The place of the bits that come in the round k. -/
def dAt (wd k : Nat) : Nat := 256 - wd * (k + 1)
/-- The bits that come in the round k. -/
def dBits (n wd k : Nat) : Nat := n / 2 ^ dAt wd k % 2 ^ wd
/-- What the round k is handed. -/
def dEnc (n wd : Nat) (k : Nat) : Array Value := #[.int .i64 (dAt wd k : Nat), .int .u64 (dBits n wd k : Nat)]
/-- Two blocks stay. -/
def Kp2 (g h : Nat) (W W' : World) : Prop := W'.heap[g]? = W.heap[g]? ∧ W'.heap[h]? = W.heap[h]?

set_option maxRecDepth 100000 in
theorem down_pick (n t wd k N : Nat) (hw1 : 1 ≤ wd) (hw2 : wd ≤ 32) (hd : 64 % wd = 0) (hN : wd * N = 256) (hq : t + wd + wd * k = 256) :
    (dAt wd k = t ∧ k < N) ∧ lb n (t / 64) / 2 ^ (t % 64) % 2 ^ wd = dBits n wd k := by
  have e1 : wd * (k + 1) = wd * k + wd := Nat.mul_succ _ _
  have e2 : dAt wd k = t := by unfold dAt; omega
  have e3 : wd * (k + 1) ≤ wd * N := by omega
  have e4 : k + 1 ≤ N := Nat.le_of_mul_le_mul_left e3 (by omega)
  have d1 : wd ∣ 64 := Nat.dvd_of_mod_eq_zero hd
  have d2 : wd ∣ t := by
    have : wd ∣ 256 := ⟨N, hN.symm⟩
    have h3 : t = wd * N - wd * (k + 1) := by omega
    rw [h3, ← Nat.mul_sub]
    exact ⟨_, rfl⟩
  have d3 : t % 64 + wd ≤ 64 := by
    have h1 : wd ∣ t % 64 := (Nat.dvd_mod_iff d1).2 d2
    have h2 : t % 64 < 64 := Nat.mod_lt _ (by decide)
    obtain ⟨a, ha⟩ := h1
    obtain ⟨b, hb⟩ := d1
    rw [ha] at h2 ⊢
    rw [hb] at h2 ⊢
    have : a < b := Nat.lt_of_mul_lt_mul_left h2
    calc wd * a + wd = wd * (a + 1) := (Nat.mul_succ _ _).symm
      _ ≤ wd * b := Nat.mul_le_mul_left _ this
  refine ⟨⟨e2, by omega⟩, ?_⟩
  unfold dBits
  rw [e2, lb_div n (t / 64) (t % 64) wd d3]
  congr 3
  omega

set_option maxRecDepth 100000 in
set_option maxHeartbeats 1000000 in
theorem down1_stops (m n wd N Bw Ba : Nat) (hm : 1 ≤ m) (hN : wd * N = 256) (hd : 64 % wd = 0) (hw1 : 1 ≤ wd) (hw2 : wd ≤ 32) (w : World) (h1 : Cs w Bw 3 #[.int .i64 wd]) (h2 : Wd w Ba 46 n) :
    SeqStopsK Fence.wide m Try.prog 132 #[.pointer (some ⟨Bw, 0, none⟩), .pointer (some ⟨Ba, 0, none⟩)] (dEnc n wd) (Kp2 Bw Ba) (fun xs => xs = List.range N) (fun _ => True) N w := fun l J Jx W hW hJ hJx hY h0 => by
  refine callsIn_of_wp Try.func132 rfl trivial ?_ rfl
  simp only [Try.ntmps132, List.size_toArray, List.length_cons, List.length_nil, Nat.reduceAdd, Nat.reduceSub, Array.replicate_succ, Array.replicate_zero, List.push_toArray, List.append_toArray, List.nil_append, List.cons_append]
  have k1 : Cs W Bw 3 #[.int .i64 wd] := h1.ext hW
  have k2 : Wd W Ba 46 n := h2.ext hW
  have c1 := k1.cell 0 _ rfl
  gi_wp2
  gi_loopw [4] (fun p wr => ∃ k q : Nat, q ≤ 256 ∧ Hid (q + wd * k = 256) ∧ p = .int .i64 ((q : Int) - wd) ∧ Cs wr Bw 3 #[.int .i64 wd] ∧ Wd wr Ba 46 n ∧ Hid (J (List.range k) wr)) (fun p _ => (intOf p + wd).toNat)
  case atStart => exact ⟨0, 256, by omega, rfl, rfl, k1, k2, h0⟩
  case round =>
    obtain ⟨k, q, hq, HQ, rfl, r1, r2, HJ⟩ := hrel
    clear k1 k2 c1
    have c1 : wr.cell? ⟨Bw, 0, none⟩ = some (.int .i64 wd) := r1.cell 0 _ rfl
    by_cases hlt : wd ≤ q
    · obtain ⟨t, rfl⟩ : ∃ t, q = t + wd := ⟨q - wd, by omega⟩
      rw [show ((t + wd : Nat) : Int) - wd = (t : Int) by omega]
      have c2 := r2.cell (t / 64) (by omega)
      have hi1 : (0 : Int) ≤ (t : Int) / 64 := by omega
      have hi2 : (t : Int) / 64 < 4 := by omega
      have hi3 : (0 : Int) ≤ (t : Int) % 64 := by omega
      have hi4 : (t : Int) % 64 < 64 := by omega
      have hmx : Try.prog.follows .mixedOrders = true := by kernel_rfl
      have hlb := lb_lt n (t / 64)
      have ht1 : IntKind.i64.wrap ((t : Int) / 64) = (t : Int) / 64 := IntWalk.i64_in _ (by omega)
      have ht5 : ((t : Int) / 64).toNat = t / 64 := by omega
      have HT := Lib.hid (down_pick n t wd k N hw1 hw2 hd hN HQ.out)
      have hp1 : 1 ≤ 2 ^ wd := Nat.one_le_two_pow
      have hp2 : 2 ^ wd ≤ 4294967296 := Nat.pow_le_pow_right (n := 2) (by decide) hw2
      have hs2 : IntKind.u64.wrap ((2 : Int) ^ wd) = ((2 ^ wd : Nat) : Int) := by
        rw [show (2 : Int) ^ wd = ((2 ^ wd : Nat) : Int) by simp, IntWalk.u64_in _ (by omega)]
      have hs1 : Op.shift .shr .u64 (lb n (t / 64) : Nat) .i64 ((t : Int).tmod 64) = pure (.int .u64 ((lb n (t / 64) / 2 ^ (t % 64) : Nat) : Int)) := by
        rw [Int.tmod_eq_emod_of_nonneg (by omega), shift_shr .u64 .i64 _ _ (by omega) (by simp [IntKind.bits]; omega), show ((t : Int) % 64).toNat = t % 64 by omega]
        simp
      have hs1' : Op.shift .shr .u64 (lb n (t / 64) : Nat) .i64 ((t : Int) % 64) = pure (.int .u64 ((lb n (t / 64) / 2 ^ (t % 64) : Nat) : Int)) := by
        rw [shift_shr .u64 .i64 _ _ (by omega) (by simp [IntKind.bits]; omega), show ((t : Int) % 64).toNat = t % 64 by omega]
        simp
      have hyb : lb n (t / 64) / 2 ^ (t % 64) < 18446744073709551616 := Nat.lt_of_le_of_lt (Nat.div_le_self _ _) hlb
      have hs4 : bits .and .u64 ((lb n (t / 64) / 2 ^ (t % 64) : Nat) : Int) (((2 ^ wd : Nat) : Int) - 1) = ((lb n (t / 64) / 2 ^ (t % 64) % 2 ^ wd : Nat) : Int) := by
        rw [show (((2 ^ wd : Nat) : Int) - 1) = ((2 ^ wd - 1 : Nat) : Int) by omega, u64_and_nat _ _ hyb (by omega), Nat.and_two_pow_sub_one_eq_mod]
      rw [HT.out.2] at hs4
      have hs3 : IntKind.u64.wrap (((2 ^ wd : Nat) : Int) - 1) = ((2 ^ wd : Nat) : Int) - 1 := IntWalk.u64_in _ (by omega)
      have hJd : J (List.range k) wr.drew := hJ _ wr _ none HJ.out (grown_drew (World.grownBy.refl _ _)) (fun r e => by cases e)
      obtain ⟨fn, tmps, assign, body, hy, hR⟩ := hY (List.range k) k wr.drew hJd (by rw [List.length_range]; exact HT.out.1.2)
      unfold dEnc at hy
      rw [HT.out.1.1] at hy
      have hR' := hR.mono (R' := fun e W' => ∃ b : Bool, e = .returned (.bool b) ∧ ((b = true ∧ J (List.range k ++ [k]) W' ∧ Kp2 Bw Ba wr.drew W') ∨ (b = false ∧ Jx (List.range k ++ [k]) W'))) (fun e W' h => by
        rcases h with ⟨rfl, h1, h2⟩ | ⟨rfl, h1⟩
        · exact ⟨true, rfl, .inl ⟨rfl, h1, h2⟩⟩
        · exact ⟨false, rfl, .inr ⟨rfl, h1⟩⟩)
      have HR := Lib.hid hR'
      have HK := Lib.hid HT.out.1
      clear hR hR' hJd HT hyb hlb hY h0 HJ
      generalize dBits n wd k = z at *
      generalize lb n (t / 64) / 2 ^ (t % 64) = y at *
      generalize 2 ^ wd = pw at *
      generalize lb n (t / 64) = x at *
      gi_wp2
      gi_region_with_o (refine HR.out.mono ?_; rintro e W3 ⟨bb, rfl, hb⟩; have HB := Lib.hid hb; clear hb)
      all_goals
        clear hs1 hs1' hs2 hs3 hs4 ht1 ht5 hy c1 c2 HR
        rcases HB.out with ⟨rfl, hJ3, hk3⟩ | ⟨rfl, hJx3⟩
        · have HJ3 := Lib.hid hJ3
          have r1' : Cs W3 Bw 3 #[.int .i64 wd] := hk3.1.trans r1
          have r2' : Wd W3 Ba 46 n := hk3.2.trans r2
          have c1' : W3.cell? ⟨Bw, 0, none⟩ = some (.int .i64 wd) := r1'.cell 0 _ rfl
          clear HB hJ3 hk3 r1 r2
          gi_wp2
          refine ⟨⟨k + 1, t, by omega, ?_, rfl, r1', r2', ?_⟩, by simp [intOf]; omega⟩
          · show _ = _
            have := HQ.out
            rw [Nat.mul_succ]
            omega
          · show J _ _
            rw [List.range_succ]
            exact HJ3.out
        · have HJ3 := Lib.hid hJx3
          clear HB hJx3 r1 r2
          gi_wp2
          refine bodyPost_ret (results_none rfl _ _ _) rfl ?_
          exact ⟨⟨_, rfl⟩, .inr ⟨_, trivial, HJ3.out⟩⟩
    · have HK := Lib.hid (show k = N by
        have h3 := HQ.out
        have hlt' : wd * k < wd * (N + 1) := by rw [Nat.mul_succ]; omega
        have hge : wd * (N - 1) < wd * k := by rw [Nat.mul_sub, Nat.mul_one]; omega
        have h4 := Nat.lt_of_mul_lt_mul_left hlt'
        have h5 := Nat.lt_of_mul_lt_mul_left hge
        omega)
      gi_wp2
      go_end0
      refine ⟨⟨_, rfl⟩, .inl ⟨_, rfl, ?_⟩⟩
      rw [← HK.out]
      exact HJ.out
end Go.Proofs.Ytdlllihfibjabaa
