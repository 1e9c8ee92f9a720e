/- slices.Chunk: its function, and the parts over which it ranges; bytes.HasPrefix. -/
import Derived.Test.YthjmjccggkejhaaDoorSoa
import Derived.Test.YthjmjccggkejhaaDoorWrg
namespace Go.Proofs.YthjmjccggkejhaaDoor
open Go.RowKit Go.Shelf
attribute [local go_sem] Oper.semAt_some

set_option maxHeartbeats 400000 in
theorem hasPre_yes (v1 v2 : Value) (a q : List UInt8) (w : World) (h1 : Bs w v1 (a ++ q)) (h2 : Bs w v2 a) :
    Calls Tryd.prog 32 #[v1, v2] w fun e w' => e = .returned (.bool true) ∧ w = w' := by
  have H1 := Lib.hid h1
  have H2 := Lib.hid h2
  obtain ⟨A, c, rfl, g1, g2, g3⟩ := h1
  obtain ⟨A', c', rfl, k1, k2, k3⟩ := h2
  have HD := Lib.hid (H1.out.take a.length (by simp))
  rw [List.take_left] at HD
  clear g3 k3
  unfold maxLen at g2 k2
  rw [List.length_append] at *
  go_enter Tryd.func32, Tryd.ntmps32
  go_wp2_with fail
  refine (bytesEqual_any _ _ a a w HD.out H2.out).mono ?_
  rintro e w' ⟨rfl, rfl⟩
  rw [show (a == a) = true by simp]
  go_wp2_with fail
  go_ret
  exact ⟨rfl, rfl⟩

set_option maxHeartbeats 400000 in
theorem chunk_any (A : Option Addr) (n c : Nat) (w : World) :
    Calls Tryd.prog 33 #[.slice A n c, .int .i64 136] w fun e w' => e = .returned (.func (.func 55) #[] #[.pointer (some ⟨w.heap.size, 0, none⟩), .pointer (some ⟨w.heap.size + 1, 0, none⟩)]) ∧
      Cs w' w.heap.size 24 #[.slice A n c] ∧ Cs w' (w.heap.size + 1) 3 #[.int .i64 136] ∧ w'.heap.size = w.heap.size + 2 ∧ Ext w w' := by
  go_enter Tryd.func33, Tryd.ntmps33
  go_wp2
  go_ret
  exact ⟨rfl, (Cs.new _ _ _ _ rfl).alloc _, Cs.new _ _ _ _ (by simp), by simp, ((Ext.refl w).alloc _).alloc _⟩

/-- What a round over the parts is handed. -/
def cEnc (bb o N : Nat) (k : Nat) : Array Value := #[.slice (some ⟨bb, o + 136 * (k % N), none⟩) 136 136]

set_option maxRecDepth 100000 in
set_option maxHeartbeats 1000000 in
theorem chunk1_stops (m N bb o c Bs Bn : Nat) (hm : 1 ≤ m) (hN : 136 * N ≤ 1000000136) (hc : 136 * N ≤ c) (hcm : c ≤ 9223372036854775807) (w : World) (h1 : Cs w Bs 24 #[.slice (some ⟨bb, o, none⟩) (136 * N) c]) (h2 : Cs w Bn 3 #[.int .i64 136]) :
    SeqStopsK Fence.wide m Tryd.prog 55 #[.pointer (some ⟨Bs, 0, none⟩), .pointer (some ⟨Bn, 0, none⟩)] (cEnc bb o N) (Kp2 Bs Bn) (fun xs => xs = List.range N) (fun _ => True) N w := fun l J Jx W hW hJ hJx hY h0 => by
  refine callsIn_of_wp Tryd.func55 rfl trivial ?_ rfl
  simp only [Tryd.ntmps55, List.size_toArray, List.length_cons, List.length_nil, Nat.reduceAdd, Nat.reduceSub, Array.replicate_succ, Array.replicate_zero, List.push_toArray, List.append_toArray, List.nil_append, List.cons_append]
  have k1 : Cs W Bs 24 #[.slice (some ⟨bb, o, none⟩) (136 * N) c] := h1.ext hW
  have k2 : Cs W Bn 3 #[.int .i64 136] := h2.ext hW
  clear h1 h2
  gi_wp2
  gi_loopw [4, 5] (fun p _ wr => ∃ k : Nat, k ≤ N ∧ p = .int .i64 (136 * k : Nat) ∧ Cs wr Bs 24 #[.slice (some ⟨bb, o, none⟩) (136 * N) c] ∧ Cs wr Bn 3 #[.int .i64 136] ∧ Hid (J (List.range k) wr)) (fun p _ _ => 136 * N - (intOf p).toNat)
  case atStart => exact ⟨0, by omega, rfl, k1, k2, h0⟩
  case round =>
    obtain ⟨k, hk, rfl, r1, r2, HJ⟩ := hrel
    clear k1 k2 h0
    have c1 := r1.cell 0 _ rfl
    have c2 := r2.cell 0 _ rfl
    by_cases hlt : k < N
    · have hn : 136 * k + 136 ≤ 136 * N := by omega
      have hne : (136 * (k + 1) : Nat) = 136 * k + 136 := by omega
      have HNE := Lib.hid hne
      clear hne
      have hJd : J (List.range k) wr.drew := hJ _ wr _ none HJ.out (grown_drew (World.grownBy.refl _ _)) (fun r e => by cases e)
      obtain ⟨fn, tmps, assign, body, hy, hR⟩ := hY (List.range k) k wr.drew hJd (by rw [List.length_range]; exact hlt)
      unfold cEnc at hy
      rw [Nat.mod_eq_of_lt hlt] at hy
      have hR' := hR.mono (R' := fun e W' => ∃ b : Bool, e = .returned (.bool b) ∧ ((b = true ∧ J (List.range k ++ [k]) W' ∧ Kp2 Bs Bn wr.drew W') ∨ (b = false ∧ Jx (List.range k ++ [k]) W'))) (fun e W' h => by
        rcases h with ⟨rfl, h1, h2⟩ | ⟨rfl, h1⟩
        · exact ⟨true, rfl, .inl ⟨rfl, h1, h2⟩⟩
        · exact ⟨false, rfl, .inr ⟨rfl, h1⟩⟩)
      have HR := Lib.hid hR'
      clear hR hR' hJd hY HJ
      generalize 136 * k = q at *
      have HQL := Lib.hid (show 136 * N - q < 136 * N - q + 1 by omega)
      generalize 136 * N = L at *
      have c1 : wr.cell? ⟨Bs, 0, none⟩ = some (.slice (some ⟨bb, o, none⟩) L c) := c1
      have c2 : wr.cell? ⟨Bn, 0, none⟩ = some (.int .i64 136) := c2
      have hmx : Tryd.prog.follows .mixedOrders = true := by kernel_rfl
      have d1 : decide ((q : Int) < (L : Int)) = true := decide_eq_true (by omega)
      have d2 : (0 : Int) ≤ (q : Int) := by omega
      have d3 : (q : Int) ≤ (L : Int) := by omega
      have d4 : ¬ c - q = 0 := by omega
      have d5 : q < c := by omega
      have d6 : q ≤ L := by omega
      have d7 : ((q : Int) + 136).toNat - q = 136 := by omega
      gi_wp2
      gi_region_with_o fail
      all_goals
        rw [show min (136 : Int) ((L - q : Nat) : Int) = 136 by omega]
        gi_wp2
        refine HR.out.mono ?_
        rintro e W3 ⟨bb2, rfl, hb⟩
        have HB := Lib.hid hb
        clear hb hy HR c1 c2
        rcases HB.out with ⟨rfl, hJ3, hk3⟩ | ⟨rfl, hJx3⟩
        · have HJ3 := Lib.hid hJ3
          have r1' : Cs W3 Bs 24 #[.slice (some ⟨bb, o, none⟩) L c] := hk3.1.trans r1
          have r2' : Cs W3 Bn 3 #[.int .i64 136] := hk3.2.trans r2
          have c1' : W3.cell? ⟨Bs, 0, none⟩ = some (.slice (some ⟨bb, o, none⟩) L c) := r1'.cell 0 _ rfl
          have c2' : W3.cell? ⟨Bn, 0, none⟩ = some (.int .i64 136) := r2'.cell 0 _ rfl
          clear HB hJ3 hk3 r1 r2
          gi_wp2
          refine ⟨⟨k + 1, by omega, by rw [HNE.out]; go_num, r1', r2', ?_⟩, by simp [intOf]; omega⟩
          show J _ _
          rw [List.range_succ]
          exact HJ3.out
        · have HJ3 := Lib.hid hJx3
          clear HB hJx3 r1 r2
          gi_wp2
          refine bodyPost_ret (results_none rfl _ _ _) rfl ?_
          exact ⟨⟨_, rfl⟩, .inr ⟨_, trivial, HJ3.out⟩⟩
    · obtain rfl : k = N := by omega
      have c1 : wr.cell? ⟨Bs, 0, none⟩ = some (.slice (some ⟨bb, o, none⟩) (136 * k) c) := c1
      generalize 136 * k = q at *
      gi_wp2
      go_end0
      exact ⟨⟨_, rfl⟩, .inl ⟨_, rfl, HJ.out⟩⟩
end Go.Proofs.YthjmjccggkejhaaDoor
