/- Contract of Mul. -/
import Derived.Test.YtgmmkoahnednfaaWrm
namespace Go.Proofs.Ytgmmkoahnednfaa
open Go.RowKit

set_option maxRecDepth 100000 in
theorem idx_word (a i : Nat) (hi : i < 4) (u : World) : (Instr.index 27 (wv a) (.int .i64 (i : Nat))).run Try.prog u = .ok (.int .u64 (lb a i : Nat)) u := by
  match i, hi with
  | 0, _ => rfl
  | 1, _ => rfl
  | 2, _ => rfl
  | 3, _ => rfl

set_option maxRecDepth 100000 in
set_option maxHeartbeats 400000 in
theorem mul1_any (i gp P : Nat) (hi : i < 4) (u : World) (hp : Cs u gp 90 (pc P)) :
    Calls Try.prog 63 #[.int .i64 i, .pointer (some ⟨gp, 0, none⟩)] u fun e u' => e = .returned (lv (lb P i)) ∧ Ext u u' := by
  have h1 : u.cell? ⟨gp, i, none⟩ = some (.int .u64 (lb P i : Nat)) := hp.cell _ _ (pc_get P i (by omega))
  clear hp
  unfold lv
  have hi1 : (0 : Int) ≤ (i : Int) := by omega
  have hi2 : (i : Int) < 8 := by omega
  go_enter Try.func63, Try.ntmps63
  go_wp2
  go_ret
  exact ⟨rfl, Ext.refl _⟩

set_option maxRecDepth 100000 in
set_option maxHeartbeats 400000 in
theorem mul2_any (i gp P : Nat) (hi : i < 4) (u : World) (hp : Cs u gp 90 (pc P)) :
    Calls Try.prog 64 #[.int .i64 i, .pointer (some ⟨gp, 0, none⟩)] u fun e u' => e = .returned (lv (lb P (4 + i))) ∧ Ext u u' := by
  have h1 : u.cell? ⟨gp, 4 + i, none⟩ = some (.int .u64 (lb P (4 + i) : Nat)) := hp.cell _ _ (pc_get P (4 + i) (by omega))
  clear hp
  unfold lv
  have hi1 : (0 : Int) ≤ 4 + (i : Int) := by omega
  have hi2 : 4 + (i : Int) < 8 := by omega
  go_enter Try.func64, Try.ntmps64
  go_wp2
  go_ret
  exact ⟨rfl, Ext.refl _⟩

set_option maxRecDepth 100000 in
theorem M256_B : M256 = 18446744073709551616 ^ 4 := rfl
set_option maxRecDepth 100000 in
theorem lb_low (P i : Nat) (hi : i < 4) : lb P i = lb (P % M256) i := by
  rw [lb_mod, lb_mod, M256_B, Nat.mod_mod_of_dvd _ (Nat.pow_dvd_pow _ (by omega))]
set_option maxRecDepth 100000 in
theorem lb_high (P i : Nat) : lb P (4 + i) = lb (P / M256) i := by
  unfold lb
  rw [M256_B, Nat.pow_add, ← Nat.div_div_eq_div_mul]

/-- The product, and whether it did not fit. -/
def mulN (a b : Nat) : Nat := a * b % M256
def mulO (a b : Nat) : Bool := decide (M256 ≤ a * b)

set_option maxRecDepth 100000 in
set_option maxHeartbeats 2000000 in
theorem mul_any (a b : Nat) (w : World) (ha : a < M256) (hb : b < M256) :
    Calls Try.prog 22 #[wv a, wv b] w fun e w' => e = .returned (.tuple #[wv (mulN a b), .bool (mulO a b)]) ∧ Ext w w' := by
  unfold wv
  go_enter Try.func22, Try.ntmps22
  go_wp2_with ((with_reducible refine wpList_load_word rfl 27 25 (.tmp 2) rfl Try.underlying27 winfo w.heap.size a ?_ ?_ ?_); (exact rfl); (exact (((Cs.new _ _ _ _ rfl).alloc _).alloc _).alloc _))
  go_loopw [15] (fun iv wr => ∃ i : Nat, i ≤ 4 ∧ iv = .int .i64 i ∧ Wd wr (w.heap.size + 1) 27 b ∧ Cs wr (w.heap.size + 1 + 1) 27 (wc 0) ∧ Cs wr (w.heap.size + 1 + 1 + 1) 90 (pc (a % 18446744073709551616 ^ i * b)) ∧ Hid (Ext w wr)) (fun iv _ => 4 - (intOf iv).toNat)
  case atStart =>
    refine ⟨0, by omega, rfl, ((Cs.new _ _ _ _ (by simp)).alloc _).alloc _, (Cs.new _ _ _ _ (by simp)).alloc _, ?_, ((((Ext.refl w).alloc _).alloc _).alloc _).alloc _⟩
    rw [Nat.pow_zero, Nat.mod_one, Nat.zero_mul]
    exact Cs.new _ _ _ _ (by simp)
  case round =>
    obtain ⟨i, hi, rfl, hB, hR, hP, HX⟩ := hrel
    by_cases hlt : i < 4
    · have hix := idx_word a i hlt
      have hxb := lb_lt a i
      have HXA := Lib.hid (show lb a i = lb a i from rfl)
      generalize hx : lb a i = x at *
      have HXV := Lib.hid hx
      clear hx HXA
      go_wp2_with ((with_reducible refine wpList_load_word rfl 27 25 (.tmp 3) rfl Try.underlying27 winfo (w.heap.size + 1) b ?_ ?_ ?_); (exact rfl); (exact hB))
      obtain ⟨wo, rfl⟩ : ∃ wo : World, wo = wr := ⟨_, rfl⟩
      have hPb : a % 18446744073709551616 ^ i * b < 18446744073709551616 ^ (i + 4) := by
        rw [Nat.pow_add]
        exact Nat.mul_lt_mul'' (Nat.mod_lt _ (Nat.pow_pos (by decide))) hb
      have HPB := Lib.hid hPb
      clear hPb
      go_loopw [9, 20] (fun cv jv wi => ∃ j c P : Nat, j ≤ 4 ∧ jv = .int .i64 j ∧ cv = .int .u64 c ∧ c < 18446744073709551616 ∧ Wd wi (w.heap.size + 1) 27 b ∧ Cs wi (w.heap.size + 1 + 1) 27 (wc 0) ∧ Cs wi (w.heap.size + 1 + 1 + 1) 90 (pc P) ∧ Hid (Ext w wi) ∧ Hid (P < 18446744073709551616 ^ (i + 4)) ∧ Hid (P + c * 18446744073709551616 ^ (i + j) = a % 18446744073709551616 ^ i * b + x * (b % 18446744073709551616 ^ j) * 18446744073709551616 ^ i)) (fun _ jv _ => 4 - (intOf jv).toNat)
      case atStart => exact ⟨0, 0, _, by omega, rfl, rfl, by omega, hB, hR, hP, HX, HPB, by show _ = _; simp [Nat.mod_one]⟩
      case round =>
        obtain ⟨j, c, P, hj, rfl, rfl, hcb, hB', hR', hP', HX', HPB', HEQ⟩ := hrel
        clear hB hR hP HX HPB
        by_cases hjlt : j < 4
        · have hiy := idx_word b j hjlt
          have hyb := lb_lt b j
          have HST := Lib.hid (mul_step P c x (lb b j) (a % 18446744073709551616 ^ i) b i j hlt hjlt rfl HPB'.out HEQ.out)
          generalize lb b j = y at *
          have hcell : wr.cell? ⟨w.heap.size + 1 + 1 + 1, i + j, none⟩ = some (.int .u64 (lb P (i + j) : Nat)) := hP'.cell _ _ (pc_get P (i + j) (by omega))
          have hfz := hP'.frozen (i + j)
          have hpb := lb_lt P (i + j)
          have hij1 : (0 : Int) ≤ (i : Int) + j := by omega
          have hij2 : (i : Int) + j < 8 := by omega
          have hlo : maLo x y (lb P (i + j)) c < 18446744073709551616 := Nat.mod_lt _ (by decide)
          have hhi : maHi x y (lb P (i + j)) c < 18446744073709551616 := by
            have h1 := mul_le64 x y hxb hyb
            unfold maHi
            omega
          have HSET := Lib.hid (pc_set P (i + j) _ hlo)
          generalize lb P (i + j) = p at *
          go_wp2_with fail
          refine (mulAdd_any x y p c hxb hyb hpb hcb _).mono ?_
          rintro e w' ⟨rfl, rfl⟩
          go_wp2_with fail
          go_roundw
          case rel =>
            refine ⟨j + 1, maHi x y p c, setD P (i + j) (maLo x y p c), by omega, by go_num, rfl, hhi, hB'.kept (grown_set _ _ _ _) (by simp), hR'.kept (grown_set _ _ _ _) (by simp), ?_, HX'.out.grown (grown_set _ _ _ _) (by omega), HST.out.2, HST.out.1⟩
            rw [← HSET.out]
            exact hP'.set (i + j) (lv (maLo x y p c))
          case measure => simp [intOf]; omega
        · obtain rfl : j = 4 := by omega
          have HEND := Lib.hid (mul_end P c x _ a b i rfl HXV.out.symm HPB'.out hb HEQ.out)
          have hcell : wr.cell? ⟨w.heap.size + 1 + 1 + 1, i + 4, none⟩ = some (.int .u64 (lb P (i + 4) : Nat)) := hP'.cell _ _ (pc_get P (i + 4) (by omega))
          have hfz := hP'.frozen (i + 4)
          have hij1 : (0 : Int) ≤ (i : Int) + 4 := by omega
          have hij2 : (i : Int) + 4 < 8 := by omega
          have HSET := Lib.hid (pc_set P (i + 4) c hcb)
          go_wp2_with fail
          refine ⟨⟨i + 1, by omega, by go_num, hB'.kept (grown_set _ _ _ _) (by simp), hR'.kept (grown_set _ _ _ _) (by simp), ?_, HX'.out.grown (grown_set _ _ _ _) (by omega)⟩, by simp [intOf]; omega⟩
          rw [← HEND.out, ← HSET.out]
          exact hP'.set (i + 4) (lv c)
    · obtain rfl : i = 4 := by omega
      rw [Nat.mod_eq_of_lt (show a < 18446744073709551616 ^ 4 from ha)] at hP
      have hlt : a * b < M256 * M256 := Nat.mul_lt_mul'' ha hb
      have HL := Lib.hid (show a * b % M256 < M256 from Nat.mod_lt _ (by decide))
      have hhb : a * b / M256 < M256 := Nat.div_lt_of_lt_mul hlt
      have hov : (a * b / M256 != 0) = mulO a b := by
        rw [Bool.eq_iff_iff]
        unfold mulO
        simp only [bne_iff_ne, ne_eq, decide_eq_true_eq]
        rw [Nat.div_eq_zero_iff]
        unfold M256
        omega
      have HOV := Lib.hid hov
      have hmn : a * b % M256 = mulN a b := rfl
      have HMN := Lib.hid hmn
      clear hov hmn hlt hi
      generalize a * b = P at *
      have hsz := hP.lt
      go_wp2_with fail
      refine (limbs_any 63 _ (fun i => lb P i) (fun i u => Cs u (w.heap.size + 1 + 1) 27 (wc 0) ∧ Cs u (w.heap.size + 1 + 1 + 1) 90 (pc P)) none wr
        (fun args u => Try.call63 args u) (fun g e => by cases e) ⟨hR, hP⟩ ?_ ?_ _ HL.out (fun i hi => lb_low P i hi)).mono ?_
      · rintro i u u' ⟨h0, h2⟩ hk
        exact ⟨(hk _ (by omega)).trans h0, (hk _ (by omega)).trans h2⟩
      · rintro i u hi ⟨h0, h2⟩
        refine (mul1_any i _ P hi u h2).mono ?_
        rintro e u' ⟨rfl, he⟩
        exact ⟨rfl, ⟨h0.ext he, h2.ext he⟩, grown_of_ext he _⟩
      rintro e w2 ⟨rfl, ⟨hR2, hP2⟩, hg2⟩
      have HX2 := Lib.hid (HX.out.trans (ext_of_grown hg2))
      have hsz2 := hg2.size
      clear hg2 hR hP HX hB
      go_wp2_with (refine wpList_store_word rfl rfl 27 (.tmp 12) (.tmp 47) rfl winfo w2.heap.size (wc 0) (P % M256) rfl rfl (heap_alloc_new _ _) rfl ?_; intro w3 k3 g3)
      have HX3 := Lib.hid ((HX2.out.alloc _).grown g3 (by have := HX2.out.size; omega))
      have hR3 := (hR2.alloc _).kept g3 (some_ne (by omega))
      have hP3 := (hP2.alloc _).kept g3 (some_ne (by omega))
      have hsz3 : w2.heap.size + 1 ≤ w3.heap.size := by have := g3.size; simpa using this
      clear g3 hR2 hP2 HX2
      refine (limbs_any 64 _ (fun i => lb P (4 + i)) (fun i u => Cs u (w.heap.size + 1 + 1) 27 (wc 0) ∧ Cs u (w.heap.size + 1 + 1 + 1) 90 (pc P) ∧ Wd u w2.heap.size 27 (P % M256)) none w3
        (fun args u => Try.call64 args u) (fun g e => by cases e) ⟨hR3, hP3, k3⟩ ?_ ?_ _ hhb (fun i hi => lb_high P i)).mono ?_
      · rintro i u u' ⟨h0, h1, h2⟩ hk
        exact ⟨(hk _ (by omega)).trans h0, (hk _ (by omega)).trans h1, (hk _ (by omega)).trans h2⟩
      · rintro i u hi ⟨h0, h1, h2⟩
        refine (mul2_any i _ P hi u h1).mono ?_
        rintro e u' ⟨rfl, he⟩
        exact ⟨rfl, ⟨h0.ext he, h1.ext he, h2.ext he⟩, grown_of_ext he _⟩
      rintro e w4 ⟨rfl, ⟨hR4, hP4, k4⟩, hg4⟩
      have HX4 := Lib.hid (HX3.out.trans (ext_of_grown hg4))
      have hsz4 := hg4.size
      clear hg4 hR3 hP3 HX3 k3 hP4
      go_wp2_with (refine wpList_store_word rfl rfl 27 (.tmp 13) (.tmp 49) rfl winfo w4.heap.size (wc 0) (P / M256) rfl rfl (heap_alloc_new _ _) rfl ?_; intro w5 k5 g5)
      have HX5 := Lib.hid ((HX4.out.alloc _).grown g5 (by have := HX4.out.size; omega))
      have hR5 := (hR4.alloc _).kept g5 (some_ne (by omega))
      have k5' := (k4.cs.alloc _).kept g5 (some_ne (by omega))
      have hlt4 := k4.lt
      clear g5 hR4 HX4 k4
      have HR5 := Lib.hid hR5
      have hq : ∀ u : World, (binOp .neq 27 (.agg #[.int .u64 (lb (P / M256) 0 : Nat), .int .u64 (lb (P / M256) 1 : Nat), .int .u64 (lb (P / M256) 2 : Nat), .int .u64 (lb (P / M256) 3 : Nat)]) (.agg #[.int .u64 0, .int .u64 0, .int .u64 0, .int .u64 0])).run Try.prog u = .ok (.bool (P / M256 != 0)) u := run_neq_word (P / M256) 0 hhb (by decide)
      have hg : ∀ (x y : Operand) (u : World), (eqGuard .neq 27 x y (.agg #[.int .u64 (lb (P / M256) 0 : Nat), .int .u64 (lb (P / M256) 1 : Nat), .int .u64 (lb (P / M256) 2 : Nat), .int .u64 (lb (P / M256) 3 : Nat)]) (.agg #[.int .u64 0, .int .u64 0, .int .u64 0, .int .u64 0])).run Try.prog u = .ok () u := fun x y u => run_guard_neq x y _ 0 u
      rw [HOV.out] at hq
      generalize hbo : mulO a b = bo at *
      have HBO := Lib.hid hbo
      clear hbo
      obtain ⟨q0, q1, q2, q3⟩ := k5'.four
      obtain ⟨s0, s1, s2, s3⟩ := k5.cs.four
      obtain ⟨p0, p1, p2, p3⟩ := hR5.four
      have f0 := hR5.frozen 0
      have f1 := hR5.frozen 1
      have f2 := hR5.frozen 2
      have f3 := hR5.frozen 3
      clear k5 k5' hR5
      go_region
      go_wp2
      rw [HBO.out, ← HMN.out]
      exact bodyPost_ret (results_word_tmp Try.results22 _ _ (w.heap.size + 1 + 1) _ rfl (HR5.out.laid _) Try.underlying27 winfo) rfl ⟨rfl, HX5.out.laid (by omega) _ _ _ _⟩
end Go.Proofs.Ytgmmkoahnednfaa
