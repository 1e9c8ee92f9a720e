/- Contracts of package word: Of, Small, Cmp; words that are the same. -/
import Derived.Test.YtdlllihfibjabaaWrd
import Derived.ChangeKeysEq
import Derived.Laws.StructEq
import Derived.Deep.RegionHeld3
namespace Go.Proofs.Ytdlllihfibjabaa
open Go.RowKit

set_option maxRecDepth 100000 in
theorem wu_info : ∃ i, Try.prog.info? 44 = some i := ⟨_, rfl⟩
set_option maxRecDepth 100000 in
theorem wu_cells : Try.prog.cellsOf 44 = 1 := by kernel_rfl
set_option maxRecDepth 100000 in
theorem wu_plain : Try.prog.plainKey 44 = true := by kernel_rfl

set_option maxRecDepth 100000 in
theorem run_part_word (n i : Nat) (hi : i < 4) (w : World) : (part 44 (wc n) (i * 1)).run Try.prog w = .ok (lv (lb n i)) w := by
  rw [Nat.mul_one]
  exact run_part_plain w wu_plain (wc_get n i hi)

set_option maxRecDepth 100000 in
theorem run_eqItems_word (a b : Nat) (w : World) : ∀ is : List Nat, (∀ i ∈ is, i < 4) → (Op.eqItems 9999 44 1 (wc a) (wc b) is).run Try.prog w = .ok (is.all fun i => lb a i == lb b i) w
  | [], _ => by simp [Op.eqItems]
  | i :: is, h => by
    have ih := run_eqItems_word a b w is (fun j hj => h j (List.mem_cons_of_mem _ hj))
    simp only [Op.eqItems, Sem.run_bind, run_part_word a i (h i List.mem_cons_self), run_part_word b i (h i List.mem_cons_self), Result.andThen_ok, lv, run_equalIn_int w 9998 _ _ _ _ _ Try.underlying44]
    by_cases hb : lb a i = lb b i
    · have : ((lb a i : Int) == (lb b i : Int)) = true := by simp [hb]
      rw [this]
      simp [ih, hb]
    · have : ((lb a i : Int) == (lb b i : Int)) = false := by simp; omega
      rw [this]
      simp [hb]

set_option maxRecDepth 100000 in
theorem all_lb (a b : Nat) (ha : a < M256) (hb : b < M256) : ((List.range 4).all fun i => lb a i == lb b i) = (a == b) := by
  rw [Bool.eq_iff_iff]
  simp only [List.all_eq_true, List.mem_range, beq_iff_eq]
  constructor
  · exact lb_inj a b ha hb
  · rintro rfl i _
    rfl

set_option maxRecDepth 100000 in
theorem run_eql_word (a b : Nat) (ha : a < M256) (hb : b < M256) (w : World) : (binOp .eql 46 (.agg (wc a)) (.agg (wc b))).run Try.prog w = .ok (.bool (a == b)) w := by
  obtain ⟨i, hi⟩ := wu_info
  have h := run_equalIn_array w 9999 (wc a) (wc b) Try.underlying46 hi
  rw [wu_cells, run_eqItems_word a b w (List.range 4) (fun i hi => List.mem_range.1 hi), all_lb a b ha hb] at h
  simp only [binOp]
  simp [Op.equal, Op.maxDepth, h]
set_option maxRecDepth 100000 in
theorem run_neq_word (a b : Nat) (ha : a < M256) (hb : b < M256) (w : World) : (binOp .neq 46 (.agg (wc a)) (.agg (wc b))).run Try.prog w = .ok (.bool (a != b)) w := by
  obtain ⟨i, hi⟩ := wu_info
  have h := run_equalIn_array w 9999 (wc a) (wc b) Try.underlying46 hi
  rw [wu_cells, run_eqItems_word a b w (List.range 4) (fun i hi => List.mem_range.1 hi), all_lb a b ha hb] at h
  simp only [binOp]
  simp [Op.equal, Op.maxDepth, h, bne]
set_option maxRecDepth 100000 in
theorem word_guard : Try.prog.eqGuardType Try.prog.depth 46 = false := by kernel_rfl
set_option maxRecDepth 100000 in
theorem run_guard_eql (x y : Operand) (a b : Nat) (w : World) : (eqGuard .eql 46 x y (.agg (wc a)) (.agg (wc b))).run Try.prog w = .ok () w := by
  unfold eqGuard
  simp
set_option maxRecDepth 100000 in
theorem run_guard_neq (x y : Operand) (a b : Nat) (w : World) : (eqGuard .neq 46 x y (.agg (wc a)) (.agg (wc b))).run Try.prog w = .ok () w := by
  unfold eqGuard
  simp

set_option maxRecDepth 100000 in
/-- Two words are compared. -/
theorem wpList_eql_word {ops : Array Oper} {rest : List Oper} {o : Oper} {a : Act} {w : World} {Q : Exit → Act → World → Prop} (hgd : Region.wanted o (yielded ops a.tmps) = true) (x y : Operand) (ho : o.op = .binOp .eql 46 x y 46)
    (n m : Nat) (hn : n < M256) (hm : m < M256) (hx : a.eval x = wv n) (hy : a.eval y = wv m) (h : wpList Try.prog ops Q rest (a.put o.dst (.bool (n == m))) w) : wpList Try.prog ops Q (o :: rest) a w := by
  refine wpList_step fun K hK => ?_
  rw [if_pos hgd]
  unfold Oper.wp
  simp only [execOp, ho, hx, hy, wv, Sem.run_bind, run_guard_eql, Result.andThen_ok, run_eql_word n m hn hm]
  exact hK _ _ h
set_option maxRecDepth 100000 in
theorem wpList_neq_word {ops : Array Oper} {rest : List Oper} {o : Oper} {a : Act} {w : World} {Q : Exit → Act → World → Prop} (hgd : Region.wanted o (yielded ops a.tmps) = true) (x y : Operand) (ho : o.op = .binOp .neq 46 x y 46)
    (n m : Nat) (hn : n < M256) (hm : m < M256) (hx : a.eval x = wv n) (hy : a.eval y = wv m) (h : wpList Try.prog ops Q rest (a.put o.dst (.bool (n != m))) w) : wpList Try.prog ops Q (o :: rest) a w := by
  refine wpList_step fun K hK => ?_
  rw [if_pos hgd]
  unfold Oper.wp
  simp only [execOp, ho, hx, hy, wv, Sem.run_bind, run_guard_neq, Result.andThen_ok, run_neq_word n m hn hm]
  exact hK _ _ h

set_option maxRecDepth 100000 in
theorem wc_small (x : Nat) (hx : x < 18446744073709551616) : wc x = #[.int .u64 (x : Nat), .int .u64 0, .int .u64 0, .int .u64 0] := by
  have h := wc_ofL x 0 0 0 hx (by decide) (by decide) (by decide)
  rw [show ofL x 0 0 0 = x by unfold ofL; omega] at h
  rw [h]
  rfl

set_option maxRecDepth 100000 in
set_option maxHeartbeats 400000 in
theorem of_any (x : Nat) (xi : Int) (hxi : xi = (x : Int)) (w : World) (hx : x < 18446744073709551616) :
    Calls Try.prog 108 #[.int .u64 xi] w fun e w' => e = .returned (wv x) ∧ Ext w w' := by
  subst hxi
  have HW := Lib.hid (wc_small x hx)
  go_enter Try.func108, Try.ntmps108
  go_wp2
  have hr : Wd (w.alloc (.cells #[.int .u64 (x : Nat), .int .u64 0, .int .u64 0, .int .u64 0] 46)) w.heap.size 46 x := by rw [← HW.out]; exact heap_alloc_new _ _
  exact bodyPost_ret (results_word Try.results108 _ _ w.heap.size _ rfl hr Try.underlying46 winfo) rfl ⟨rfl, (Ext.refl _).alloc _⟩

set_option maxRecDepth 100000 in
theorem Ext.drewN {a w : World} (h : Ext a w) (n : Nat) : Ext a (w.drewN n) := ⟨h.os, h.tape, h.output, h.size, fun i hi => Below.block h i hi⟩
set_option maxRecDepth 100000 in
theorem Wd.drewN {w : World} {g : Nat} {t : TypeId} {n : Nat} (h : Wd w g t n) (k : Nat) : Wd (w.drewN k) g t n := h
set_option maxRecDepth 100000 in
theorem Cs.drewN {w : World} {g : Nat} {t : TypeId} {cs : Array Value} (h : Cs w g t cs) (k : Nat) : Cs (w.drewN k) g t cs := h
set_option maxRecDepth 100000 in
theorem quiet_left {P : Program} {f : FuncId} {args : Array Value} {w : World} {n : Nat} {v : Value}
    (h : Calls P f args (w.drewN n) fun e w' => e = .returned v ∧ w.drewN n = w') : Calls P f args (w.drewN n) fun e w'' => e = .returned v ∧ ∃ m, w'' = w.drewN m :=
  h.mono fun _ _ ⟨he, hm⟩ => ⟨he, n, hm.symm⟩

/-- -1, 0, 1. -/
def cmpN (a b : Nat) : Int := if a < b then -1 else if b < a then 1 else 0

set_option maxRecDepth 100000 in
set_option maxHeartbeats 400000 in
theorem compare_any (x y : Nat) (w : World) (_hx : x < 18446744073709551616) (_hy : y < 18446744073709551616) :
    Calls Try.prog 106 #[.int .u64 (x : Nat), .int .u64 (y : Nat)] w fun e w' => e = .returned (.int .i64 (cmpN x y)) ∧ w = w' := by
  go_enter Try.func106, Try.ntmps106
  go_wp2
  all_goals
    go_ret
    refine ⟨ret_int ?_, rfl⟩
    unfold cmpN
    split <;> (try split) <;> omega

set_option maxRecDepth 100000 in
/-- How a and b stand, from the limb k - 1 down. -/
theorem cmp_down (a b k : Nat) (hk : 0 < k) (hk4 : k ≤ 4) (ha : a < 18446744073709551616 ^ k) (hb : b < 18446744073709551616 ^ k) : cmpN a b = if cmpN (lb a (k - 1)) (lb b (k - 1)) = 0 then cmpN (a % 18446744073709551616 ^ (k - 1)) (b % 18446744073709551616 ^ (k - 1)) else cmpN (lb a (k - 1)) (lb b (k - 1)) := by
  unfold lb cmpN
  match k, hk, hk4 with
  | 1, _, _ => simp at *; (repeat' split) <;> omega
  | 2, _, _ => simp at *; (repeat' split) <;> omega
  | 3, _, _ => simp at *; (repeat' split) <;> omega
  | 4, _, _ => simp at *; (repeat' split) <;> omega

set_option maxRecDepth 100000 in
set_option maxHeartbeats 400000 in
theorem cmp_any (a b : Nat) (w : World) (ha : a < M256) (hb : b < M256) :
    Calls Try.prog 54 #[wv a, wv b] w fun e w' => e = .returned (.int .i64 (cmpN a b)) ∧ Ext w w' := by
  have ha4 : a < 18446744073709551616 ^ 4 := ha
  have hb4 : b < 18446744073709551616 ^ 4 := hb
  clear ha hb
  unfold wv
  go_enter Try.func54, Try.ntmps54
  go_wp2
  have k0 : Wd ((w.alloc (.cells (wc a) 46)).alloc (.cells (wc b) 46)) w.heap.size 46 a := (Cs.new w _ _ _ rfl).alloc _
  have k1 : Wd ((w.alloc (.cells (wc a) 46)).alloc (.cells (wc b) 46)) (w.heap.size + 1) 46 b := Cs.new _ _ _ _ (by simp)
  have HE : Hid (Ext w ((w.alloc (.cells (wc a) 46)).alloc (.cells (wc b) 46))) := ((Ext.refl w).alloc _).alloc _
  generalize ((w.alloc (.cells (wc a) 46)).alloc (.cells (wc b) 46)) = w1 at *
  go_loopw [5] (fun i wr => ∃ k : Nat, k ≤ 4 ∧ i = .int .i64 ((k : Int) - 1) ∧ Wd wr w.heap.size 46 a ∧ Wd wr (w.heap.size + 1) 46 b ∧ Hid (Ext w wr) ∧ Hid (cmpN a b = cmpN (a % 18446744073709551616 ^ k) (b % 18446744073709551616 ^ k))) (fun i _ => (intOf i + 1).toNat)
  case atStart =>
    refine ⟨4, by omega, rfl, k0, k1, HE, ?_⟩
    show _ = _
    rw [Nat.mod_eq_of_lt ha4, Nat.mod_eq_of_lt hb4]
  case round =>
    obtain ⟨k, hk, rfl, h0, h1, HX, HC⟩ := hrel
    clear k0 k1 HE ha4 hb4
    by_cases hlt : 0 < k
    · obtain ⟨j, rfl⟩ : ∃ j, k = j + 1 := ⟨k - 1, by omega⟩
      rw [show ((j + 1 : Nat) : Int) - 1 = (j : Int) by omega]
      have c0 := h0.cell j (by omega)
      have c1 := h1.cell j (by omega)
      have hi1 : (0 : Int) ≤ (j : Int) := by omega
      have hi2 : (j : Int) < 4 := by omega
      have hd := cmp_down (a % 18446744073709551616 ^ (j + 1)) (b % 18446744073709551616 ^ (j + 1)) (j + 1) (by omega) hk (Nat.mod_lt _ (Nat.pow_pos (by decide))) (Nat.mod_lt _ (Nat.pow_pos (by decide)))
      have hl : ∀ n, lb (n % 18446744073709551616 ^ (j + 1)) j = lb n j := by
        intro n
        unfold lb
        rw [Nat.pow_succ, Nat.mod_mul_right_div_self, Nat.mod_mod]
      have hm : ∀ n, n % 18446744073709551616 ^ (j + 1) % 18446744073709551616 ^ j = n % 18446744073709551616 ^ j := fun n => Nat.mod_mod_of_dvd _ (Nat.pow_dvd_pow _ (by omega))
      rw [Nat.add_sub_cancel, hl, hl, hm, hm] at hd
      have HD := Lib.hid (HC.out.trans hd)
      clear hd hl hm HC
      have bx := lb_lt a j
      have by' := lb_lt b j
      generalize lb a j = x at *
      generalize lb b j = y at *
      go_wp2
      go_quiet ((go_at_call 106; exact quiet_left (compare_any x y _ bx by')))
      go_wp2
      · go_ret
        have hne : (cmpN x y != 0) = true := by assumption
        refine ⟨ret_int ?_, HX.out.drewN nq⟩
        rw [HD.out, if_neg (by simpa using hne)]
      · have hne : (cmpN x y != 0) = false := by assumption
        refine ⟨⟨j, by omega, rfl, h0, h1, HX.out.drewN nq, ?_⟩, by simp [intOf]⟩
        show _ = _
        rw [HD.out, if_pos (by simpa using hne)]
    · obtain rfl : k = 0 := by omega
      have HC' := Lib.hid (show cmpN a b = 0 by rw [HC.out]; simp [cmpN, Nat.mod_one])
      clear HC
      go_wp2
      go_ret
      exact ⟨ret_int HC'.out.symm, HX.out⟩


/-- Whether the number is below 2^64. -/
def isSmall (n : Nat) : Bool := decide (n < 18446744073709551616)
/-- The number, if it is below 2^64, else 0. -/
def smallN (n : Nat) : Nat := if n < 18446744073709551616 then n else 0

set_option maxRecDepth 100000 in
set_option maxHeartbeats 400000 in
theorem small_any (n : Nat) (w : World) (hn : n < M256) :
    Calls Try.prog 133 #[wv n] w fun e w' => e = .returned (.tuple #[.int .u64 (smallN n : Nat), .bool (isSmall n)]) ∧ Ext w w' := by
  have HN := Lib.hid hn
  have hl := lb_lt n 0
  have hm : lb n 0 < M256 := by unfold M256; omega
  have HM := Lib.hid hm
  have hq : ∀ u : World, (binOp .neq 46 (.agg #[.int .u64 (lb n 0 : Nat), .int .u64 (lb n 1 : Nat), .int .u64 (lb n 2 : Nat), .int .u64 (lb n 3 : Nat)]) (wv (lb n 0))).run Try.prog u = .ok (.bool (n != lb n 0)) u := run_neq_word n (lb n 0) hn hm
  have hgq : ∀ u : World, (eqGuard .neq 46 (.tmp 4) (.tmp 7) (.agg #[.int .u64 (lb n 0 : Nat), .int .u64 (lb n 1 : Nat), .int .u64 (lb n 2 : Nat), .int .u64 (lb n 3 : Nat)]) (wv (lb n 0))).run Try.prog u = .ok () u := run_guard_neq (.tmp 4) (.tmp 7) n (lb n 0)
  clear hn hm
  unfold wv
  go_enter Try.func133, Try.ntmps133
  go_wp2
  have k0 : Wd (w.alloc (.cells (wc n) 46)) w.heap.size 46 n := Cs.new w _ _ _ rfl
  have HE : Hid (Ext w (w.alloc (.cells (wc n) 46))) := (Ext.refl w).alloc _
  obtain ⟨q0, q1, q2, q3⟩ := k0.cs.four
  generalize (w.alloc (.cells (wc n) 46)) = w1 at *
  have HQ := Lib.hid (And.intro q0 (And.intro q1 (And.intro q2 q3)))
  go_region_held3 (fun w' => w'.cell? ⟨w.heap.size, 0, none⟩ = some (.int .u64 (lb n 0 : Nat)) ∧ w'.cell? ⟨w.heap.size, 1, none⟩ = some (.int .u64 (lb n 1 : Nat)) ∧ w'.cell? ⟨w.heap.size, 2, none⟩ = some (.int .u64 (lb n 2 : Nat)) ∧ w'.cell? ⟨w.heap.size, 3, none⟩ = some (.int .u64 (lb n 3 : Nat)))
    (first | exact ⟨HE1.cell q0, HE1.cell q1, HE1.cell q2, HE1.cell q3⟩ | exact ⟨q0, q1, q2, q3⟩)
    (first | (go_at_call 108; refine (of_any (lb n 0) _ rfl _ hl).mono ?_; rintro e w2 ⟨rfl, HE1⟩))
  have HE2 := Lib.hid (HE.out.trans (((Ext.refl w1).drew).trans HE1))
  have c0 := HE1.cell (show w1.drew.cell? ⟨w.heap.size, 0, none⟩ = some (.int .u64 (lb n 0 : Nat)) from q0)
  have HS := Lib.hid (show (n != lb n 0) = !isSmall n by
    rw [Bool.eq_iff_iff]
    unfold isSmall
    rw [lb0]
    simp
    omega)
  clear HE HE1 q0 q1 q2 q3 k0 hq hgq
  rcases Bool.eq_false_or_eq_true (isSmall n) with hb | hb
  · have HV := Lib.hid (show ((lb n 0 : Nat) : Int) = (smallN n : Nat) by
      have : n < 18446744073709551616 := by simpa [isSmall] using hb
      unfold smallN
      rw [if_pos this, lb0, Nat.mod_eq_of_lt this])
    have HB := Lib.hid hb
    rw [HS.out, hb]
    clear hb
    go_wp2
    go_ret2
    exact ⟨by rw [HB.out, ← HV.out]; rfl, HE2.out⟩
  · have HV := Lib.hid (show (0 : Int) = (smallN n : Nat) by
      have : ¬ n < 18446744073709551616 := by simpa [isSmall] using hb
      unfold smallN
      rw [if_neg this]
      rfl)
    have HB := Lib.hid hb
    rw [HS.out, hb]
    clear hb
    go_wp2
    go_ret2
    exact ⟨by rw [HB.out, ← HV.out]; rfl, HE2.out⟩
end Go.Proofs.Ytdlllihfibjabaa
