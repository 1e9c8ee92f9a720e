/- Contracts of package word: the small functions below the others. Contracts of package word: sums and differences. Contracts of package word: what is done bit by bit. Contracts of package word: Of, Small, Cmp; words that are the same. -/
import Derived.Test.YtjampleddeidaaaRows
import Derived.Test.YtjampleddeidaaaQWra
import Derived.RegionTactic
import Derived.Deep.QuietTactic
import Derived.BigQuiet
import Derived.Outline
import Derived.Laws.BitsAllLaws
import Derived.Shelf.Spec.BitsCarry
import Derived.ChangeKeysEq
import Derived.Laws.StructEq
import Derived.Deep.RegionHeld3
namespace Go.Proofs.Ytjampleddeidaaa
open Go.RowKit

set_option maxRecDepth 100000 in
theorem winfo : (Try.prog.info? 30).map (·.size) = some 4 := by kernel_rfl

end Go.Proofs.Ytjampleddeidaaa
namespace Go.Proofs.Ytjampleddeidaaa
open Go.RowKit

set_option maxRecDepth 100000 in
theorem ret_int {k : IntKind} {a b : Int} (h : a = b) : Ending.returned (.int k a) = .returned (.int k b) := by rw [h]

end Go.Proofs.Ytjampleddeidaaa
namespace Go.Proofs.Ytjampleddeidaaa
open Go.RowKit

set_option maxRecDepth 100000 in
theorem M256_pow : M256 = 2 ^ 256 := rfl

end Go.Proofs.Ytjampleddeidaaa
namespace Go.Proofs.Ytjampleddeidaaa
open Go.RowKit

set_option maxRecDepth 100000 in
theorem wu_info : ∃ i, Try.prog.info? 27 = some i := ⟨_, rfl⟩
set_option maxRecDepth 100000 in
theorem wu_cells : Try.prog.cellsOf 27 = 1 := by kernel_rfl
set_option maxRecDepth 100000 in
theorem wu_plain : Try.prog.plainKey 27 = true := by kernel_rfl

set_option maxRecDepth 100000 in
theorem run_part_word (n i : Nat) (hi : i < 4) (w : World) : (part 27 (wc n) (i * 1)).run Try.prog w = .ok (lv (lb n i)) w := by
  rw [Nat.mul_one]
  exact run_part_plain w wu_plain (wc_get n i hi)

set_option maxRecDepth 100000 in
theorem run_eqItems_word (a b : Nat) (w : World) : ∀ is : List Nat, (∀ i ∈ is, i < 4) → (Op.eqItems 9999 27 1 (wc a) (wc b) is).run Try.prog w = .ok (is.all fun i => lb a i == lb b i) w
  | [], _ => by simp [Op.eqItems]
  | i :: is, h => by
    have ih := run_eqItems_word a b w is (fun j hj => h j (List.mem_cons_of_mem _ hj))
    simp only [Op.eqItems, Sem.run_bind, run_part_word a i (h i List.mem_cons_self), run_part_word b i (h i List.mem_cons_self), Result.andThen_ok, lv, run_equalIn_int w 9998 _ _ _ _ _ Try.underlying27]
    by_cases hb : lb a i = lb b i
    · have : ((lb a i : Int) == (lb b i : Int)) = true := by simp [hb]
      rw [this]
      simp [ih, hb]
    · have : ((lb a i : Int) == (lb b i : Int)) = false := by simp; omega
      rw [this]
      simp [hb]

set_option maxRecDepth 100000 in
theorem all_lb (a b : Nat) (ha : a < M256) (hb : b < M256) : ((List.range 4).all fun i => lb a i == lb b i) = (a == b) := by
  rw [Bool.eq_iff_iff]
  simp only [List.all_eq_true, List.mem_range, beq_iff_eq]
  constructor
  · exact lb_inj a b ha hb
  · rintro rfl i _
    rfl

set_option maxRecDepth 100000 in
theorem run_eql_word (a b : Nat) (ha : a < M256) (hb : b < M256) (w : World) : (binOp .eql 30 (.agg (wc a)) (.agg (wc b))).run Try.prog w = .ok (.bool (a == b)) w := by
  obtain ⟨i, hi⟩ := wu_info
  have h := run_equalIn_array w 9999 (wc a) (wc b) Try.underlying30 hi
  rw [wu_cells, run_eqItems_word a b w (List.range 4) (fun i hi => List.mem_range.1 hi), all_lb a b ha hb] at h
  simp only [binOp]
  simp [Op.equal, Op.maxDepth, h]
set_option maxRecDepth 100000 in
theorem run_guard_eql (x y : Operand) (a b : Nat) (w : World) : (eqGuard .eql 30 x y (.agg (wc a)) (.agg (wc b))).run Try.prog w = .ok () w := by
  unfold eqGuard
  simp
set_option maxRecDepth 100000 in
theorem wpList_eql_word {ops : Array Oper} {rest : List Oper} {o : Oper} {a : Act} {w : World} {Q : Exit → Act → World → Prop} (hgd : Region.wanted o (yielded ops a.tmps) = true) (x y : Operand) (ho : o.op = .binOp .eql 30 x y 30)
    (n m : Nat) (hn : n < M256) (hm : m < M256) (hx : a.eval x = wv n) (hy : a.eval y = wv m) (h : wpList Try.prog ops Q rest (a.put o.dst (.bool (n == m))) w) : wpList Try.prog ops Q (o :: rest) a w := by
  refine wpList_step fun K hK => ?_
  rw [if_pos hgd]
  unfold Oper.wp
  simp only [execOp, ho, hx, hy, wv, Sem.run_bind, run_guard_eql, Result.andThen_ok, run_eql_word n m hn hm]
  exact hK _ _ h
set_option maxRecDepth 100000 in
theorem Ext.drewN {a w : World} (h : Ext a w) (n : Nat) : Ext a (w.drewN n) := ⟨h.os, h.tape, h.output, h.size, fun i hi => Below.block h i hi⟩
set_option maxRecDepth 100000 in
theorem quiet_left {P : Program} {f : FuncId} {args : Array Value} {w : World} {n : Nat} {v : Value}
    (h : Calls P f args (w.drewN n) fun e w' => e = .returned v ∧ w.drewN n = w') : Calls P f args (w.drewN n) fun e w'' => e = .returned v ∧ ∃ m, w'' = w.drewN m :=
  h.mono fun _ _ ⟨he, hm⟩ => ⟨he, n, hm.symm⟩

def cmpN (a b : Nat) : Int := if a < b then -1 else if b < a then 1 else 0

set_option maxRecDepth 100000 in
set_option maxHeartbeats 400000 in
theorem compare_any (x y : Nat) (w : World) (_hx : x < 18446744073709551616) (_hy : y < 18446744073709551616) :
    Calls Try.prog 61 #[.int .u64 (x : Nat), .int .u64 (y : Nat)] w fun e w' => e = .returned (.int .i64 (cmpN x y)) ∧ w = w' := by
  go_enter Try.func61, Try.ntmps61
  go_wp2
  all_goals
    go_ret
    refine ⟨ret_int ?_, rfl⟩
    unfold cmpN
    split <;> (try split) <;> omega

set_option maxRecDepth 100000 in
theorem cmp_down (a b k : Nat) (hk : 0 < k) (hk4 : k ≤ 4) (ha : a < 18446744073709551616 ^ k) (hb : b < 18446744073709551616 ^ k) : cmpN a b = if cmpN (lb a (k - 1)) (lb b (k - 1)) = 0 then cmpN (a % 18446744073709551616 ^ (k - 1)) (b % 18446744073709551616 ^ (k - 1)) else cmpN (lb a (k - 1)) (lb b (k - 1)) := by
  unfold lb cmpN
  match k, hk, hk4 with
  | 1, _, _ => simp at *; (repeat' split) <;> omega
  | 2, _, _ => simp at *; (repeat' split) <;> omega
  | 3, _, _ => simp at *; (repeat' split) <;> omega
  | 4, _, _ => simp at *; (repeat' split) <;> omega

set_option maxRecDepth 100000 in
set_option maxHeartbeats 400000 in
theorem cmp_any (a b : Nat) (w : World) (ha : a < M256) (hb : b < M256) :
    Calls Try.prog 46 #[wv a, wv b] w fun e w' => e = .returned (.int .i64 (cmpN a b)) ∧ Ext w w' := by
  have ha4 : a < 18446744073709551616 ^ 4 := ha
  have hb4 : b < 18446744073709551616 ^ 4 := hb
  clear ha hb
  unfold wv
  go_enter Try.func46, Try.ntmps46
  go_wp2
  have k0 : Wd ((w.alloc (.cells (wc a) 30)).alloc (.cells (wc b) 30)) w.heap.size 30 a := (Cs.new w _ _ _ rfl).alloc _
  have k1 : Wd ((w.alloc (.cells (wc a) 30)).alloc (.cells (wc b) 30)) (w.heap.size + 1) 30 b := Cs.new _ _ _ _ (by simp)
  have HE : Hid (Ext w ((w.alloc (.cells (wc a) 30)).alloc (.cells (wc b) 30))) := ((Ext.refl w).alloc _).alloc _
  generalize ((w.alloc (.cells (wc a) 30)).alloc (.cells (wc b) 30)) = w1 at *
  go_loopw [5] (fun i wr => ∃ k : Nat, k ≤ 4 ∧ i = .int .i64 ((k : Int) - 1) ∧ Wd wr w.heap.size 30 a ∧ Wd wr (w.heap.size + 1) 30 b ∧ Hid (Ext w wr) ∧ Hid (cmpN a b = cmpN (a % 18446744073709551616 ^ k) (b % 18446744073709551616 ^ k))) (fun i _ => (intOf i + 1).toNat)
  case atStart =>
    refine ⟨4, by omega, rfl, k0, k1, HE, ?_⟩
    show _ = _
    rw [Nat.mod_eq_of_lt ha4, Nat.mod_eq_of_lt hb4]
  case round =>
    obtain ⟨k, hk, rfl, h0, h1, HX, HC⟩ := hrel
    clear k0 k1 HE ha4 hb4
    by_cases hlt : 0 < k
    · obtain ⟨j, rfl⟩ : ∃ j, k = j + 1 := ⟨k - 1, by omega⟩
      rw [show ((j + 1 : Nat) : Int) - 1 = (j : Int) by omega]
      have c0 := h0.cell j (by omega)
      have c1 := h1.cell j (by omega)
      have hi1 : (0 : Int) ≤ (j : Int) := by omega
      have hi2 : (j : Int) < 4 := by omega
      have hd := cmp_down (a % 18446744073709551616 ^ (j + 1)) (b % 18446744073709551616 ^ (j + 1)) (j + 1) (by omega) hk (Nat.mod_lt _ (Nat.pow_pos (by decide))) (Nat.mod_lt _ (Nat.pow_pos (by decide)))
      have hl : ∀ n, lb (n % 18446744073709551616 ^ (j + 1)) j = lb n j := by
        intro n
        unfold lb
        rw [Nat.pow_succ, Nat.mod_mul_right_div_self, Nat.mod_mod]
      have hm : ∀ n, n % 18446744073709551616 ^ (j + 1) % 18446744073709551616 ^ j = n % 18446744073709551616 ^ j := fun n => Nat.mod_mod_of_dvd _ (Nat.pow_dvd_pow _ (by omega))
      rw [Nat.add_sub_cancel, hl, hl, hm, hm] at hd
      have HD := Lib.hid (HC.out.trans hd)
      clear hd hl hm HC
      have bx := lb_lt a j
      have by' := lb_lt b j
      generalize lb a j = x at *
      generalize lb b j = y at *
      go_wp2
      go_quiet ((go_at_call 61; exact quiet_left (compare_any x y _ bx by')))
      go_wp2
      · go_ret
        have hne : (cmpN x y != 0) = true := by assumption
        refine ⟨ret_int ?_, HX.out.drewN nq⟩
        rw [HD.out, if_neg (by simpa using hne)]
      · have hne : (cmpN x y != 0) = false := by assumption
        refine ⟨⟨j, by omega, rfl, h0, h1, HX.out.drewN nq, ?_⟩, by simp [intOf]⟩
        show _ = _
        rw [HD.out, if_pos (by simpa using hne)]
    · obtain rfl : k = 0 := by omega
      have HC' := Lib.hid (show cmpN a b = 0 by rw [HC.out]; simp [cmpN, Nat.mod_one])
      clear HC
      go_wp2
      go_ret
      exact ⟨ret_int HC'.out.symm, HX.out⟩


end Go.Proofs.Ytjampleddeidaaa
