/- What is done to states, as it comes in; how many accounts there may be. -/
import Derived.Test.YteidmoilldheeaaQPai
namespace Go.Proofs.Yteidmoilldheeaa
open Go.ChangeShapes Go.WideShapes Go.ChangeAt Go.RowKit Go.Shelf

structure Opn where
  kind : Int
  a : Nat
  b : Nat
  n : Nat
  pr : Nat × Nat
  ac : Ac
def Opn.ok (o : Opn) : Prop := (-9223372036854775808 ≤ o.kind ∧ o.kind ≤ 9223372036854775807) ∧ o.a < 18446744073709551616 ∧ o.b < 18446744073709551616 ∧ o.n < M256 ∧ o.pr.1 < M256 ∧ o.pr.2 < M256 ∧ o.ac.ok
def opc (o : Opn) (u v : Value) : Array Value := #[.int .i64 o.kind, .int .u64 (o.a : Nat), .int .u64 (o.b : Nat), lv (lb o.n 0), lv (lb o.n 1), lv (lb o.n 2), lv (lb o.n 3),
  lv (lb o.pr.1 0), lv (lb o.pr.1 1), lv (lb o.pr.1 2), lv (lb o.pr.1 3), lv (lb o.pr.2 0), lv (lb o.pr.2 1), lv (lb o.pr.2 2), lv (lb o.pr.2 3),
  .int .u64 (o.ac.addr : Nat), lv (lb o.ac.bal 0), lv (lb o.ac.bal 1), lv (lb o.ac.bal 2), lv (lb o.ac.bal 3), .int .u64 (o.ac.nonce : Nat), u, v]
def OpR (W : World) (cs : List Value) (o : Opn) : Prop := o.ok ∧ ∃ u v, cs = (opc o u v).toList ∧ Bs W u o.ac.code ∧ Pks W v o.ac.store
set_option maxRecDepth 100000 in
theorem i64_trod {H : Type} {enc : TypeId × Value → H} {W : World} {f : Nat → Bool} {b : Bool} {fuel : Nat} {t : TypeId} {cs : List Value} {x : DataW H × List MemPlace} (ht : Try.prog.underlying t = some (.int .i64)) (h : DataW.trod enc Try.prog W 0 f b fuel t cs = some x) : ∃ z : Int, (-9223372036854775808 ≤ z ∧ z ≤ 9223372036854775807) ∧ cs = [.int .i64 z] := by
  obtain ⟨z, e0, _, wz⟩ := DataW.trod_int ht h
  have hb : -9223372036854775808 ≤ z ∧ z ≤ 9223372036854775807 := by simpa [Lit.wf, IntKind.min, IntKind.max, IntKind.signed, IntKind.bits] using wz
  exact ⟨z, hb, e0⟩
set_option maxRecDepth 100000 in
theorem op_trod {H : Type} {enc : TypeId × Value → H} {W : World} {f : Nat → Bool} {b : Bool} {fuel : Nat} {cs : List Value} {x : DataW H × List MemPlace} (h : DataW.trod enc Try.prog W 0 f b fuel 39 cs = some x) : ∃ z, OpR W cs z := by
  obtain ⟨xs, n, _, _, hl, hlen, hf⟩ := DataW.trod_struct Try.underlying39 h
  have hC : Try.prog.cellsOf 39 = 23 := by kernel_rfl
  have hI : Try.prog.cellsOf 3 = 1 := by kernel_rfl
  have hA : Try.prog.cellsOf 29 = 1 := by kernel_rfl
  have hW : Try.prog.cellsOf 31 = 4 := by kernel_rfl
  have hP : Try.prog.cellsOf 33 = 8 := by kernel_rfl
  have hS : Try.prog.cellsOf 37 = 8 := by kernel_rfl
  rw [hC] at hl
  match xs, hlen with
  | [y0, y1, y2, y3, y4, y5], _ =>
    have h0 : DataW.trod enc Try.prog W 0 f b n 3 ((cs.drop 0).take (Try.prog.cellsOf 3)) = some y0 := by simpa using hf 0 _ rfl
    have h1 : DataW.trod enc Try.prog W 0 f b n 29 ((cs.drop 1).take (Try.prog.cellsOf 29)) = some y1 := by simpa using hf 1 _ rfl
    have h2 : DataW.trod enc Try.prog W 0 f b n 29 ((cs.drop 2).take (Try.prog.cellsOf 29)) = some y2 := by simpa using hf 2 _ rfl
    have h3 : DataW.trod enc Try.prog W 0 f b n 31 ((cs.drop 3).take (Try.prog.cellsOf 31)) = some y3 := by simpa using hf 3 _ rfl
    have h4 : DataW.trod enc Try.prog W 0 f b n 33 ((cs.drop 7).take (Try.prog.cellsOf 33)) = some y4 := by simpa using hf 4 _ rfl
    have h5 : DataW.trod enc Try.prog W 0 f b n 37 ((cs.drop 15).take (Try.prog.cellsOf 37)) = some y5 := by simpa using hf 5 _ rfl
    rw [hI] at h0
    rw [hA] at h1 h2
    rw [hW] at h3
    rw [hP] at h4
    rw [hS] at h5
    obtain ⟨z0, b0, e0⟩ := i64_trod Try.underlying3 h0
    obtain ⟨z1, b1, e1⟩ := u64_trod Try.underlying29 h1
    obtain ⟨z2, b2, e2⟩ := u64_trod Try.underlying29 h2
    obtain ⟨z3, b3, hl3, hc3⟩ := word_trod h3
    have e3 := wc_list z3 _ hl3 hc3
    obtain ⟨z4, b4, b4', e4⟩ := pair_trod h4
    obtain ⟨z5, b5, u, v, e5, hu, hv⟩ := ac_trod h5
    refine ⟨⟨z0, z1, z2, z3, z4, z5⟩, ⟨b0, b1, b2, b3, b4, b4', b5⟩, u, v, ?_, hu, hv⟩
    have e : cs = (cs.drop 0).take 1 ++ ((cs.drop 1).take 1 ++ ((cs.drop 2).take 1 ++ ((cs.drop 3).take 4 ++ ((cs.drop 7).take 8 ++ (cs.drop 15).take 8)))) := by
      rw [List.take_of_length_le (show (cs.drop 15).length ≤ 8 by rw [List.length_drop]; omega), show cs.drop 15 = (cs.drop 7).drop 8 by rw [List.drop_drop], List.take_append_drop, show cs.drop 7 = (cs.drop 3).drop 4 by rw [List.drop_drop], List.take_append_drop, show cs.drop 3 = (cs.drop 2).drop 1 by rw [List.drop_drop], List.take_append_drop, show cs.drop 2 = (cs.drop 1).drop 1 by rw [List.drop_drop], List.take_append_drop, show cs.drop 1 = (cs.drop 0).drop 1 by rw [List.drop_drop], List.take_append_drop, List.drop_zero]
    rw [e, e0, e1, e2, e3, e4, e5]
    rfl
set_option maxRecDepth 100000 in
theorem op_came {H : Type} {enc : TypeId × Value → H} {W : World} {base : Nat} {v : Value} {d : DataW H} {p : List MemPlace}
    (hval : Value.okWide Try.prog W .any base 39 v) (h : DataW.Trod enc Try.prog W 0 (fun _ => true) true 39 v d p) : ∃ (o : Opn) (x y : Value), v = .agg (opc o x y) ∧ o.ok ∧ Bs W x o.ac.code ∧ Pks W y o.ac.store := by
  simp only [Value.okWide, Try.underlying39] at hval
  obtain ⟨cs, rfl, hsz, _⟩ := hval
  obtain ⟨fuel, hf⟩ := h
  obtain ⟨o, hok, x, y, e, hx, hy⟩ := op_trod hf
  have e' : cs = opc o x y := by
    apply Array.toList_inj.1
    rw [← e]
    rfl
  exact ⟨o, x, y, by rw [e'], hok, hx, hy⟩
set_option maxRecDepth 100000 in
/-- The word of it. -/
theorem op_word {W : World} {g : Nat} {t : TypeId} {o : Opn} {u v : Value} (h : Cs W g t (opc o u v)) : W.rangeAt g 3 (wc o.n).toList := fun j x hx => by
  have hj : j < 4 := by
    have h1 := (List.getElem?_eq_some_iff.1 hx).1
    simpa [wc] using h1
  obtain rfl | rfl | rfl | rfl : j = 0 ∨ j = 1 ∨ j = 2 ∨ j = 3 := by omega
  all_goals exact Cs.cell h _ _ (by simpa [wc, opc] using hx)
set_option maxRecDepth 100000 in
theorem op_range {W : World} {g : Nat} {t : TypeId} {o : Opn} {u v : Value} (h : Cs W g t (opc o u v)) : W.rangeAt g 7 (pkc o.pr).toList ∧ W.rangeAt g 15 (acc o.ac u v).toList := by
  constructor
  · intro j x hx
    have hj : j < 8 := by
      have h1 := (List.getElem?_eq_some_iff.1 hx).1
      simpa [pkc] using h1
    obtain rfl | rfl | rfl | rfl | rfl | rfl | rfl | rfl : j = 0 ∨ j = 1 ∨ j = 2 ∨ j = 3 ∨ j = 4 ∨ j = 5 ∨ j = 6 ∨ j = 7 := by omega
    all_goals exact Cs.cell h _ _ (by simpa [pkc, opc] using hx)
  · intro j x hx
    have hj : j < 8 := by
      have h1 := (List.getElem?_eq_some_iff.1 hx).1
      simpa [acc] using h1
    obtain rfl | rfl | rfl | rfl | rfl | rfl | rfl | rfl : j = 0 ∨ j = 1 ∨ j = 2 ∨ j = 3 ∨ j = 4 ∨ j = 5 ∨ j = 6 ∨ j = 7 := by omega
    all_goals exact Cs.cell h _ _ (by simpa [acc, opc] using hx)

/-! ### How many accounts there may be -/
set_option maxRecDepth 100000 in
theorem rise_len : ∀ (l : List Ac) (k : Nat), RiseA l → (∀ p ∈ l, k ≤ p.addr ∧ p.addr < 16) → l.length ≤ 16 - k
  | [], _, _, _ => by simp
  | q :: l, k, h, hb => by
    obtain ⟨h1, h2⟩ := List.pairwise_cons.1 h
    have := rise_len l (q.addr + 1) h2 (fun p hp => ⟨h1 p hp, (hb p (List.mem_cons_of_mem _ hp)).2⟩)
    have := hb q List.mem_cons_self
    rw [List.length_cons]
    omega
set_option maxRecDepth 100000 in
theorem split_len (l : List Ac) : l.length = (l.filter fun p => decide (p.addr < 16)).length + freeN l := by
  unfold freeN
  induction l with
  | nil => rfl
  | cons p l ih => by_cases h : p.addr < 16 <;> simp [h] <;> omega
set_option maxRecDepth 100000 in
theorem Rt.len {l : List Ac} (h : Rt l) : l.length ≤ 40 := by
  have h1 := rise_len (l.filter fun p => decide (p.addr < 16)) 0 (List.Pairwise.filter _ h.rise) (fun p hp => ⟨Nat.zero_le _, by simpa using (List.mem_filter.1 hp).2⟩)
  have h2 := split_len l
  have h3 := h.free
  omega
set_option maxRecDepth 100000 in
theorem code200 {p : Ac} (h : p.rightB = true) : p.code.length ≤ 200 := by
  simp only [Ac.rightB, Bool.and_eq_true, decide_eq_true_eq] at h
  exact h.2.1
set_option maxRecDepth 100000 in
theorem Rt.sz {l : List Ac} (h : Rt l) : ∀ q ∈ l, q.code.length ≤ 1000000000 ∧ q.store.length ≤ 1000000000 := fun q hq => by
  have h1 := code200 (h.each q hq).2.1
  have h2 := store24 (h.each q hq).2.1
  omega
set_option maxRecDepth 100000 in
theorem fewL_sz (l : List Ac) : ∀ q ∈ fewL l, q.code.length ≤ 201 ∧ q.store.length ≤ 25 := fun q hq => by
  unfold fewL at hq
  obtain ⟨p, _, rfl⟩ := List.mem_map.1 hq
  unfold oneA
  simp
  omega
set_option maxRecDepth 100000 in
theorem Acs.okL {W : World} {v : Value} {l : List Ac} (h : Acs W v l) : OkL l := h.oks
end Go.Proofs.Yteidmoilldheeaa
