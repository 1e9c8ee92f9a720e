/- Package nonce: nonces, keys of an address, in memory; two that are the same. -/
import Derived.Test.YtepggbhibpjkpaaLha
namespace Go.Proofs.Ytepggbhibpjkpaa
open Go.ChangeShapes Go.WideShapes Go.ChangeAt Go.RowKit Go.Shelf

/-! ### Nonces -/
/-- A nonce: of which address, of which key, the next sequence. -/
structure Nn where
  addr : Nat
  key : Nat
  nxt : Nat
def nz0 : Nn := ⟨0, 0, 0⟩
def Nn.ok (h : Nn) : Prop := h.addr < 18446744073709551616 ∧ h.key < M256 ∧ h.nxt < 18446744073709551616
def Nn.eqB (p q : Nn) : Bool := p.addr == q.addr && (p.key == q.key && p.nxt == q.nxt)
set_option maxRecDepth 100000 in
theorem Nn.eqB_iff (p q : Nn) : p.eqB q = true ↔ p = q := by
  cases p; cases q
  simp [Nn.eqB]
set_option maxRecDepth 100000 in
theorem Nn.eqB_self (p : Nn) : p.eqB p = true := (Nn.eqB_iff p p).2 rfl
instance : DecidableEq Nn := fun p q => if h : p.eqB q = true then isTrue ((Nn.eqB_iff p q).1 h) else isFalse fun e => h ((Nn.eqB_iff p q).2 e)
/-- Address and key as one number: they stand as these numbers do. -/
def cdN (a k : Nat) : Nat := a * M256 + k
def Nn.cod (h : Nn) : Nat := cdN h.addr h.key
set_option maxRecDepth 100000 in
theorem cdN_inj {a k b j : Nat} (hk : k < M256) (hj : j < M256) (h : cdN a k = cdN b j) : a = b ∧ k = j := by
  unfold cdN M256 at *
  omega
set_option maxRecDepth 100000 in
theorem cdN_lt {a k b j : Nat} (hk : k < M256) (hj : j < M256) : cdN a k < cdN b j ↔ a < b ∨ a = b ∧ k < j := by
  unfold cdN M256 at *
  omega
/-- The cells of a nonce. -/
def nnc (h : Nn) : Array Value := #[.int .u64 (h.addr : Nat), lv (lb h.key 0), lv (lb h.key 1), lv (lb h.key 2), lv (lb h.key 3), .int .u64 (h.nxt : Nat)]
set_option maxRecDepth 100000 in
theorem nnc_one (h : Nn) : (nnc h).all (·.oneCell') = true := by simp [nnc, lv, Value.oneCell']
set_option maxRecDepth 100000 in
theorem nnc_ones (h : Nn) : ∀ u ∈ (nnc h).toList, u.oneCell' = true := fun u hu => Array.all_eq_true_iff_forall_mem.1 (nnc_one h) u (by simpa using hu)
def NnR (cs : List Value) (h : Nn) : Prop := h.ok ∧ cs = (nnc h).toList
/-- The slice v reads as the nonces l. -/
def Nns (W : World) (v : Value) (l : List Nn) : Prop := Sl W 6 NnR v l
set_option maxRecDepth 100000 in
theorem Nns.ext {W W' : World} {v : Value} {l : List Nn} (h : Nns W v l) (he : Ext W W') : Nns W' v l := Sl.mono h (fun _ _ hc => he.cell hc) fun _ _ h => h
set_option maxRecDepth 100000 in
theorem Nns.len {W : World} {v : Value} {l : List Nn} (h : Nns W v l) : ∃ A c, v = .slice A l.length c ∧ l.length ≤ c ∧ c ≤ maxLen := by
  obtain ⟨A, c, e, h1, h2, _⟩ := h
  exact ⟨A, c, e, h1, h2⟩
set_option maxRecDepth 100000 in
theorem Nns.nil (W : World) : Nns W (.slice none 0 0) [] := ⟨none, 0, rfl, Nat.le_refl _, Nat.zero_le _, fun h => absurd h (by simp)⟩
set_option maxRecDepth 100000 in
theorem Nns.at {W : World} {A : Option Addr} {n c : Nat} {l : List Nn} (h : Nns W (.slice A n c) l) (i : Nat) (hi : i < l.length) : ∃ b o, A = some ⟨b, o, none⟩ ∧ W.rangeAt b (o + i * 6) (nnc (l.getD i nz0)).toList ∧ (l.getD i nz0).ok := by
  obtain ⟨A', c', e, _, _, h3⟩ := h
  injection e with e1 e2 e3
  subst e1
  obtain ⟨b, o, rfl, hc⟩ := h3 (by omega)
  obtain ⟨cs, _, ⟨k0, rfl⟩, k3⟩ := hc i _ (List.getElem?_eq_getElem hi)
  have e : l.getD i nz0 = l[i] := by simp [List.getD, List.getElem?_eq_getElem hi]
  rw [e]
  exact ⟨b, o, rfl, k3, k0⟩
set_option maxRecDepth 100000 in
theorem Nns.oks {W : World} {v : Value} {l : List Nn} (h : Nns W v l) : ∀ p ∈ l, p.ok := by
  intro p hp
  obtain ⟨A, c, rfl, _, _⟩ := h.len
  obtain ⟨i, hi, e⟩ := List.getElem_of_mem hp
  obtain ⟨_, _, _, _, h3⟩ := h.at i hi
  rw [List.getD_eq_getElem?_getD, List.getElem?_eq_getElem hi, Option.getD_some, e] at h3
  exact h3
set_option maxRecDepth 100000 in
theorem nninfo : (Try.prog.info? 38).map (·.size) = some 6 := by kernel_rfl
set_option maxRecDepth 100000 in
theorem nninfo3 : (Try.prog.info? 38).map (fun i => (i.zero, i.size, i.bytes)) = some (some (.agg (nnc nz0)), 6, 48) := by kernel_rfl
/-- A block that holds a nonce. -/
def Nb6 (W : World) (g : Nat) (h : Nn) : Prop := Cs W g 38 (nnc h)
set_option maxRecDepth 100000 in
theorem Nb6.ext {W W' : World} {g : Nat} {h : Nn} (k : Nb6 W g h) (he : Ext W W') : Nb6 W' g h := Cs.ext k he
set_option maxRecDepth 100000 in
theorem nn_addr {W : World} {b o : Nat} {h : Nn} (k : W.rangeAt b o (nnc h).toList) : W.cell? ⟨b, o, none⟩ = some (.int .u64 (h.addr : Nat)) := k 0 _ rfl
set_option maxRecDepth 100000 in
theorem nn_nxt {W : World} {b o : Nat} {h : Nn} (k : W.rangeAt b o (nnc h).toList) : W.cell? ⟨b, o + 5, none⟩ = some (.int .u64 (h.nxt : Nat)) := k 5 _ rfl
set_option maxRecDepth 100000 in
theorem nn_key {W : World} {b o : Nat} {h : Nn} (k : W.rangeAt b o (nnc h).toList) : W.rangeAt b (o + 1) (wc h.key).toList := fun j x hx => by
  have hj : j < 4 := by have := (List.getElem?_eq_some_iff.1 hx).1; simpa [wc] using this
  have := k (1 + j) x (by
    match j, hj with
    | 0, _ => exact hx
    | 1, _ => exact hx
    | 2, _ => exact hx
    | 3, _ => exact hx)
  rwa [show o + 1 + j = o + (1 + j) by omega]
set_option maxRecDepth 100000 in
theorem Nb6.key {W : World} {g : Nat} {h : Nn} (k : Nb6 W g h) : W.rangeAt g 1 (wc h.key).toList := by have := nn_key (Cs.rg k); rwa [Nat.zero_add] at this
set_option maxRecDepth 100000 in
theorem Nb6.addr {W : World} {g : Nat} {h : Nn} (k : Nb6 W g h) : W.cell? ⟨g, 0, none⟩ = some (.int .u64 (h.addr : Nat)) := Cs.cell k 0 _ rfl
set_option maxRecDepth 100000 in
theorem Nb6.nxt {W : World} {g : Nat} {h : Nn} (k : Nb6 W g h) : W.cell? ⟨g, 5, none⟩ = some (.int .u64 (h.nxt : Nat)) := Cs.cell k 5 _ rfl
set_option maxRecDepth 100000 in
/-- A nonce is loaded. -/
theorem wpList_load_nn {ops : Array Oper} {rest : List Oper} {o : Oper} {a : Act} {w : World} {Q : Exit → Act → World → Prop} (hgd : Region.wanted o (yielded ops a.tmps) = true) (x : Operand) (ho : o.op = .load 38 x)
    (g k : Nat) (p : Nn) (hx : a.eval x = .pointer (some ⟨g, k, none⟩)) (hg : w.rangeAt g k (nnc p).toList) (h : wpList Try.prog ops Q rest (a.put o.dst (.agg (nnc p))) w) : wpList Try.prog ops Q (o :: rest) a w := by
  refine wpList_step fun K hK => ?_
  rw [if_pos hgd]
  refine wp_load_mid 38 x ho g k hx (nnc p).toList _ hg Try.underlying38 rfl nninfo ?_
  exact hK _ _ h
set_option maxRecDepth 100000 in
/-- A nonce is stored into a block of one. -/
theorem wpList_store_nn {ops : Array Oper} {rest : List Oper} {o : Oper} {a : Act} {w : World} {Q : Exit → Act → World → Prop} (hgd : o.guard = none) (hd : o.dst = none) (x y : Operand) (ho : o.op = .store 38 x y)
    (g : Nat) (p q : Nn) (hx : a.eval x = .pointer (some ⟨g, 0, none⟩)) (hy : a.eval y = .agg (nnc q)) (hg : Nb6 w g p)
    (h : ∀ w', Nb6 w' g q → w.grownBy w' (some g) → wpList Try.prog ops Q rest a w') : wpList Try.prog ops Q (o :: rest) a w := by
  have h' : ∀ w', Nb6 w' g q → w.grownBy w' (some g) → wpList Try.prog ops Q rest (a.put o.dst undef) w' := by rw [hd]; exact h
  refine wpList_store_row hgd 38 x y ho g (nnc q) hx hy 38 (nnc p) hg nninfo rfl (nnc_one q) (h' _ ?_ ?_)
  · exact setRow_heap w g _ _ 38 (0, 0) hg
  · exact ⟨rfl, rfl, rfl, by simp [World.setRow], fun k _ hk => setRow_other w g k _ (fun e => hk (by simp [e]))⟩

/-! ### Keys of an address -/
def okc (a k : Nat) : Array Value := #[.int .u64 (a : Nat), lv (lb k 0), lv (lb k 1), lv (lb k 2), lv (lb k 3)]
set_option maxRecDepth 100000 in
theorem okc_one (a k : Nat) : (okc a k).all (·.oneCell') = true := by simp [okc, lv, Value.oneCell']
set_option maxRecDepth 100000 in
theorem okinfo : (Try.prog.info? 102).map (·.size) = some 5 := by kernel_rfl
/-- A block that holds a key of an address. -/
def Kb (W : World) (g a k : Nat) : Prop := Cs W g 102 (okc a k)
set_option maxRecDepth 100000 in
theorem Kb.ext {W W' : World} {g a k : Nat} (h : Kb W g a k) (he : Ext W W') : Kb W' g a k := Cs.ext h he
set_option maxRecDepth 100000 in
theorem ok_key {W : World} {b o a k : Nat} (h : W.rangeAt b o (okc a k).toList) : W.rangeAt b (o + 1) (wc k).toList := fun j x hx => by
  have hj : j < 4 := by have := (List.getElem?_eq_some_iff.1 hx).1; simpa [wc] using this
  have := h (1 + j) x (by
    match j, hj with
    | 0, _ => exact hx
    | 1, _ => exact hx
    | 2, _ => exact hx
    | 3, _ => exact hx)
  rwa [show o + 1 + j = o + (1 + j) by omega]
set_option maxRecDepth 100000 in
theorem Kb.key {W : World} {g a k : Nat} (h : Kb W g a k) : W.rangeAt g 1 (wc k).toList := by have := ok_key (Cs.rg h); rwa [Nat.zero_add] at this
set_option maxRecDepth 100000 in
theorem Kb.addr {W : World} {g a k : Nat} (h : Kb W g a k) : W.cell? ⟨g, 0, none⟩ = some (.int .u64 (a : Nat)) := Cs.cell h 0 _ rfl
set_option maxRecDepth 100000 in
theorem wpList_load_ok {ops : Array Oper} {rest : List Oper} {o : Oper} {a : Act} {w : World} {Q : Exit → Act → World → Prop} (hgd : Region.wanted o (yielded ops a.tmps) = true) (x : Operand) (ho : o.op = .load 102 x)
    (g k b j : Nat) (hx : a.eval x = .pointer (some ⟨g, k, none⟩)) (hg : w.rangeAt g k (okc b j).toList) (h : wpList Try.prog ops Q rest (a.put o.dst (.agg (okc b j))) w) : wpList Try.prog ops Q (o :: rest) a w := by
  refine wpList_step fun K hK => ?_
  rw [if_pos hgd]
  refine wp_load_mid 102 x ho g k hx (okc b j).toList _ hg Try.underlying102 rfl okinfo ?_
  exact hK _ _ h
set_option maxRecDepth 100000 in
theorem wpList_store_ok {ops : Array Oper} {rest : List Oper} {o : Oper} {a : Act} {w : World} {Q : Exit → Act → World → Prop} (hgd : o.guard = none) (hd : o.dst = none) (x y : Operand) (ho : o.op = .store 102 x y)
    (g b j b' j' : Nat) (hx : a.eval x = .pointer (some ⟨g, 0, none⟩)) (hy : a.eval y = .agg (okc b' j')) (hg : Kb w g b j)
    (h : ∀ w', Kb w' g b' j' → w.grownBy w' (some g) → wpList Try.prog ops Q rest a w') : wpList Try.prog ops Q (o :: rest) a w := by
  have h' : ∀ w', Kb w' g b' j' → w.grownBy w' (some g) → wpList Try.prog ops Q rest (a.put o.dst undef) w' := by rw [hd]; exact h
  refine wpList_store_row hgd 102 x y ho g (okc b' j') hx hy 102 (okc b j) hg okinfo rfl (okc_one b' j') (h' _ ?_ ?_)
  · exact setRow_heap w g _ _ 102 (0, 0) hg
  · exact ⟨rfl, rfl, rfl, by simp [World.setRow], fun k _ hk => setRow_other w g k _ (fun e => hk (by simp [e]))⟩

/-! ### Two that are the same -/
set_option maxRecDepth 100000 in
theorem run_part_addrO (a k : Nat) (w : World) : (part 27 (okc a k) 0).run Try.prog w = .ok (.int .u64 (a : Nat)) w := run_part_plain w addr_plain rfl
set_option maxRecDepth 100000 in
theorem run_part_keyO (a k : Nat) (w : World) : (part 29 (okc a k) 1).run Try.prog w = .ok (.agg (wc k)) w := by
  have hi : ∃ i, Try.prog.info? 29 = some i ∧ i.size = 4 := ⟨_, rfl, rfl⟩
  obtain ⟨i, h1, h2⟩ := hi
  simp [part, isAgg, run_underlying Try.underlying29, sizeOf, typeInfo, h1, h2, okc, wc]
set_option maxRecDepth 100000 in
theorem ok_fields : ∃ f0 f1 : Field, (Try.prog.fieldsOf 102).toList = [f0, f1] ∧ (f0.type = 27 ∧ f0.offset = 0 ∧ f0.name ≠ "_") ∧ (f1.type = 29 ∧ f1.offset = 1 ∧ f1.name ≠ "_") :=
  ⟨_, _, rfl, ⟨rfl, rfl, by decide⟩, ⟨rfl, rfl, by decide⟩⟩
set_option maxRecDepth 100000 in
theorem run_eq_ok (a k b j : Nat) (hk : k < M256) (hj : j < M256) (w : World) : (Op.equalIn 10000 102 (.agg (okc a k)) (.agg (okc b j))).run Try.prog w = .ok (a == b && k == j) w := by
  rw [run_equalIn_struct w 9999 102 _ _ Try.underlying102 (by kernel_rfl)]
  obtain ⟨f0, f1, h, ⟨t0, o0, n0⟩, ⟨t1, o1, n1⟩⟩ := ok_fields
  rw [h]
  simp only [Op.eqFields, t0, o0, n0, t1, o1, n1, ne_eq, not_false_eq_true, if_true, Sem.run_bind, run_part_addrO, Result.andThen_ok, run_equalIn_int w 9998 _ _ _ _ _ Try.underlying27, int_beq]
  cases a == b with
  | false => simp
  | true =>
    simp only [Bool.not_true, Bool.false_eq_true, if_false, Sem.run_bind, run_part_keyO, Result.andThen_ok, run_eq_wordH k j hk hj, Bool.true_and]
    cases k == j <;> simp
set_option maxRecDepth 100000 in
theorem ok_guard : Try.prog.eqGuardType Try.prog.depth 102 = false := by kernel_rfl
set_option maxRecDepth 100000 in
theorem wpList_eql_ok {ops : Array Oper} {rest : List Oper} {o : Oper} {a : Act} {w : World} {Q : Exit → Act → World → Prop} (hgd : Region.wanted o (yielded ops a.tmps) = true) (x y : Operand) (ho : o.op = .binOp .eql 102 x y 102)
    (b k c j : Nat) (hk : k < M256) (hj : j < M256) (hx : a.eval x = .agg (okc b k)) (hy : a.eval y = .agg (okc c j)) (h : wpList Try.prog ops Q rest (a.put o.dst (.bool (b == c && k == j))) w) : wpList Try.prog ops Q (o :: rest) a w := by
  refine wpList_step fun K hK => ?_
  rw [if_pos hgd]
  unfold Oper.wp
  simp only [execOp, ho, hx, hy, Sem.run_bind, run_eqGuard_agg w .eql 102 x y (okc b k) (okc c j) ok_guard, Result.andThen_ok, run_eql_struct, run_eq_ok b k c j hk hj]
  exact hK _ _ h
set_option maxRecDepth 100000 in
theorem run_part_addrN (p : Nn) (w : World) : (part 27 (nnc p) 0).run Try.prog w = .ok (.int .u64 (p.addr : Nat)) w := run_part_plain w addr_plain rfl
set_option maxRecDepth 100000 in
theorem run_part_nxtN (p : Nn) (w : World) : (part 26 (nnc p) 5).run Try.prog w = .ok (.int .u64 (p.nxt : Nat)) w := run_part_plain w wu_plain rfl
set_option maxRecDepth 100000 in
theorem run_part_keyN (p : Nn) (w : World) : (part 29 (nnc p) 1).run Try.prog w = .ok (.agg (wc p.key)) w := by
  have hi : ∃ i, Try.prog.info? 29 = some i ∧ i.size = 4 := ⟨_, rfl, rfl⟩
  obtain ⟨i, h1, h2⟩ := hi
  simp [part, isAgg, run_underlying Try.underlying29, sizeOf, typeInfo, h1, h2, nnc, wc]
set_option maxRecDepth 100000 in
theorem nonce_fields : ∃ f0 f1 f2 : Field, (Try.prog.fieldsOf 38).toList = [f0, f1, f2] ∧ (f0.type = 27 ∧ f0.offset = 0 ∧ f0.name ≠ "_") ∧ (f1.type = 29 ∧ f1.offset = 1 ∧ f1.name ≠ "_") ∧ (f2.type = 26 ∧ f2.offset = 5 ∧ f2.name ≠ "_") :=
  ⟨_, _, _, rfl, ⟨rfl, rfl, by decide⟩, ⟨rfl, rfl, by decide⟩, ⟨rfl, rfl, by decide⟩⟩
set_option maxRecDepth 100000 in
theorem run_eq_nonce_in (p q : Nn) (hp : p.ok) (hq : q.ok) (w : World) : (Op.equalIn 10000 38 (.agg (nnc p)) (.agg (nnc q))).run Try.prog w = .ok (p.eqB q) w := by
  rw [run_equalIn_struct w 9999 38 _ _ Try.underlying38 (by kernel_rfl)]
  obtain ⟨f0, f1, f2, h, ⟨t0, o0, n0⟩, ⟨t1, o1, n1⟩, ⟨t2, o2, n2⟩⟩ := nonce_fields
  rw [h]
  unfold Nn.eqB
  simp only [Op.eqFields, t0, o0, n0, t1, o1, n1, t2, o2, n2, ne_eq, not_false_eq_true, if_true, Sem.run_bind, run_part_addrN, Result.andThen_ok, run_equalIn_int w 9998 _ _ _ _ _ Try.underlying27, int_beq]
  cases p.addr == q.addr with
  | false => simp
  | true =>
    simp only [Bool.not_true, Bool.false_eq_true, if_false, Sem.run_bind, run_part_keyN, Result.andThen_ok, run_eq_wordH p.key q.key hp.2.1 hq.2.1, Bool.true_and]
    cases p.key == q.key with
    | false => simp
    | true =>
      simp only [Bool.not_true, Bool.false_eq_true, if_false, Sem.run_bind, run_part_nxtN, Result.andThen_ok, run_equalIn_int w 9998 _ _ _ _ _ Try.underlying26, int_beq, Bool.true_and]
      cases p.nxt == q.nxt <;> simp
set_option maxRecDepth 100000 in
theorem nonce_guard : Try.prog.eqGuardType Try.prog.depth 38 = false := by kernel_rfl
set_option maxRecDepth 100000 in
theorem wpList_neq_nn {ops : Array Oper} {rest : List Oper} {o : Oper} {a : Act} {w : World} {Q : Exit → Act → World → Prop} (hgd : Region.wanted o (yielded ops a.tmps) = true) (x y : Operand) (ho : o.op = .binOp .neq 38 x y 38)
    (p q : Nn) (hp : p.ok) (hq : q.ok) (hx : a.eval x = .agg (nnc p)) (hy : a.eval y = .agg (nnc q)) (h : wpList Try.prog ops Q rest (a.put o.dst (.bool (!p.eqB q))) w) : wpList Try.prog ops Q (o :: rest) a w := by
  refine wpList_step fun K hK => ?_
  rw [if_pos hgd]
  unfold Oper.wp
  simp only [execOp, ho, hx, hy, Sem.run_bind, run_eqGuard_agg w .neq 38 x y (nnc p) (nnc q) nonce_guard, Result.andThen_ok, run_neq_struct, run_eq_nonce_in p q hp hq]
  exact hK _ _ h
end Go.Proofs.Ytepggbhibpjkpaa
