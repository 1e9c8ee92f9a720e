/- Package access: addresses, spots, what is passing, in memory; two that are the same. -/
import Derived.Test.YtjampleddeidaaaQLha
namespace Go.Proofs.Ytjampleddeidaaa
open Go.ChangeShapes Go.WideShapes Go.ChangeAt Go.RowKit Go.Shelf

structure Pe where
  addr : Nat
  key : Nat
  val : Nat
def pz0 : Pe := ⟨0, 0, 0⟩
def Pe.eqB (p q : Pe) : Bool := p.addr == q.addr && (p.key == q.key && p.val == q.val)
set_option maxRecDepth 100000 in
theorem Pe.eqB_iff (p q : Pe) : p.eqB q = true ↔ p = q := by
  cases p; cases q
  simp [Pe.eqB]
set_option maxRecDepth 100000 in
theorem Pe.eqB_self (p : Pe) : p.eqB p = true := (Pe.eqB_iff p p).2 rfl
instance : DecidableEq Pe := fun p q => if h : p.eqB q = true then isTrue ((Pe.eqB_iff p q).1 h) else isFalse fun e => h ((Pe.eqB_iff p q).2 e)
def cdN (a k : Nat) : Nat := a * M256 + k
def Pe.cod (h : Pe) : Nat := cdN h.addr h.key
set_option maxRecDepth 100000 in
theorem cdN_inj {a k b j : Nat} (hk : k < M256) (hj : j < M256) (h : cdN a k = cdN b j) : a = b ∧ k = j := by
  unfold cdN M256 at *
  omega
set_option maxRecDepth 100000 in
theorem cdN_lt {a k b j : Nat} (hk : k < M256) (hj : j < M256) : cdN a k < cdN b j ↔ a < b ∨ a = b ∧ k < j := by
  unfold cdN M256 at *
  omega
def okA (p : Pe) : Prop := p.addr < 18446744073709551616 ∧ p.key = 0 ∧ p.val = 0
def okS (p : Pe) : Prop := p.addr < 18446744073709551616 ∧ p.key < M256 ∧ p.val = 0
def okP (p : Pe) : Prop := p.addr < 18446744073709551616 ∧ p.key < M256 ∧ p.val < M256
def cA (p : Pe) : Array Value := #[.int .u64 (p.addr : Nat)]
def cS (p : Pe) : Array Value := #[.int .u64 (p.addr : Nat), lv (lb p.key 0), lv (lb p.key 1), lv (lb p.key 2), lv (lb p.key 3)]
def cP (p : Pe) : Array Value := #[.int .u64 (p.addr : Nat), lv (lb p.key 0), lv (lb p.key 1), lv (lb p.key 2), lv (lb p.key 3), lv (lb p.val 0), lv (lb p.val 1), lv (lb p.val 2), lv (lb p.val 3)]

set_option maxRecDepth 100000 in
theorem cA_one (h : Pe) : (cA h).all (·.oneCell') = true := by simp [cA, Value.oneCell']
set_option maxRecDepth 100000 in
theorem cA_ones (h : Pe) : ∀ u ∈ (cA h).toList, u.oneCell' = true := fun u hu => Array.all_eq_true_iff_forall_mem.1 (cA_one h) u (by simpa using hu)
def RA (cs : List Value) (h : Pe) : Prop := okA h ∧ cs = (cA h).toList
def XA (W : World) (v : Value) (l : List Pe) : Prop := Sl W 1 RA v l
set_option maxRecDepth 100000 in
theorem XA.ext {W W' : World} {v : Value} {l : List Pe} (h : XA W v l) (he : Ext W W') : XA W' v l := Sl.mono h (fun _ _ hc => he.cell hc) fun _ _ h => h
set_option maxRecDepth 100000 in
theorem XA.len {W : World} {v : Value} {l : List Pe} (h : XA W v l) : ∃ A c, v = .slice A l.length c ∧ l.length ≤ c ∧ c ≤ maxLen := by
  obtain ⟨A, c, e, h1, h2, _⟩ := h
  exact ⟨A, c, e, h1, h2⟩
set_option maxRecDepth 100000 in
theorem XA.at {W : World} {A : Option Addr} {n c : Nat} {l : List Pe} (h : XA W (.slice A n c) l) (i : Nat) (hi : i < l.length) : ∃ b o, A = some ⟨b, o, none⟩ ∧ W.rangeAt b (o + i) (cA (l.getD i pz0)).toList ∧ okA (l.getD i pz0) := by
  obtain ⟨A', c', e, _, _, h3⟩ := h
  injection e with e1 e2 e3
  subst e1
  obtain ⟨b, o, rfl, hc⟩ := h3 (by omega)
  obtain ⟨cs, _, ⟨k0, rfl⟩, k3⟩ := hc i _ (List.getElem?_eq_getElem hi)
  have e : l.getD i pz0 = l[i] := by simp [List.getD, List.getElem?_eq_getElem hi]
  rw [e]
  exact ⟨b, o, rfl, by simpa using k3, k0⟩
set_option maxRecDepth 100000 in
theorem XA.oks {W : World} {v : Value} {l : List Pe} (h : XA W v l) : ∀ p ∈ l, okA p := by
  intro p hp
  obtain ⟨A, c, rfl, _, _⟩ := h.len
  obtain ⟨i, hi, e⟩ := List.getElem_of_mem hp
  obtain ⟨_, _, _, _, h3⟩ := h.at i hi
  rw [List.getD_eq_getElem?_getD, List.getElem?_eq_getElem hi, Option.getD_some, e] at h3
  exact h3
set_option maxRecDepth 100000 in
theorem infoA : (Try.prog.info? 28).map (·.size) = some 1 := by kernel_rfl
set_option maxRecDepth 100000 in
theorem infoA3 : (Try.prog.info? 28).map (fun i => (i.zero, i.size, i.bytes)) = some (some (.int .u64 0), 1, 8) := by kernel_rfl
set_option maxRecDepth 100000 in
theorem cS_one (h : Pe) : (cS h).all (·.oneCell') = true := by simp [cS, lv, Value.oneCell']
set_option maxRecDepth 100000 in
theorem cS_ones (h : Pe) : ∀ u ∈ (cS h).toList, u.oneCell' = true := fun u hu => Array.all_eq_true_iff_forall_mem.1 (cS_one h) u (by simpa using hu)
def RS (cs : List Value) (h : Pe) : Prop := okS h ∧ cs = (cS h).toList
def XS (W : World) (v : Value) (l : List Pe) : Prop := Sl W 5 RS v l
set_option maxRecDepth 100000 in
theorem XS.ext {W W' : World} {v : Value} {l : List Pe} (h : XS W v l) (he : Ext W W') : XS W' v l := Sl.mono h (fun _ _ hc => he.cell hc) fun _ _ h => h
set_option maxRecDepth 100000 in
theorem XS.len {W : World} {v : Value} {l : List Pe} (h : XS W v l) : ∃ A c, v = .slice A l.length c ∧ l.length ≤ c ∧ c ≤ maxLen := by
  obtain ⟨A, c, e, h1, h2, _⟩ := h
  exact ⟨A, c, e, h1, h2⟩
set_option maxRecDepth 100000 in
theorem XS.at {W : World} {A : Option Addr} {n c : Nat} {l : List Pe} (h : XS W (.slice A n c) l) (i : Nat) (hi : i < l.length) : ∃ b o, A = some ⟨b, o, none⟩ ∧ W.rangeAt b (o + i * 5) (cS (l.getD i pz0)).toList ∧ okS (l.getD i pz0) := by
  obtain ⟨A', c', e, _, _, h3⟩ := h
  injection e with e1 e2 e3
  subst e1
  obtain ⟨b, o, rfl, hc⟩ := h3 (by omega)
  obtain ⟨cs, _, ⟨k0, rfl⟩, k3⟩ := hc i _ (List.getElem?_eq_getElem hi)
  have e : l.getD i pz0 = l[i] := by simp [List.getD, List.getElem?_eq_getElem hi]
  rw [e]
  exact ⟨b, o, rfl, k3, k0⟩
set_option maxRecDepth 100000 in
theorem XS.oks {W : World} {v : Value} {l : List Pe} (h : XS W v l) : ∀ p ∈ l, okS p := by
  intro p hp
  obtain ⟨A, c, rfl, _, _⟩ := h.len
  obtain ⟨i, hi, e⟩ := List.getElem_of_mem hp
  obtain ⟨_, _, _, _, h3⟩ := h.at i hi
  rw [List.getD_eq_getElem?_getD, List.getElem?_eq_getElem hi, Option.getD_some, e] at h3
  exact h3
set_option maxRecDepth 100000 in
theorem infoS : (Try.prog.info? 32).map (·.size) = some 5 := by kernel_rfl
set_option maxRecDepth 100000 in
theorem infoS3 : (Try.prog.info? 32).map (fun i => (i.zero, i.size, i.bytes)) = some (some (.agg (cS pz0)), 5, 40) := by kernel_rfl
def BS (W : World) (g : Nat) (h : Pe) : Prop := Cs W g 32 (cS h)
set_option maxRecDepth 100000 in
theorem BS.ext {W W' : World} {g : Nat} {h : Pe} (k : BS W g h) (he : Ext W W') : BS W' g h := Cs.ext k he
set_option maxRecDepth 100000 in
theorem cS_addr {W : World} {b o : Nat} {h : Pe} (k : W.rangeAt b o (cS h).toList) : W.cell? ⟨b, o, none⟩ = some (.int .u64 (h.addr : Nat)) := k 0 _ rfl
set_option maxRecDepth 100000 in
theorem BS.addr {W : World} {g : Nat} {h : Pe} (k : BS W g h) : W.cell? ⟨g, 0, none⟩ = some (.int .u64 (h.addr : Nat)) := Cs.cell k 0 _ rfl
set_option maxRecDepth 100000 in
theorem cS_key {W : World} {b o : Nat} {h : Pe} (k : W.rangeAt b o (cS h).toList) : W.rangeAt b (o + 1) (wc h.key).toList := fun j x hx => by
  have hj : j < 4 := by have := (List.getElem?_eq_some_iff.1 hx).1; simpa [wc] using this
  have := k (1 + j) x (by
    match j, hj with
    | 0, _ => exact hx
    | 1, _ => exact hx
    | 2, _ => exact hx
    | 3, _ => exact hx)
  rwa [show o + 1 + j = o + (1 + j) by omega]
set_option maxRecDepth 100000 in
theorem BS.key {W : World} {g : Nat} {h : Pe} (k : BS W g h) : W.rangeAt g 1 (wc h.key).toList := by have := cS_key (Cs.rg k); rwa [Nat.zero_add] at this
set_option maxRecDepth 100000 in
theorem wpList_loadS {ops : Array Oper} {rest : List Oper} {o : Oper} {a : Act} {w : World} {Q : Exit → Act → World → Prop} (hgd : Region.wanted o (yielded ops a.tmps) = true) (x : Operand) (ho : o.op = .load 32 x)
    (g k : Nat) (p : Pe) (hx : a.eval x = .pointer (some ⟨g, k, none⟩)) (hg : w.rangeAt g k (cS p).toList) (h : wpList Try.prog ops Q rest (a.put o.dst (.agg (cS p))) w) : wpList Try.prog ops Q (o :: rest) a w := by
  refine wpList_step fun K hK => ?_
  rw [if_pos hgd]
  refine wp_load_mid 32 x ho g k hx (cS p).toList _ hg Try.underlying32 rfl infoS ?_
  exact hK _ _ h
set_option maxRecDepth 100000 in
theorem cP_one (h : Pe) : (cP h).all (·.oneCell') = true := by simp [cP, lv, Value.oneCell']
set_option maxRecDepth 100000 in
theorem cP_ones (h : Pe) : ∀ u ∈ (cP h).toList, u.oneCell' = true := fun u hu => Array.all_eq_true_iff_forall_mem.1 (cP_one h) u (by simpa using hu)
def RP (cs : List Value) (h : Pe) : Prop := okP h ∧ cs = (cP h).toList
def XP (W : World) (v : Value) (l : List Pe) : Prop := Sl W 9 RP v l
set_option maxRecDepth 100000 in
theorem XP.ext {W W' : World} {v : Value} {l : List Pe} (h : XP W v l) (he : Ext W W') : XP W' v l := Sl.mono h (fun _ _ hc => he.cell hc) fun _ _ h => h
set_option maxRecDepth 100000 in
theorem XP.len {W : World} {v : Value} {l : List Pe} (h : XP W v l) : ∃ A c, v = .slice A l.length c ∧ l.length ≤ c ∧ c ≤ maxLen := by
  obtain ⟨A, c, e, h1, h2, _⟩ := h
  exact ⟨A, c, e, h1, h2⟩
set_option maxRecDepth 100000 in
theorem XP.at {W : World} {A : Option Addr} {n c : Nat} {l : List Pe} (h : XP W (.slice A n c) l) (i : Nat) (hi : i < l.length) : ∃ b o, A = some ⟨b, o, none⟩ ∧ W.rangeAt b (o + i * 9) (cP (l.getD i pz0)).toList ∧ okP (l.getD i pz0) := by
  obtain ⟨A', c', e, _, _, h3⟩ := h
  injection e with e1 e2 e3
  subst e1
  obtain ⟨b, o, rfl, hc⟩ := h3 (by omega)
  obtain ⟨cs, _, ⟨k0, rfl⟩, k3⟩ := hc i _ (List.getElem?_eq_getElem hi)
  have e : l.getD i pz0 = l[i] := by simp [List.getD, List.getElem?_eq_getElem hi]
  rw [e]
  exact ⟨b, o, rfl, k3, k0⟩
set_option maxRecDepth 100000 in
theorem XP.oks {W : World} {v : Value} {l : List Pe} (h : XP W v l) : ∀ p ∈ l, okP p := by
  intro p hp
  obtain ⟨A, c, rfl, _, _⟩ := h.len
  obtain ⟨i, hi, e⟩ := List.getElem_of_mem hp
  obtain ⟨_, _, _, _, h3⟩ := h.at i hi
  rw [List.getD_eq_getElem?_getD, List.getElem?_eq_getElem hi, Option.getD_some, e] at h3
  exact h3
set_option maxRecDepth 100000 in
theorem infoP : (Try.prog.info? 69).map (·.size) = some 9 := by kernel_rfl
set_option maxRecDepth 100000 in
theorem infoP3 : (Try.prog.info? 69).map (fun i => (i.zero, i.size, i.bytes)) = some (some (.agg (cP pz0)), 9, 72) := by kernel_rfl
def BP (W : World) (g : Nat) (h : Pe) : Prop := Cs W g 69 (cP h)
set_option maxRecDepth 100000 in
theorem BP.ext {W W' : World} {g : Nat} {h : Pe} (k : BP W g h) (he : Ext W W') : BP W' g h := Cs.ext k he
set_option maxRecDepth 100000 in
theorem cP_addr {W : World} {b o : Nat} {h : Pe} (k : W.rangeAt b o (cP h).toList) : W.cell? ⟨b, o, none⟩ = some (.int .u64 (h.addr : Nat)) := k 0 _ rfl
set_option maxRecDepth 100000 in
theorem BP.addr {W : World} {g : Nat} {h : Pe} (k : BP W g h) : W.cell? ⟨g, 0, none⟩ = some (.int .u64 (h.addr : Nat)) := Cs.cell k 0 _ rfl
set_option maxRecDepth 100000 in
theorem cP_key {W : World} {b o : Nat} {h : Pe} (k : W.rangeAt b o (cP h).toList) : W.rangeAt b (o + 1) (wc h.key).toList := fun j x hx => by
  have hj : j < 4 := by have := (List.getElem?_eq_some_iff.1 hx).1; simpa [wc] using this
  have := k (1 + j) x (by
    match j, hj with
    | 0, _ => exact hx
    | 1, _ => exact hx
    | 2, _ => exact hx
    | 3, _ => exact hx)
  rwa [show o + 1 + j = o + (1 + j) by omega]
set_option maxRecDepth 100000 in
theorem BP.key {W : World} {g : Nat} {h : Pe} (k : BP W g h) : W.rangeAt g 1 (wc h.key).toList := by have := cP_key (Cs.rg k); rwa [Nat.zero_add] at this
set_option maxRecDepth 100000 in
theorem cP_val {W : World} {b o : Nat} {h : Pe} (k : W.rangeAt b o (cP h).toList) : W.rangeAt b (o + 5) (wc h.val).toList := fun j x hx => by
  have hj : j < 4 := by have := (List.getElem?_eq_some_iff.1 hx).1; simpa [wc] using this
  have := k (5 + j) x (by
    match j, hj with
    | 0, _ => exact hx
    | 1, _ => exact hx
    | 2, _ => exact hx
    | 3, _ => exact hx)
  rwa [show o + 5 + j = o + (5 + j) by omega]
set_option maxRecDepth 100000 in
theorem BP.val {W : World} {g : Nat} {h : Pe} (k : BP W g h) : W.rangeAt g 5 (wc h.val).toList := by have := cP_val (Cs.rg k); rwa [Nat.zero_add] at this
set_option maxRecDepth 100000 in
theorem wpList_loadP {ops : Array Oper} {rest : List Oper} {o : Oper} {a : Act} {w : World} {Q : Exit → Act → World → Prop} (hgd : Region.wanted o (yielded ops a.tmps) = true) (x : Operand) (ho : o.op = .load 69 x)
    (g k : Nat) (p : Pe) (hx : a.eval x = .pointer (some ⟨g, k, none⟩)) (hg : w.rangeAt g k (cP p).toList) (h : wpList Try.prog ops Q rest (a.put o.dst (.agg (cP p))) w) : wpList Try.prog ops Q (o :: rest) a w := by
  refine wpList_step fun K hK => ?_
  rw [if_pos hgd]
  refine wp_load_mid 69 x ho g k hx (cP p).toList _ hg Try.underlying69 rfl infoP ?_
  exact hK _ _ h
set_option maxRecDepth 100000 in
theorem wpList_storeP {ops : Array Oper} {rest : List Oper} {o : Oper} {a : Act} {w : World} {Q : Exit → Act → World → Prop} (hgd : o.guard = none) (hd : o.dst = none) (x y : Operand) (ho : o.op = .store 69 x y)
    (g : Nat) (p q : Pe) (hx : a.eval x = .pointer (some ⟨g, 0, none⟩)) (hy : a.eval y = .agg (cP q)) (hg : BP w g p)
    (h : ∀ w', BP w' g q → w.grownBy w' (some g) → wpList Try.prog ops Q rest a w') : wpList Try.prog ops Q (o :: rest) a w := by
  have h' : ∀ w', BP w' g q → w.grownBy w' (some g) → wpList Try.prog ops Q rest (a.put o.dst undef) w' := by rw [hd]; exact h
  refine wpList_store_row hgd 69 x y ho g (cP q) hx hy 69 (cP p) hg infoP rfl (cP_one q) (h' _ ?_ ?_)
  · exact setRow_heap w g _ _ 69 (0, 0) hg
  · exact ⟨rfl, rfl, rfl, by simp [World.setRow], fun k _ hk => setRow_other w g k _ (fun e => hk (by simp [e]))⟩
set_option maxRecDepth 100000 in
theorem cP_spot {W : World} {b o : Nat} {h : Pe} (k : W.rangeAt b o (cP h).toList) : W.rangeAt b o (cS h).toList := fun j x hx => by
  have hj : j < 5 := by have := (List.getElem?_eq_some_iff.1 hx).1; simpa [cS] using this
  exact k j x (by
    match j, hj with
    | 0, _ => exact hx
    | 1, _ => exact hx
    | 2, _ => exact hx
    | 3, _ => exact hx
    | 4, _ => exact hx)

def Pe.eqS (p q : Pe) : Bool := p.addr == q.addr && p.key == q.key
set_option maxRecDepth 100000 in
theorem run_part_addrS (p : Pe) (w : World) : (part 28 (cS p) 0).run Try.prog w = .ok (.int .u64 (p.addr : Nat)) w := run_part_plain w addr_plain rfl
set_option maxRecDepth 100000 in
theorem run_part_keyS (p : Pe) (w : World) : (part 30 (cS p) 1).run Try.prog w = .ok (.agg (wc p.key)) w := by
  have hi : ∃ i, Try.prog.info? 30 = some i ∧ i.size = 4 := ⟨_, rfl, rfl⟩
  obtain ⟨i, h1, h2⟩ := hi
  simp [part, isAgg, run_underlying Try.underlying30, sizeOf, typeInfo, h1, h2, cS, wc]
set_option maxRecDepth 100000 in
theorem spot_fields : ∃ f0 f1 : Field, (Try.prog.fieldsOf 32).toList = [f0, f1] ∧ (f0.type = 28 ∧ f0.offset = 0 ∧ f0.name ≠ "_") ∧ (f1.type = 30 ∧ f1.offset = 1 ∧ f1.name ≠ "_") :=
  ⟨_, _, rfl, ⟨rfl, rfl, by decide⟩, ⟨rfl, rfl, by decide⟩⟩
set_option maxRecDepth 100000 in
theorem run_eq_wordD (d a b : Nat) (ha : a < M256) (hb : b < M256) (w : World) : (Op.equalIn (d + 3) 30 (.agg (wc a)) (.agg (wc b))).run Try.prog w = .ok (a == b) w := by
  obtain ⟨i, hi⟩ := wu_info
  have h := run_equalIn_array w (d + 2) (wc a) (wc b) Try.underlying30 hi
  rw [wu_cells, run_eqItems_wordH (d + 1) a b w (List.range 4) (fun i hi => List.mem_range.1 hi), all_lb a b ha hb] at h
  exact h
set_option maxRecDepth 100000 in
theorem run_eq_spot (d : Nat) (p q : Pe) (hk : p.key < M256) (hj : q.key < M256) (w : World) : (Op.equalIn (d + 5) 32 (.agg (cS p)) (.agg (cS q))).run Try.prog w = .ok (p.eqS q) w := by
  rw [run_equalIn_struct w (d + 4) 32 _ _ Try.underlying32 (by kernel_rfl)]
  obtain ⟨f0, f1, h, ⟨t0, o0, n0⟩, ⟨t1, o1, n1⟩⟩ := spot_fields
  have hw := run_eq_wordD (d + 1) p.key q.key hk hj w
  rw [show d + 1 + 3 = d + 4 by omega] at hw
  rw [h]
  unfold Pe.eqS
  simp only [Op.eqFields, t0, o0, n0, t1, o1, n1, ne_eq, not_false_eq_true, if_true, Sem.run_bind, run_part_addrS, Result.andThen_ok, run_equalIn_int w (d + 3) _ _ _ _ _ Try.underlying28, int_beq]
  cases p.addr == q.addr with
  | false => simp
  | true =>
    simp only [Bool.not_true, Bool.false_eq_true, if_false, Sem.run_bind, run_part_keyS, Result.andThen_ok, hw, Bool.true_and]
    cases p.key == q.key <;> simp
set_option maxRecDepth 100000 in
theorem spot_guard : Try.prog.eqGuardType Try.prog.depth 32 = false := by kernel_rfl
set_option maxRecDepth 100000 in
theorem wpList_neqS {ops : Array Oper} {rest : List Oper} {o : Oper} {a : Act} {w : World} {Q : Exit → Act → World → Prop} (hgd : Region.wanted o (yielded ops a.tmps) = true) (x y : Operand) (ho : o.op = .binOp .neq 32 x y 32)
    (p q : Pe) (hk : p.key < M256) (hj : q.key < M256) (hx : a.eval x = .agg (cS p)) (hy : a.eval y = .agg (cS q)) (h : wpList Try.prog ops Q rest (a.put o.dst (.bool (!p.eqS q))) w) : wpList Try.prog ops Q (o :: rest) a w := by
  refine wpList_step fun K hK => ?_
  rw [if_pos hgd]
  unfold Oper.wp
  have hr := run_eq_spot 9995 p q hk hj w
  simp only [execOp, ho, hx, hy, Sem.run_bind, run_eqGuard_agg w .neq 32 x y (cS p) (cS q) spot_guard, Result.andThen_ok, run_neq_struct, hr]
  exact hK _ _ h
set_option maxRecDepth 100000 in
theorem run_part_spotP (p : Pe) (w : World) : (part 32 (cP p) 0).run Try.prog w = .ok (.agg (cS p)) w := by
  have hi : ∃ i, Try.prog.info? 32 = some i ∧ i.size = 5 := ⟨_, rfl, rfl⟩
  obtain ⟨i, h1, h2⟩ := hi
  simp [part, isAgg, run_underlying Try.underlying32, sizeOf, typeInfo, h1, h2, cP, cS]
set_option maxRecDepth 100000 in
theorem run_part_valP (p : Pe) (w : World) : (part 30 (cP p) 5).run Try.prog w = .ok (.agg (wc p.val)) w := by
  have hi : ∃ i, Try.prog.info? 30 = some i ∧ i.size = 4 := ⟨_, rfl, rfl⟩
  obtain ⟨i, h1, h2⟩ := hi
  simp [part, isAgg, run_underlying Try.underlying30, sizeOf, typeInfo, h1, h2, cP, wc]
set_option maxRecDepth 100000 in
theorem passing_fields : ∃ f0 f1 : Field, (Try.prog.fieldsOf 69).toList = [f0, f1] ∧ (f0.type = 32 ∧ f0.offset = 0 ∧ f0.name ≠ "_") ∧ (f1.type = 30 ∧ f1.offset = 5 ∧ f1.name ≠ "_") :=
  ⟨_, _, rfl, ⟨rfl, rfl, by decide⟩, ⟨rfl, rfl, by decide⟩⟩
set_option maxRecDepth 100000 in
theorem run_eq_passing (d : Nat) (p q : Pe) (hp : okP p) (hq : okP q) (w : World) : (Op.equalIn (d + 6) 69 (.agg (cP p)) (.agg (cP q))).run Try.prog w = .ok (p.eqB q) w := by
  rw [run_equalIn_struct w (d + 5) 69 _ _ Try.underlying69 (by kernel_rfl)]
  obtain ⟨f0, f1, h, ⟨t0, o0, n0⟩, ⟨t1, o1, n1⟩⟩ := passing_fields
  have hs := run_eq_spot d p q hp.2.1 hq.2.1 w
  have hw := run_eq_wordD (d + 2) p.val q.val hp.2.2 hq.2.2 w
  rw [show d + 2 + 3 = d + 5 by omega] at hw
  rw [h]
  simp only [Op.eqFields, t0, o0, n0, t1, o1, n1, ne_eq, not_false_eq_true, if_true, Sem.run_bind, run_part_spotP, Result.andThen_ok, hs]
  unfold Pe.eqS Pe.eqB
  cases p.addr == q.addr with
  | false => simp
  | true =>
    cases p.key == q.key with
    | false => simp
    | true =>
      simp only [Bool.and_self, Bool.not_true, Bool.false_eq_true, if_false, Sem.run_bind, run_part_valP, Result.andThen_ok, hw, Bool.true_and]
      cases p.val == q.val <;> simp
set_option maxRecDepth 100000 in
theorem passing_guard : Try.prog.eqGuardType Try.prog.depth 69 = false := by kernel_rfl
set_option maxRecDepth 100000 in
theorem wpList_neqP {ops : Array Oper} {rest : List Oper} {o : Oper} {a : Act} {w : World} {Q : Exit → Act → World → Prop} (hgd : Region.wanted o (yielded ops a.tmps) = true) (x y : Operand) (ho : o.op = .binOp .neq 69 x y 69)
    (p q : Pe) (hp : okP p) (hq : okP q) (hx : a.eval x = .agg (cP p)) (hy : a.eval y = .agg (cP q)) (h : wpList Try.prog ops Q rest (a.put o.dst (.bool (!p.eqB q))) w) : wpList Try.prog ops Q (o :: rest) a w := by
  refine wpList_step fun K hK => ?_
  rw [if_pos hgd]
  unfold Oper.wp
  have hr := run_eq_passing 9994 p q hp hq w
  simp only [execOp, ho, hx, hy, Sem.run_bind, run_eqGuard_agg w .neq 69 x y (cP p) (cP q) passing_guard, Result.andThen_ok, run_neq_struct, hr]
  exact hK _ _ h
end Go.Proofs.Ytjampleddeidaaa
