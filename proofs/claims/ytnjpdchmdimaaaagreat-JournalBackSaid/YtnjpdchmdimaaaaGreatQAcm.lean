/- Package access: rows that rise, by mathematics. -/
import Derived.Test.YtnjpdchmdimaaaaGreatQLhb
namespace Go.Proofs.YtnjpdchmdimaaaaGreat
open Go.ChangeShapes Go.WideShapes Go.ChangeAt Go.RowKit Go.Shelf

structure Pe where
 addr : Nat
 key : Nat
 val : Nat
def pz0 : Pe := ⟨0, 0, 0⟩
def Pe.eqB (p q : Pe) : Bool := p.addr == q.addr && (p.key == q.key && p.val == q.val)
theorem Pe.eqB_iff (p q : Pe) : p.eqB q = true ↔ p = q := by
 cases p; cases q
 simp [Pe.eqB]
theorem Pe.eqB_self (p : Pe) : p.eqB p = true := (Pe.eqB_iff p p).2 rfl
instance : DecidableEq Pe := fun p q => if h : p.eqB q = true then isTrue ((Pe.eqB_iff p q).1 h) else isFalse fun e => h ((Pe.eqB_iff p q).2 e)
def ceN (a k : Nat) : Nat := a * M256 + k
def Pe.cod (h : Pe) : Nat := ceN h.addr h.key
theorem ceN_inj {a k b j : Nat} (hk : k < M256) (hj : j < M256) (h : ceN a k = ceN b j) : a = b ∧ k = j := by
 unfold ceN M256 at *
 omega
theorem ceN_lt {a k b j : Nat} (hk : k < M256) (hj : j < M256) : ceN a k < ceN b j ↔ a < b ∨ a = b ∧ k < j := by
 unfold ceN M256 at *
 omega
def okA (p : Pe) : Prop := p.addr < 18446744073709551616 ∧ p.key = 0 ∧ p.val = 0
def okS (p : Pe) : Prop := p.addr < 18446744073709551616 ∧ p.key < M256 ∧ p.val = 0
def okP (p : Pe) : Prop := p.addr < 18446744073709551616 ∧ p.key < M256 ∧ p.val < M256
theorem okA.k {p : Pe} (h : okA p) : p.key < M256 := by rw [h.2.1]; decide
theorem okS.k {p : Pe} (h : okS p) : p.key < M256 := h.2.1
theorem okP.k {p : Pe} (h : okP p) : p.key < M256 := h.2.1
def cA (p : Pe) : Array Value := #[.int .u64 (p.addr : Nat)]
def cS (p : Pe) : Array Value := #[.int .u64 (p.addr : Nat), lv (lb p.key 0), lv (lb p.key 1), lv (lb p.key 2), lv (lb p.key 3)]
def cP (p : Pe) : Array Value := #[.int .u64 (p.addr : Nat), lv (lb p.key 0), lv (lb p.key 1), lv (lb p.key 2), lv (lb p.key 3), lv (lb p.val 0), lv (lb p.val 1), lv (lb p.val 2), lv (lb p.val 3)]

theorem cA_one (h : Pe) : (cA h).all (·.oneCell') = true := by simp [cA, Value.oneCell']
theorem cA_ones (h : Pe) : ∀ u ∈ (cA h).toList, u.oneCell' = true := fun u hu => Array.all_eq_true_iff_forall_mem.1 (cA_one h) u (by simpa using hu)
def RA (cs : List Value) (h : Pe) : Prop := okA h ∧ cs = (cA h).toList
def XA (W : World) (v : Value) (l : List Pe) : Prop := Sl W 1 RA v l
theorem XA.ext {W W' : World} {v : Value} {l : List Pe} (h : XA W v l) (he : Ext W W') : XA W' v l := Sl.mono h (fun _ _ hc => he.cell hc) fun _ _ h => h
theorem XA.len {W : World} {v : Value} {l : List Pe} (h : XA W v l) : ∃ A c, v = .slice A l.length c ∧ l.length ≤ c ∧ c ≤ maxLen := by
 obtain ⟨A, c, e, h1, h2, _⟩ := h
 exact ⟨A, c, e, h1, h2⟩
theorem XA.nil (W : World) : XA W (.slice none 0 0) [] := ⟨none, 0, rfl, Nat.le_refl _, Nat.zero_le _, fun h => absurd h (by simp)⟩
theorem XA.at {W : World} {A : Option Addr} {n c : Nat} {l : List Pe} (h : XA W (.slice A n c) l) (i : Nat) (hi : i < l.length) : ∃ b o, A = some ⟨b, o, none⟩ ∧ W.rangeAt b (o + i) (cA (l.getD i pz0)).toList ∧ okA (l.getD i pz0) := by
 obtain ⟨A', c', e, _, _, h3⟩ := h
 injection e with e1 e2 e3
 subst e1
 obtain ⟨b, o, rfl, hc⟩ := h3 (by omega)
 obtain ⟨cs, _, ⟨k0, rfl⟩, k3⟩ := hc i _ (List.getElem?_eq_getElem hi)
 have e : l.getD i pz0 = l[i] := by simp [List.getD, List.getElem?_eq_getElem hi]
 rw [e]
 exact ⟨b, o, rfl, by simpa using k3, k0⟩
theorem XA.oks {W : World} {v : Value} {l : List Pe} (h : XA W v l) : ∀ p ∈ l, okA p := by
 intro p hp
 obtain ⟨A, c, rfl, _, _⟩ := h.len
 obtain ⟨i, hi, e⟩ := List.getElem_of_mem hp
 obtain ⟨_, _, _, _, h3⟩ := h.at i hi
 rw [List.getD_eq_getElem?_getD, List.getElem?_eq_getElem hi, Option.getD_some, e] at h3
 exact h3
set_option maxRecDepth 100000 in
theorem infoA : (Tryz.prog.info? 45).map (·.size) = some 1 := by kernel_rfl
set_option maxRecDepth 100000 in
theorem infoA3 : (Tryz.prog.info? 45).map (fun i => (i.zero, i.size, i.bytes)) = some (some (.int .u64 0), 1, 8) := by kernel_rfl
theorem cS_one (h : Pe) : (cS h).all (·.oneCell') = true := by simp [cS, lv, Value.oneCell']
theorem cS_ones (h : Pe) : ∀ u ∈ (cS h).toList, u.oneCell' = true := fun u hu => Array.all_eq_true_iff_forall_mem.1 (cS_one h) u (by simpa using hu)
def RS (cs : List Value) (h : Pe) : Prop := okS h ∧ cs = (cS h).toList
def XS (W : World) (v : Value) (l : List Pe) : Prop := Sl W 5 RS v l
theorem XS.ext {W W' : World} {v : Value} {l : List Pe} (h : XS W v l) (he : Ext W W') : XS W' v l := Sl.mono h (fun _ _ hc => he.cell hc) fun _ _ h => h
theorem XS.len {W : World} {v : Value} {l : List Pe} (h : XS W v l) : ∃ A c, v = .slice A l.length c ∧ l.length ≤ c ∧ c ≤ maxLen := by
 obtain ⟨A, c, e, h1, h2, _⟩ := h
 exact ⟨A, c, e, h1, h2⟩
theorem XS.nil (W : World) : XS W (.slice none 0 0) [] := ⟨none, 0, rfl, Nat.le_refl _, Nat.zero_le _, fun h => absurd h (by simp)⟩
theorem XS.at {W : World} {A : Option Addr} {n c : Nat} {l : List Pe} (h : XS W (.slice A n c) l) (i : Nat) (hi : i < l.length) : ∃ b o, A = some ⟨b, o, none⟩ ∧ W.rangeAt b (o + i * 5) (cS (l.getD i pz0)).toList ∧ okS (l.getD i pz0) := by
 obtain ⟨A', c', e, _, _, h3⟩ := h
 injection e with e1 e2 e3
 subst e1
 obtain ⟨b, o, rfl, hc⟩ := h3 (by omega)
 obtain ⟨cs, _, ⟨k0, rfl⟩, k3⟩ := hc i _ (List.getElem?_eq_getElem hi)
 have e : l.getD i pz0 = l[i] := by simp [List.getD, List.getElem?_eq_getElem hi]
 rw [e]
 exact ⟨b, o, rfl, k3, k0⟩
theorem XS.oks {W : World} {v : Value} {l : List Pe} (h : XS W v l) : ∀ p ∈ l, okS p := by
 intro p hp
 obtain ⟨A, c, rfl, _, _⟩ := h.len
 obtain ⟨i, hi, e⟩ := List.getElem_of_mem hp
 obtain ⟨_, _, _, _, h3⟩ := h.at i hi
 rw [List.getD_eq_getElem?_getD, List.getElem?_eq_getElem hi, Option.getD_some, e] at h3
 exact h3
set_option maxRecDepth 100000 in
theorem infoS : (Tryz.prog.info? 115).map (·.size) = some 5 := by kernel_rfl
set_option maxRecDepth 100000 in
theorem infoS3 : (Tryz.prog.info? 115).map (fun i => (i.zero, i.size, i.bytes)) = some (some (.agg (cS pz0)), 5, 40) := by kernel_rfl
def BS (W : World) (g : Nat) (h : Pe) : Prop := Cs W g 115 (cS h)
theorem BS.ext {W W' : World} {g : Nat} {h : Pe} (k : BS W g h) (he : Ext W W') : BS W' g h := Cs.ext k he
theorem BS.addr {W : World} {g : Nat} {h : Pe} (k : BS W g h) : W.cell? ⟨g, 0, none⟩ = some (.int .u64 (h.addr : Nat)) := Cs.cell k 0 _ rfl
theorem cS_key {W : World} {b o : Nat} {h : Pe} (k : W.rangeAt b o (cS h).toList) : W.rangeAt b (o + 1) (wc h.key).toList := fun j x hx => by
 have hj : j < 4 := by have := (List.getElem?_eq_some_iff.1 hx).1; simpa [wc] using this
 have := k (1 + j) x (by
  match j, hj with
  | 0, _ => exact hx
  | 1, _ => exact hx
  | 2, _ => exact hx
  | 3, _ => exact hx)
 rwa [show o + 1 + j = o + (1 + j) by omega]
theorem BS.key {W : World} {g : Nat} {h : Pe} (k : BS W g h) : W.rangeAt g 1 (wc h.key).toList := by have := cS_key (Cs.rg k); rwa [Nat.zero_add] at this
set_option maxRecDepth 100000 in
theorem wpList_loadS {ops : Array Oper} {rest : List Oper} {o : Oper} {a : Act} {w : World} {Q : Exit → Act → World → Prop} (hgd : Region.wanted o (yielded ops a.tmps) = true) (x : Operand) (ho : o.op = .load 115 x)
  (g k : Nat) (p : Pe) (hx : a.eval x = .pointer (some ⟨g, k, none⟩)) (hg : w.rangeAt g k (cS p).toList) (h : wpList Tryz.prog ops Q rest (a.put o.dst (.agg (cS p))) w) : wpList Tryz.prog ops Q (o :: rest) a w := by
 refine wpList_step fun K hK => ?_
 rw [if_pos hgd]
 refine wp_load_mid 115 x ho g k hx (cS p).toList _ hg Tryz.underlying115 rfl infoS ?_
 exact hK _ _ h
theorem cP_one (h : Pe) : (cP h).all (·.oneCell') = true := by simp [cP, lv, Value.oneCell']
theorem cP_ones (h : Pe) : ∀ u ∈ (cP h).toList, u.oneCell' = true := fun u hu => Array.all_eq_true_iff_forall_mem.1 (cP_one h) u (by simpa using hu)
def RP (cs : List Value) (h : Pe) : Prop := okP h ∧ cs = (cP h).toList
def XP (W : World) (v : Value) (l : List Pe) : Prop := Sl W 9 RP v l
theorem XP.ext {W W' : World} {v : Value} {l : List Pe} (h : XP W v l) (he : Ext W W') : XP W' v l := Sl.mono h (fun _ _ hc => he.cell hc) fun _ _ h => h
theorem XP.len {W : World} {v : Value} {l : List Pe} (h : XP W v l) : ∃ A c, v = .slice A l.length c ∧ l.length ≤ c ∧ c ≤ maxLen := by
 obtain ⟨A, c, e, h1, h2, _⟩ := h
 exact ⟨A, c, e, h1, h2⟩
theorem XP.nil (W : World) : XP W (.slice none 0 0) [] := ⟨none, 0, rfl, Nat.le_refl _, Nat.zero_le _, fun h => absurd h (by simp)⟩
theorem XP.at {W : World} {A : Option Addr} {n c : Nat} {l : List Pe} (h : XP W (.slice A n c) l) (i : Nat) (hi : i < l.length) : ∃ b o, A = some ⟨b, o, none⟩ ∧ W.rangeAt b (o + i * 9) (cP (l.getD i pz0)).toList ∧ okP (l.getD i pz0) := by
 obtain ⟨A', c', e, _, _, h3⟩ := h
 injection e with e1 e2 e3
 subst e1
 obtain ⟨b, o, rfl, hc⟩ := h3 (by omega)
 obtain ⟨cs, _, ⟨k0, rfl⟩, k3⟩ := hc i _ (List.getElem?_eq_getElem hi)
 have e : l.getD i pz0 = l[i] := by simp [List.getD, List.getElem?_eq_getElem hi]
 rw [e]
 exact ⟨b, o, rfl, k3, k0⟩
theorem XP.oks {W : World} {v : Value} {l : List Pe} (h : XP W v l) : ∀ p ∈ l, okP p := by
 intro p hp
 obtain ⟨A, c, rfl, _, _⟩ := h.len
 obtain ⟨i, hi, e⟩ := List.getElem_of_mem hp
 obtain ⟨_, _, _, _, h3⟩ := h.at i hi
 rw [List.getD_eq_getElem?_getD, List.getElem?_eq_getElem hi, Option.getD_some, e] at h3
 exact h3
set_option maxRecDepth 100000 in
theorem infoP : (Tryz.prog.info? 118).map (·.size) = some 9 := by kernel_rfl
set_option maxRecDepth 100000 in
theorem infoP3 : (Tryz.prog.info? 118).map (fun i => (i.zero, i.size, i.bytes)) = some (some (.agg (cP pz0)), 9, 72) := by kernel_rfl
def BP (W : World) (g : Nat) (h : Pe) : Prop := Cs W g 118 (cP h)
theorem BP.ext {W W' : World} {g : Nat} {h : Pe} (k : BP W g h) (he : Ext W W') : BP W' g h := Cs.ext k he
theorem BP.addr {W : World} {g : Nat} {h : Pe} (k : BP W g h) : W.cell? ⟨g, 0, none⟩ = some (.int .u64 (h.addr : Nat)) := Cs.cell k 0 _ rfl
theorem cP_key {W : World} {b o : Nat} {h : Pe} (k : W.rangeAt b o (cP h).toList) : W.rangeAt b (o + 1) (wc h.key).toList := fun j x hx => by
 have hj : j < 4 := by have := (List.getElem?_eq_some_iff.1 hx).1; simpa [wc] using this
 have := k (1 + j) x (by
  match j, hj with
  | 0, _ => exact hx
  | 1, _ => exact hx
  | 2, _ => exact hx
  | 3, _ => exact hx)
 rwa [show o + 1 + j = o + (1 + j) by omega]
theorem BP.key {W : World} {g : Nat} {h : Pe} (k : BP W g h) : W.rangeAt g 1 (wc h.key).toList := by have := cP_key (Cs.rg k); rwa [Nat.zero_add] at this
theorem cP_val {W : World} {b o : Nat} {h : Pe} (k : W.rangeAt b o (cP h).toList) : W.rangeAt b (o + 5) (wc h.val).toList := fun j x hx => by
 have hj : j < 4 := by have := (List.getElem?_eq_some_iff.1 hx).1; simpa [wc] using this
 have := k (5 + j) x (by
  match j, hj with
  | 0, _ => exact hx
  | 1, _ => exact hx
  | 2, _ => exact hx
  | 3, _ => exact hx)
 rwa [show o + 5 + j = o + (5 + j) by omega]
theorem BP.val {W : World} {g : Nat} {h : Pe} (k : BP W g h) : W.rangeAt g 5 (wc h.val).toList := by have := cP_val (Cs.rg k); rwa [Nat.zero_add] at this
set_option maxRecDepth 100000 in
theorem wpList_loadP {ops : Array Oper} {rest : List Oper} {o : Oper} {a : Act} {w : World} {Q : Exit → Act → World → Prop} (hgd : Region.wanted o (yielded ops a.tmps) = true) (x : Operand) (ho : o.op = .load 118 x)
  (g k : Nat) (p : Pe) (hx : a.eval x = .pointer (some ⟨g, k, none⟩)) (hg : w.rangeAt g k (cP p).toList) (h : wpList Tryz.prog ops Q rest (a.put o.dst (.agg (cP p))) w) : wpList Tryz.prog ops Q (o :: rest) a w := by
 refine wpList_step fun K hK => ?_
 rw [if_pos hgd]
 refine wp_load_mid 118 x ho g k hx (cP p).toList _ hg Tryz.underlying118 rfl infoP ?_
 exact hK _ _ h
set_option maxRecDepth 100000 in
theorem wpList_storeP {ops : Array Oper} {rest : List Oper} {o : Oper} {a : Act} {w : World} {Q : Exit → Act → World → Prop} (hgd : o.guard = none) (hd : o.dst = none) (x y : Operand) (ho : o.op = .store 118 x y)
  (g : Nat) (p q : Pe) (hx : a.eval x = .pointer (some ⟨g, 0, none⟩)) (hy : a.eval y = .agg (cP q)) (hg : BP w g p)
  (h : ∀ w', BP w' g q → w.grownBy w' (some g) → wpList Tryz.prog ops Q rest a w') : wpList Tryz.prog ops Q (o :: rest) a w := by
 have h' : ∀ w', BP w' g q → w.grownBy w' (some g) → wpList Tryz.prog ops Q rest (a.put o.dst undef) w' := by rw [hd]; exact h
 refine wpList_store_row hgd 118 x y ho g (cP q) hx hy 118 (cP p) hg infoP rfl (cP_one q) (h' _ ?_ ?_)
 ·exact setRow_heap w g _ _ 118 (0, 0) hg
 ·exact ⟨rfl, rfl, rfl, by simp [World.setRow], fun k _ hk => setRow_other w g k _ (fun e => hk (by simp [e]))⟩
def Pe.eqS (p q : Pe) : Bool := p.addr == q.addr && p.key == q.key
set_option maxRecDepth 100000 in
theorem run_part_addrS (p : Pe) (w : World) : (part 45 (cS p) 0).run Tryz.prog w = .ok (.int .u64 (p.addr : Nat)) w := run_part_plain w addr_plain rfl
set_option maxRecDepth 100000 in
theorem run_part_keyS (p : Pe) (w : World) : (part 75 (cS p) 1).run Tryz.prog w = .ok (.agg (wc p.key)) w := by
 have hi : ∃ i, Tryz.prog.info? 75 = some i ∧ i.size = 4 := ⟨_, rfl, rfl⟩
 obtain ⟨i, h1, h2⟩ := hi
 simp [part, isAgg, run_underlying Tryz.underlying75, sizeOf, typeInfo, h1, h2, cS, wc]
set_option maxRecDepth 100000 in
theorem spot_fields : ∃ f0 f1 : Field, (Tryz.prog.fieldsOf 115).toList = [f0, f1] ∧ (f0.type = 45 ∧ f0.offset = 0 ∧ f0.name ≠ "_") ∧ (f1.type = 75 ∧ f1.offset = 1 ∧ f1.name ≠ "_") :=
 ⟨_, _, rfl, ⟨rfl, rfl, by decide⟩, ⟨rfl, rfl, by decide⟩⟩
set_option maxRecDepth 100000 in
theorem run_eq_wordD (d a b : Nat) (ha : a < M256) (hb : b < M256) (w : World) : (Op.equalIn (d + 3) 75 (.agg (wc a)) (.agg (wc b))).run Tryz.prog w = .ok (a == b) w := by
 obtain ⟨i, hi⟩ := wu_info
 have h := run_equalIn_array w (d + 2) (wc a) (wc b) Tryz.underlying75 hi
 rw [wu_cells, run_eqItems_wordH (d + 1) a b w (List.range 4) (fun i hi => List.mem_range.1 hi), all_lb a b ha hb] at h
 exact h
set_option maxRecDepth 100000 in
theorem run_eq_spot (d : Nat) (p q : Pe) (hk : p.key < M256) (hj : q.key < M256) (w : World) : (Op.equalIn (d + 5) 115 (.agg (cS p)) (.agg (cS q))).run Tryz.prog w = .ok (p.eqS q) w := by
 rw [run_equalIn_struct w (d + 4) 115 _ _ Tryz.underlying115 (by kernel_rfl)]
 obtain ⟨f0, f1, h, ⟨t0, o0, n0⟩, ⟨t1, o1, n1⟩⟩ := spot_fields
 have hw := run_eq_wordD (d + 1) p.key q.key hk hj w
 rw [show d + 1 + 3 = d + 4 by omega] at hw
 rw [h]
 unfold Pe.eqS
 simp only [Op.eqFields, t0, o0, n0, t1, o1, n1, ne_eq, not_false_eq_true, if_true, Sem.run_bind, run_part_addrS, Result.andThen_ok, run_equalIn_int w (d + 3) _ _ _ _ _ Tryz.underlying45, int_beq]
 cases p.addr == q.addr with
 | false => simp
 | true =>
  simp only [Bool.not_true, Bool.false_eq_true, if_false, Sem.run_bind, run_part_keyS, Result.andThen_ok, hw, Bool.true_and]
  cases p.key == q.key <;> simp
set_option maxRecDepth 100000 in
theorem spot_guard : Tryz.prog.eqGuardType Tryz.prog.depth 115 = false := by kernel_rfl
set_option maxRecDepth 100000 in
theorem wpList_neqS {ops : Array Oper} {rest : List Oper} {o : Oper} {a : Act} {w : World} {Q : Exit → Act → World → Prop} (hgd : Region.wanted o (yielded ops a.tmps) = true) (x y : Operand) (ho : o.op = .binOp .neq 115 x y 115)
  (p q : Pe) (hk : p.key < M256) (hj : q.key < M256) (hx : a.eval x = .agg (cS p)) (hy : a.eval y = .agg (cS q)) (h : wpList Tryz.prog ops Q rest (a.put o.dst (.bool (!p.eqS q))) w) : wpList Tryz.prog ops Q (o :: rest) a w := by
 refine wpList_step fun K hK => ?_
 rw [if_pos hgd]
 unfold Oper.wp
 have hr := run_eq_spot 9995 p q hk hj w
 simp only [execOp, ho, hx, hy, Sem.run_bind, run_eqGuard_agg w .neq 115 x y (cS p) (cS q) spot_guard, Result.andThen_ok, run_neq_struct, hr]
 exact hK _ _ h
set_option maxRecDepth 100000 in
theorem run_part_spotP (p : Pe) (w : World) : (part 115 (cP p) 0).run Tryz.prog w = .ok (.agg (cS p)) w := by
 have hi : ∃ i, Tryz.prog.info? 115 = some i ∧ i.size = 5 := ⟨_, rfl, rfl⟩
 obtain ⟨i, h1, h2⟩ := hi
 simp [part, isAgg, run_underlying Tryz.underlying115, sizeOf, typeInfo, h1, h2, cP, cS]
set_option maxRecDepth 100000 in
theorem run_part_valP (p : Pe) (w : World) : (part 75 (cP p) 5).run Tryz.prog w = .ok (.agg (wc p.val)) w := by
 have hi : ∃ i, Tryz.prog.info? 75 = some i ∧ i.size = 4 := ⟨_, rfl, rfl⟩
 obtain ⟨i, h1, h2⟩ := hi
 simp [part, isAgg, run_underlying Tryz.underlying75, sizeOf, typeInfo, h1, h2, cP, wc]
set_option maxRecDepth 100000 in
theorem passing_fields : ∃ f0 f1 : Field, (Tryz.prog.fieldsOf 118).toList = [f0, f1] ∧ (f0.type = 115 ∧ f0.offset = 0 ∧ f0.name ≠ "_") ∧ (f1.type = 75 ∧ f1.offset = 5 ∧ f1.name ≠ "_") :=
 ⟨_, _, rfl, ⟨rfl, rfl, by decide⟩, ⟨rfl, rfl, by decide⟩⟩
set_option maxRecDepth 100000 in
theorem run_eq_passing (d : Nat) (p q : Pe) (hp : okP p) (hq : okP q) (w : World) : (Op.equalIn (d + 6) 118 (.agg (cP p)) (.agg (cP q))).run Tryz.prog w = .ok (p.eqB q) w := by
 rw [run_equalIn_struct w (d + 5) 118 _ _ Tryz.underlying118 (by kernel_rfl)]
 obtain ⟨f0, f1, h, ⟨t0, o0, n0⟩, ⟨t1, o1, n1⟩⟩ := passing_fields
 have hs := run_eq_spot d p q hp.2.1 hq.2.1 w
 have hw := run_eq_wordD (d + 2) p.val q.val hp.2.2 hq.2.2 w
 rw [show d + 2 + 3 = d + 5 by omega] at hw
 rw [h]
 simp only [Op.eqFields, t0, o0, n0, t1, o1, n1, ne_eq, not_false_eq_true, if_true, Sem.run_bind, run_part_spotP, Result.andThen_ok, hs]
 unfold Pe.eqS Pe.eqB
 cases p.addr == q.addr with
 | false => simp
 | true =>
  cases p.key == q.key with
  | false => simp
  | true =>
   simp only [Bool.and_self, Bool.not_true, Bool.false_eq_true, if_false, Sem.run_bind, run_part_valP, Result.andThen_ok, hw, Bool.true_and]
   cases p.val == q.val <;> simp
set_option maxRecDepth 100000 in
theorem passing_guard : Tryz.prog.eqGuardType Tryz.prog.depth 118 = false := by kernel_rfl
set_option maxRecDepth 100000 in
theorem wpList_neqP {ops : Array Oper} {rest : List Oper} {o : Oper} {a : Act} {w : World} {Q : Exit → Act → World → Prop} (hgd : Region.wanted o (yielded ops a.tmps) = true) (x y : Operand) (ho : o.op = .binOp .neq 118 x y 118)
  (p q : Pe) (hp : okP p) (hq : okP q) (hx : a.eval x = .agg (cP p)) (hy : a.eval y = .agg (cP q)) (h : wpList Tryz.prog ops Q rest (a.put o.dst (.bool (!p.eqB q))) w) : wpList Tryz.prog ops Q (o :: rest) a w := by
 refine wpList_step fun K hK => ?_
 rw [if_pos hgd]
 unfold Oper.wp
 have hr := run_eq_passing 9994 p q hp hq w
 simp only [execOp, ho, hx, hy, Sem.run_bind, run_eqGuard_agg w .neq 118 x y (cP p) (cP q) passing_guard, Result.andThen_ok, run_neq_struct, hr]
 exact hK _ _ h
end Go.Proofs.YtnjpdchmdimaaaaGreat
namespace Go.Proofs.YtnjpdchmdimaaaaGreat
open Go.ChangeShapes Go.WideShapes Go.ChangeAt Go.RowKit Go.Shelf

def RiseX (l : List Pe) : Prop := ∀ i j, i < j → j < l.length → (l.getD i pz0).cod < (l.getD j pz0).cod
def plX (l : List Pe) (p : Pe) : List Pe := l.filter (fun q => decide (q.cod < p.cod)) ++ p :: l.filter (fun q => decide (p.cod < q.cod))
theorem riseX_iff (l : List Pe) : RiseX l ↔ l.Pairwise (fun p q => p.cod < q.cod) := by
 unfold RiseX
 rw [List.pairwise_iff_getElem]
 constructor
 ·intro h i j hi hj hij
  have := h i j hij hj
  rw [List.getD_eq_getElem?_getD, List.getD_eq_getElem?_getD, List.getElem?_eq_getElem hi, List.getElem?_eq_getElem hj] at this
  exact this
 ·intro h i j hij hj
  have := h i j (by omega) hj hij
  rw [List.getD_eq_getElem?_getD, List.getD_eq_getElem?_getD, List.getElem?_eq_getElem (show i < l.length by omega), List.getElem?_eq_getElem hj]
  exact this
theorem getX_mem {l : List Pe} {i : Nat} (hi : i < l.length) : l.getD i pz0 ∈ l := by
 rw [List.getD_eq_getElem?_getD, List.getElem?_eq_getElem hi]
 exact List.getElem_mem hi
theorem memX_get {l : List Pe} {p : Pe} (h : p ∈ l) : ∃ i, i < l.length ∧ l.getD i pz0 = p := by
 obtain ⟨i, hi, e⟩ := List.getElem_of_mem h
 exact ⟨i, hi, by rw [List.getD_eq_getElem?_getD, List.getElem?_eq_getElem hi, ← e]; rfl⟩
theorem mem_plX {l : List Pe} {p q : Pe} : q ∈ plX l p ↔ q = p ∨ (q ∈ l ∧ q.cod ≠ p.cod) := by
 unfold plX
 rw [List.mem_append, List.mem_cons, List.mem_filter, List.mem_filter, decide_eq_true_eq, decide_eq_true_eq]
 constructor
 ·rintro (⟨h1, h2⟩ | h | ⟨h1, h2⟩)
  ·exact .inr ⟨h1, by omega⟩
  ·exact .inl h
  ·exact .inr ⟨h1, by omega⟩
 ·rintro (h | ⟨h1, h2⟩)
  ·exact .inr (.inl h)
  ·rcases Nat.lt_or_ge q.cod p.cod with h | h
   ·exact .inl ⟨h1, h⟩
   ·exact .inr (.inr ⟨h1, by omega⟩)
theorem plX_rise {l : List Pe} (hr : RiseX l) (p : Pe) : RiseX (plX l p) := by
 have h := (riseX_iff l).1 hr
 rw [riseX_iff]
 unfold plX
 rw [List.pairwise_append, List.pairwise_cons]
 refine ⟨h.filter _, ⟨fun q hq => ?_, h.filter _⟩, fun x hx y hy => ?_⟩
 ·have := (List.mem_filter.1 hq).2
  simpa using this
 ·have h1 := (List.mem_filter.1 hx).2
  rw [decide_eq_true_eq] at h1
  rcases List.mem_cons.1 hy with rfl | hy
  ·exact h1
  ·have h2 := (List.mem_filter.1 hy).2
   rw [decide_eq_true_eq] at h2
   omega
def rsB (l : List Pe) : Bool := decide (l.length ≤ 400) && (List.range l.length).all fun i => decide (i = 0) || decide ((l.getD (i - 1) pz0).cod < (l.getD i pz0).cod)
theorem rs_iff {l : List Pe} : rsB l = true ↔ l.length ≤ 400 ∧ RiseX l := by
 unfold rsB
 rw [Bool.and_eq_true, decide_eq_true_eq, List.all_eq_true]
 refine and_congr Iff.rfl ⟨fun h i j hij hj => ?_, fun h i hi => ?_⟩
 ·induction j with
  | zero => omega
  | succ j ih =>
   have h1 := h (j + 1) (List.mem_range.2 hj)
   rw [decide_eq_false (by omega), Bool.false_or, decide_eq_true_eq, Nat.add_sub_cancel] at h1
   rcases Nat.lt_or_ge i j with hlt | hge
   ·exact Nat.lt_trans (ih hlt (by omega)) h1
   ·obtain rfl : i = j := by omega
    exact h1
 ·have := List.mem_range.1 hi
  rw [Bool.or_eq_true, decide_eq_true_eq, decide_eq_true_eq]
  rcases Nat.eq_zero_or_pos i with h0 | h0
  ·exact .inl h0
  ·exact .inr (h (i - 1) i (by omega) this)
end Go.Proofs.YtnjpdchmdimaaaaGreat
