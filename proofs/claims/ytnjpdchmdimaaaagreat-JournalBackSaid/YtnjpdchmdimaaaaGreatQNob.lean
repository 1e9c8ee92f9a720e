/- Package nonce: keys, sequences, and how keys of addresses stand. -/
import Derived.Test.YtnjpdchmdimaaaaGreatQLhb
import Derived.Test.YtnjpdchmdimaaaaGreatQWsq
namespace Go.Proofs.YtnjpdchmdimaaaaGreat
open Go.ChangeShapes Go.WideShapes Go.ChangeAt Go.RowKit Go.Shelf

structure Nn where
 addr : Nat
 key : Nat
 nxt : Nat
def nz0 : Nn := ⟨0, 0, 0⟩
def Nn.ok (h : Nn) : Prop := h.addr < 18446744073709551616 ∧ h.key < M256 ∧ h.nxt < 18446744073709551616
def Nn.eqB (p q : Nn) : Bool := p.addr == q.addr && (p.key == q.key && p.nxt == q.nxt)
theorem Nn.eqB_iff (p q : Nn) : p.eqB q = true ↔ p = q := by
 cases p; cases q
 simp [Nn.eqB]
theorem Nn.eqB_self (p : Nn) : p.eqB p = true := (Nn.eqB_iff p p).2 rfl
instance : DecidableEq Nn := fun p q => if h : p.eqB q = true then isTrue ((Nn.eqB_iff p q).1 h) else isFalse fun e => h ((Nn.eqB_iff p q).2 e)
def cdN (a k : Nat) : Nat := a * M256 + k
def Nn.cod (h : Nn) : Nat := cdN h.addr h.key
theorem cdN_lt {a k b j : Nat} (hk : k < M256) (hj : j < M256) : cdN a k < cdN b j ↔ a < b ∨ a = b ∧ k < j := by
 unfold cdN M256 at *
 omega
def nnc (h : Nn) : Array Value := #[.int .u64 (h.addr : Nat), lv (lb h.key 0), lv (lb h.key 1), lv (lb h.key 2), lv (lb h.key 3), .int .u64 (h.nxt : Nat)]
theorem nnc_one (h : Nn) : (nnc h).all (·.oneCell') = true := by simp [nnc, lv, Value.oneCell']
theorem nnc_ones (h : Nn) : ∀ u ∈ (nnc h).toList, u.oneCell' = true := fun u hu => Array.all_eq_true_iff_forall_mem.1 (nnc_one h) u (by simpa using hu)
def NnR (cs : List Value) (h : Nn) : Prop := h.ok ∧ cs = (nnc h).toList
def Nns (W : World) (v : Value) (l : List Nn) : Prop := Sl W 6 NnR v l
theorem Nns.ext {W W' : World} {v : Value} {l : List Nn} (h : Nns W v l) (he : Ext W W') : Nns W' v l := Sl.mono h (fun _ _ hc => he.cell hc) fun _ _ h => h
theorem Nns.len {W : World} {v : Value} {l : List Nn} (h : Nns W v l) : ∃ A c, v = .slice A l.length c ∧ l.length ≤ c ∧ c ≤ maxLen := by
 obtain ⟨A, c, e, h1, h2, _⟩ := h
 exact ⟨A, c, e, h1, h2⟩
theorem Nns.nil (W : World) : Nns W (.slice none 0 0) [] := ⟨none, 0, rfl, Nat.le_refl _, Nat.zero_le _, fun h => absurd h (by simp)⟩
theorem Nns.at {W : World} {A : Option Addr} {n c : Nat} {l : List Nn} (h : Nns W (.slice A n c) l) (i : Nat) (hi : i < l.length) : ∃ b o, A = some ⟨b, o, none⟩ ∧ W.rangeAt b (o + i * 6) (nnc (l.getD i nz0)).toList ∧ (l.getD i nz0).ok := by
 obtain ⟨A', c', e, _, _, h3⟩ := h
 injection e with e1 e2 e3
 subst e1
 obtain ⟨b, o, rfl, hc⟩ := h3 (by omega)
 obtain ⟨cs, _, ⟨k0, rfl⟩, k3⟩ := hc i _ (List.getElem?_eq_getElem hi)
 have e : l.getD i nz0 = l[i] := by simp [List.getD, List.getElem?_eq_getElem hi]
 rw [e]
 exact ⟨b, o, rfl, k3, k0⟩
theorem Nns.oks {W : World} {v : Value} {l : List Nn} (h : Nns W v l) : ∀ p ∈ l, p.ok := by
 intro p hp
 obtain ⟨A, c, rfl, _, _⟩ := h.len
 obtain ⟨i, hi, e⟩ := List.getElem_of_mem hp
 obtain ⟨_, _, _, _, h3⟩ := h.at i hi
 rw [List.getD_eq_getElem?_getD, List.getElem?_eq_getElem hi, Option.getD_some, e] at h3
 exact h3
set_option maxRecDepth 100000 in
theorem nninfo : (Tryz.prog.info? 112).map (·.size) = some 6 := by kernel_rfl
set_option maxRecDepth 100000 in
theorem nninfo3 : (Tryz.prog.info? 112).map (fun i => (i.zero, i.size, i.bytes)) = some (some (.agg (nnc nz0)), 6, 48) := by kernel_rfl
def Nb6 (W : World) (g : Nat) (h : Nn) : Prop := Cs W g 112 (nnc h)
theorem Nb6.ext {W W' : World} {g : Nat} {h : Nn} (k : Nb6 W g h) (he : Ext W W') : Nb6 W' g h := Cs.ext k he
theorem nn_key {W : World} {b o : Nat} {h : Nn} (k : W.rangeAt b o (nnc h).toList) : W.rangeAt b (o + 1) (wc h.key).toList := fun j x hx => by
 have hj : j < 4 := by have := (List.getElem?_eq_some_iff.1 hx).1; simpa [wc] using this
 have := k (1 + j) x (by
  match j, hj with
  | 0, _ => exact hx
  | 1, _ => exact hx
  | 2, _ => exact hx
  | 3, _ => exact hx)
 rwa [show o + 1 + j = o + (1 + j) by omega]
theorem Nb6.key {W : World} {g : Nat} {h : Nn} (k : Nb6 W g h) : W.rangeAt g 1 (wc h.key).toList := by have := nn_key (Cs.rg k); rwa [Nat.zero_add] at this
theorem Nb6.addr {W : World} {g : Nat} {h : Nn} (k : Nb6 W g h) : W.cell? ⟨g, 0, none⟩ = some (.int .u64 (h.addr : Nat)) := Cs.cell k 0 _ rfl
theorem Nb6.nxt {W : World} {g : Nat} {h : Nn} (k : Nb6 W g h) : W.cell? ⟨g, 5, none⟩ = some (.int .u64 (h.nxt : Nat)) := Cs.cell k 5 _ rfl
set_option maxRecDepth 100000 in
theorem wpList_load_nn {ops : Array Oper} {rest : List Oper} {o : Oper} {a : Act} {w : World} {Q : Exit → Act → World → Prop} (hgd : Region.wanted o (yielded ops a.tmps) = true) (x : Operand) (ho : o.op = .load 112 x)
  (g k : Nat) (p : Nn) (hx : a.eval x = .pointer (some ⟨g, k, none⟩)) (hg : w.rangeAt g k (nnc p).toList) (h : wpList Tryz.prog ops Q rest (a.put o.dst (.agg (nnc p))) w) : wpList Tryz.prog ops Q (o :: rest) a w := by
 refine wpList_step fun K hK => ?_
 rw [if_pos hgd]
 refine wp_load_mid 112 x ho g k hx (nnc p).toList _ hg Tryz.underlying112 rfl nninfo ?_
 exact hK _ _ h
set_option maxRecDepth 100000 in
theorem wpList_store_nn {ops : Array Oper} {rest : List Oper} {o : Oper} {a : Act} {w : World} {Q : Exit → Act → World → Prop} (hgd : o.guard = none) (hd : o.dst = none) (x y : Operand) (ho : o.op = .store 112 x y)
  (g : Nat) (p q : Nn) (hx : a.eval x = .pointer (some ⟨g, 0, none⟩)) (hy : a.eval y = .agg (nnc q)) (hg : Nb6 w g p)
  (h : ∀ w', Nb6 w' g q → w.grownBy w' (some g) → wpList Tryz.prog ops Q rest a w') : wpList Tryz.prog ops Q (o :: rest) a w := by
 have h' : ∀ w', Nb6 w' g q → w.grownBy w' (some g) → wpList Tryz.prog ops Q rest (a.put o.dst undef) w' := by rw [hd]; exact h
 refine wpList_store_row hgd 112 x y ho g (nnc q) hx hy 112 (nnc p) hg nninfo rfl (nnc_one q) (h' _ ?_ ?_)
 ·exact setRow_heap w g _ _ 112 (0, 0) hg
 ·exact ⟨rfl, rfl, rfl, by simp [World.setRow], fun k _ hk => setRow_other w g k _ (fun e => hk (by simp [e]))⟩

def okc (a k : Nat) : Array Value := #[.int .u64 (a : Nat), lv (lb k 0), lv (lb k 1), lv (lb k 2), lv (lb k 3)]
theorem okc_one (a k : Nat) : (okc a k).all (·.oneCell') = true := by simp [okc, lv, Value.oneCell']
set_option maxRecDepth 100000 in
theorem okinfo : (Tryz.prog.info? 146).map (·.size) = some 5 := by kernel_rfl
def Kb (W : World) (g a k : Nat) : Prop := Cs W g 146 (okc a k)
theorem Kb.ext {W W' : World} {g a k : Nat} (h : Kb W g a k) (he : Ext W W') : Kb W' g a k := Cs.ext h he
theorem ok_key {W : World} {b o a k : Nat} (h : W.rangeAt b o (okc a k).toList) : W.rangeAt b (o + 1) (wc k).toList := fun j x hx => by
 have hj : j < 4 := by have := (List.getElem?_eq_some_iff.1 hx).1; simpa [wc] using this
 have := h (1 + j) x (by
  match j, hj with
  | 0, _ => exact hx
  | 1, _ => exact hx
  | 2, _ => exact hx
  | 3, _ => exact hx)
 rwa [show o + 1 + j = o + (1 + j) by omega]
theorem Kb.key {W : World} {g a k : Nat} (h : Kb W g a k) : W.rangeAt g 1 (wc k).toList := by have := ok_key (Cs.rg h); rwa [Nat.zero_add] at this
theorem Kb.addr {W : World} {g a k : Nat} (h : Kb W g a k) : W.cell? ⟨g, 0, none⟩ = some (.int .u64 (a : Nat)) := Cs.cell h 0 _ rfl
set_option maxRecDepth 100000 in
theorem wpList_store_ok {ops : Array Oper} {rest : List Oper} {o : Oper} {a : Act} {w : World} {Q : Exit → Act → World → Prop} (hgd : o.guard = none) (hd : o.dst = none) (x y : Operand) (ho : o.op = .store 146 x y)
  (g b j b' j' : Nat) (hx : a.eval x = .pointer (some ⟨g, 0, none⟩)) (hy : a.eval y = .agg (okc b' j')) (hg : Kb w g b j)
  (h : ∀ w', Kb w' g b' j' → w.grownBy w' (some g) → wpList Tryz.prog ops Q rest a w') : wpList Tryz.prog ops Q (o :: rest) a w := by
 have h' : ∀ w', Kb w' g b' j' → w.grownBy w' (some g) → wpList Tryz.prog ops Q rest (a.put o.dst undef) w' := by rw [hd]; exact h
 refine wpList_store_row hgd 146 x y ho g (okc b' j') hx hy 146 (okc b j) hg okinfo rfl (okc_one b' j') (h' _ ?_ ?_)
 ·exact setRow_heap w g _ _ 146 (0, 0) hg
 ·exact ⟨rfl, rfl, rfl, by simp [World.setRow], fun k _ hk => setRow_other w g k _ (fun e => hk (by simp [e]))⟩

set_option maxRecDepth 100000 in
theorem run_part_addrN (p : Nn) (w : World) : (part 45 (nnc p) 0).run Tryz.prog w = .ok (.int .u64 (p.addr : Nat)) w := run_part_plain w addr_plain rfl
set_option maxRecDepth 100000 in
theorem run_part_nxtN (p : Nn) (w : World) : (part 44 (nnc p) 5).run Tryz.prog w = .ok (.int .u64 (p.nxt : Nat)) w := run_part_plain w wu_plain rfl
set_option maxRecDepth 100000 in
theorem run_part_keyN (p : Nn) (w : World) : (part 75 (nnc p) 1).run Tryz.prog w = .ok (.agg (wc p.key)) w := by
 have hi : ∃ i, Tryz.prog.info? 75 = some i ∧ i.size = 4 := ⟨_, rfl, rfl⟩
 obtain ⟨i, h1, h2⟩ := hi
 simp [part, isAgg, run_underlying Tryz.underlying75, sizeOf, typeInfo, h1, h2, nnc, wc]
set_option maxRecDepth 100000 in
theorem nonce_fields : ∃ f0 f1 f2 : Field, (Tryz.prog.fieldsOf 112).toList = [f0, f1, f2] ∧ (f0.type = 45 ∧ f0.offset = 0 ∧ f0.name ≠ "_") ∧ (f1.type = 75 ∧ f1.offset = 1 ∧ f1.name ≠ "_") ∧ (f2.type = 44 ∧ f2.offset = 5 ∧ f2.name ≠ "_") :=
 ⟨_, _, _, rfl, ⟨rfl, rfl, by decide⟩, ⟨rfl, rfl, by decide⟩, ⟨rfl, rfl, by decide⟩⟩
set_option maxRecDepth 100000 in
theorem run_eq_nonce_in (p q : Nn) (hp : p.ok) (hq : q.ok) (w : World) : (Op.equalIn 10000 112 (.agg (nnc p)) (.agg (nnc q))).run Tryz.prog w = .ok (p.eqB q) w := by
 rw [run_equalIn_struct w 9999 112 _ _ Tryz.underlying112 (by kernel_rfl)]
 obtain ⟨f0, f1, f2, h, ⟨t0, o0, n0⟩, ⟨t1, o1, n1⟩, ⟨t2, o2, n2⟩⟩ := nonce_fields
 rw [h]
 unfold Nn.eqB
 simp only [Op.eqFields, t0, o0, n0, t1, o1, n1, t2, o2, n2, ne_eq, not_false_eq_true, if_true, Sem.run_bind, run_part_addrN, Result.andThen_ok, run_equalIn_int w 9998 _ _ _ _ _ Tryz.underlying45, int_beq]
 cases p.addr == q.addr with
 | false => simp
 | true =>
  simp only [Bool.not_true, Bool.false_eq_true, if_false, Sem.run_bind, run_part_keyN, Result.andThen_ok, run_eq_wordH p.key q.key hp.2.1 hq.2.1, Bool.true_and]
  cases p.key == q.key with
  | false => simp
  | true =>
   simp only [Bool.not_true, Bool.false_eq_true, if_false, Sem.run_bind, run_part_nxtN, Result.andThen_ok, run_equalIn_int w 9998 _ _ _ _ _ Tryz.underlying44, int_beq, Bool.true_and]
   cases p.nxt == q.nxt <;> simp
set_option maxRecDepth 100000 in
theorem nonce_guard : Tryz.prog.eqGuardType Tryz.prog.depth 112 = false := by kernel_rfl
set_option maxRecDepth 100000 in
theorem wpList_neq_nn {ops : Array Oper} {rest : List Oper} {o : Oper} {a : Act} {w : World} {Q : Exit → Act → World → Prop} (hgd : Region.wanted o (yielded ops a.tmps) = true) (x y : Operand) (ho : o.op = .binOp .neq 112 x y 112)
  (p q : Nn) (hp : p.ok) (hq : q.ok) (hx : a.eval x = .agg (nnc p)) (hy : a.eval y = .agg (nnc q)) (h : wpList Tryz.prog ops Q rest (a.put o.dst (.bool (!p.eqB q))) w) : wpList Tryz.prog ops Q (o :: rest) a w := by
 refine wpList_step fun K hK => ?_
 rw [if_pos hgd]
 unfold Oper.wp
 simp only [execOp, ho, hx, hy, Sem.run_bind, run_eqGuard_agg w .neq 112 x y (nnc p) (nnc q) nonce_guard, Result.andThen_ok, run_neq_struct, run_eq_nonce_in p q hp hq]
 exact hK _ _ h
end Go.Proofs.YtnjpdchmdimaaaaGreat
namespace Go.Proofs.YtnjpdchmdimaaaaGreat
open Go.ChangeShapes Go.WideShapes Go.ChangeAt Go.RowKit Go.Shelf

def keyB (n : Nat) : Bool := lb n 3 == 0
set_option maxRecDepth 100000 in
set_option maxHeartbeats 1000000 in
theorem isKey_any (n : Nat) (w : World) : Calls Tryz.prog 127 #[wv n] w fun e w' => e = .returned (.bool (keyB n)) ∧ Ext w w' := by
 unfold wv
 obtain ⟨w1, hw1⟩ : ∃ w1, w.alloc (.cells (wc n) 75) = w1 := ⟨_, rfl⟩
 have HW1 := Lib.hid hw1
 have k0 : Wd w1 w.heap.size 75 n := by rw [← hw1]; exact Cs.new w _ _ _ rfl
 have HE : Hid (Ext w w1) := Lib.hid (by rw [← hw1]; exact (Ext.refl w).alloc _)
 clear hw1
 have c3 := k0.cell 3 (by decide)
 clear k0
 go_enter Tryz.func127, Tryz.ntmps127
 go_upto_region 1 with fail
 rw [HW1.out]
 clear HW1
 have HK : Hid (keyB n = ((lb n 3 : Int) == 0)) := Lib.hid (by unfold keyB; rw [← int_beq]; rfl)
 generalize lb n 3 = x at *
 go_wp2_with fail
 go_ret
 exact ⟨by rw [HK.out]; rfl, HE.out⟩
set_option maxRecDepth 100000 in
theorem results_ok {fn : Func} {q : Tmp} (h : fn.results = #[.cell q 146]) (tmps : Array Value) (w : World) (g a k : Nat) (hp : tmps.getD q undef = .pointer (some ⟨g, 0, none⟩)) (hg : Kb w g a k) : (results fn tmps).run Tryz.prog w = .ok (.agg (okc a k)) w :=
 results_cell_row h tmps w g 146 (okc a k) (0, 0) _ hp hg Tryz.underlying146 rfl okinfo
set_option maxRecDepth 100000 in
set_option maxHeartbeats 1000000 in
theorem keyOf_any (p : Nn) (w : World) : Calls Tryz.prog 95 #[.agg (nnc p)] w fun e w' => e = .returned (.agg (okc p.addr p.key)) ∧ Ext w w' := by
 obtain ⟨w1, hw1⟩ : ∃ w1, (w.alloc (.cells (nnc p) 112)).alloc (.cells (okc 0 0) 146) = w1 := ⟨_, rfl⟩
 have HW1 := Lib.hid hw1
 have HP : Hid (Nb6 w1 w.heap.size p) := Lib.hid (by rw [← hw1]; exact Cs.alloc (Cs.new _ _ _ _ rfl) _)
 have HZ : Hid (Kb w1 (w.heap.size + 1) 0 0) := Lib.hid (by rw [← hw1]; exact Cs.new _ _ _ _ (by simp))
 have HE : Hid (Ext w w1) := Lib.hid (by rw [← hw1]; exact ((Ext.refl w).alloc _).alloc _)
 clear hw1
 have c0 := HP.out.addr
 have HKY := Lib.hid HP.out.key
 obtain ⟨cs, hcs⟩ : ∃ cs, nnc p = cs := ⟨_, rfl⟩
 rw [hcs] at HW1 ⊢
 clear hcs
 obtain ⟨ad, ky, nx⟩ := p
 dsimp only at *
 go_enter Tryz.func95, Tryz.ntmps95
 go_upto_region 1 with fail
 rw [show (w.alloc (.cells cs 112)).alloc (.cells #[.int .u64 0, .int .u64 0, .int .u64 0, .int .u64 0, .int .u64 0] 146) = w1 from HW1.out]
 clear HW1
 go_wp2_with (first
  | ((with_reducible refine wpList_load_wordIn ?_ (.tmp 5) ?_ w.heap.size 1 ky ?_ ?_ ?_); (exact rfl); (exact rfl); (exact rfl); (exact HKY.out); (unfold wv wc))
  | ((with_reducible refine wpList_store_ok ?_ ?_ (.tmp 2) (.tmp 7) ?_ (w.heap.size + 1) 0 0 ad ky ?_ ?_ ?_ ?_); (exact rfl); (exact rfl); (exact rfl); (exact rfl); (exact rfl); (exact HZ.out); intro w9 k9 g9; have K9 := Lib.hid k9; have G9 := Lib.hid g9; clear k9 g9))
 refine bodyPost_ret (results_ok Tryz.results95 _ _ (w.heap.size + 1) ad ky rfl K9.out) rfl ?_
 exact ⟨rfl, HE.out.grown G9.out (by omega)⟩
def Nn.mayB (p : Nn) : Bool := p.addr != 0 && (keyB p.key && decide (0 < p.nxt))
set_option maxRecDepth 100000 in
set_option maxHeartbeats 1000000 in
theorem mayBeN_any (p : Nn) (w : World) : Calls Tryz.prog 93 #[.agg (nnc p)] w fun e w' => e = .returned (.bool p.mayB) ∧ Ext w w' := by
 obtain ⟨w1, hw1⟩ : ∃ w1, w.alloc (.cells (nnc p) 112) = w1 := ⟨_, rfl⟩
 have HW1 := Lib.hid hw1
 have HP : Hid (Nb6 w1 w.heap.size p) := Lib.hid (by rw [← hw1]; exact Cs.new _ _ _ _ rfl)
 have HE : Hid (Ext w w1) := Lib.hid (by rw [← hw1]; exact (Ext.refl w).alloc _)
 clear hw1
 have c0 := HP.out.addr
 have HKY := Lib.hid HP.out.key
 have HM : Hid (p.mayB = (p.addr != 0 && (keyB p.key && decide (0 < p.nxt)))) := Lib.hid rfl
 obtain ⟨cs, hcs⟩ : ∃ cs, nnc p = cs := ⟨_, rfl⟩
 rw [hcs] at HW1 ⊢
 clear hcs
 obtain ⟨ad, ky, nx⟩ := p
 dsimp only at *
 go_enter Tryz.func93, Tryz.ntmps93
 go_upto_region 1 with fail
 rw [HW1.out]
 clear HW1
 by_cases h0 : ad = 0
 ·have f0 : (((ad : Nat) : Int) != 0) = false := by simp [h0]
  have H0 := Lib.hid h0
  clear h0
  go_wp2_with fail
  go_ret
  exact ⟨by rw [HM.out, H0.out]; rfl, HE.out⟩
 ·have f0 : (((ad : Nat) : Int) != 0) = true := by simp; omega
  have H0 := Lib.hid (show (ad != 0) = true by simpa using h0)
  clear h0
  go_wp2_with (first
   | ((with_reducible refine wpList_load_wordIn ?_ (.tmp 7) ?_ w.heap.size 1 ky ?_ ?_ ?_); (exact rfl); (exact rfl); (exact rfl); (exact HKY.out)))
  refine (isKey_any ky _).mono ?_
  rintro e w2 ⟨rfl, he⟩
  have HE2 := Lib.hid (HE.out.trans he)
  have c5 := (HP.out.ext he).nxt
  clear he c0
  cases hb : keyB ky with
  | false =>
   have HB := Lib.hid hb
   clear hb
   go_wp2_with fail
   go_ret
   exact ⟨by rw [HM.out, H0.out, HB.out]; rfl, HE2.out⟩
  | true =>
   have HB := Lib.hid hb
   clear hb
   by_cases h1 : 0 < nx
   ·have f1 : decide (0 < nx) = true := decide_eq_true h1
    have f2 : decide ((0 : Int) < ((nx : Nat) : Int)) = true := decide_eq_true (by omega)
    have H1 := Lib.hid f1
    clear h1
    go_wp2_with fail
    go_ret
    exact ⟨by rw [HM.out, H0.out, HB.out, H1.out]; rfl, HE2.out⟩
   ·have f1 : decide (0 < nx) = false := decide_eq_false h1
    have f2 : decide ((0 : Int) < ((nx : Nat) : Int)) = false := decide_eq_false (by omega)
    have H1 := Lib.hid f1
    clear h1
    go_wp2_with fail
    go_ret
    exact ⟨by rw [HM.out, H0.out, HB.out, H1.out]; rfl, HE2.out⟩
end Go.Proofs.YtnjpdchmdimaaaaGreat
