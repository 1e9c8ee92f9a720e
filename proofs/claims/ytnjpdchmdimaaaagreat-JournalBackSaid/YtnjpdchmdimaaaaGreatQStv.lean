/- Package state: slots, accounts, states that are the same. -/
import Derived.Test.YtnjpdchmdimaaaaGreatQStb
import Derived.Test.YtnjpdchmdimaaaaGreatQByt
import Derived.ChangeKeysEq
import Derived.Laws.StructEq
namespace Go.Proofs.YtnjpdchmdimaaaaGreat
open Go.ChangeShapes Go.WideShapes Go.ChangeAt Go.RowKit Go.Shelf

set_option maxRecDepth 100000 in
theorem run_part_key (p : Nat × Nat) (w : World) : (part 75 (pkc p) 0).run Tryz.prog w = .ok (.agg (wc p.1)) w := by
 have hi : ∃ i, Tryz.prog.info? 75 = some i ∧ i.size = 4 := ⟨_, rfl, rfl⟩
 obtain ⟨i, h1, h2⟩ := hi
 simp [part, isAgg, run_underlying Tryz.underlying75, sizeOf, typeInfo, h1, h2, pkc, wc]
set_option maxRecDepth 100000 in
theorem run_part_val (p : Nat × Nat) (w : World) : (part 75 (pkc p) 4).run Tryz.prog w = .ok (.agg (wc p.2)) w := by
 have hi : ∃ i, Tryz.prog.info? 75 = some i ∧ i.size = 4 := ⟨_, rfl, rfl⟩
 obtain ⟨i, h1, h2⟩ := hi
 simp [part, isAgg, run_underlying Tryz.underlying75, sizeOf, typeInfo, h1, h2, pkc, wc]
set_option maxRecDepth 100000 in
theorem run_eqItems_word_in (d a b : Nat) (w : World) : ∀ is : List Nat, (∀ i ∈ is, i < 4) → (Op.eqItems (d + 1) 44 1 (wc a) (wc b) is).run Tryz.prog w = .ok (is.all fun i => lb a i == lb b i) w
 | [], _ => by simp [Op.eqItems]
 | i :: is, h => by
  have ih := run_eqItems_word_in d a b w is (fun j hj => h j (List.mem_cons_of_mem _ hj))
  simp only [Op.eqItems, Sem.run_bind, run_part_word a i (h i List.mem_cons_self), run_part_word b i (h i List.mem_cons_self), Result.andThen_ok, lv, run_equalIn_int w d _ _ _ _ _ Tryz.underlying44]
  by_cases hb : lb a i = lb b i
  ·have : ((lb a i : Int) == (lb b i : Int)) = true := by simp [hb]
   rw [this]
   simp [ih, hb]
  ·have : ((lb a i : Int) == (lb b i : Int)) = false := by simp; omega
   rw [this]
   simp [hb]
set_option maxRecDepth 100000 in
theorem run_eq_word_in (a b : Nat) (ha : a < M256) (hb : b < M256) (w : World) : (Op.equalIn 9999 75 (.agg (wc a)) (.agg (wc b))).run Tryz.prog w = .ok (a == b) w := by
 obtain ⟨i, hi⟩ := wu_info
 have h := run_equalIn_array w 9998 (wc a) (wc b) Tryz.underlying75 hi
 rw [wu_cells, run_eqItems_word_in 9997 a b w (List.range 4) (fun i hi => List.mem_range.1 hi), all_lb a b ha hb] at h
 exact h
set_option maxRecDepth 100000 in
theorem pair_fields : ∃ f0 f1 : Field, (Tryz.prog.fieldsOf 106).toList = [f0, f1] ∧ f0.type = 75 ∧ f0.offset = 0 ∧ f1.type = 75 ∧ f1.offset = 4 ∧ f0.name ≠ "_" ∧ f1.name ≠ "_" := ⟨_, _, rfl, rfl, rfl, rfl, rfl, by decide, by decide⟩
set_option maxRecDepth 100000 in
theorem run_eq_pair_in (p q : Nat × Nat) (hp : p.1 < M256 ∧ p.2 < M256) (hq : q.1 < M256 ∧ q.2 < M256) (w : World) : (Op.equalIn 10000 106 (.agg (pkc p)) (.agg (pkc q))).run Tryz.prog w = .ok (p == q) w := by
 rw [run_equalIn_struct w 9999 106 _ _ Tryz.underlying106 (by kernel_rfl)]
 obtain ⟨f0, f1, h, t0, o0, t1, o1, n0, n1⟩ := pair_fields
 rw [h]
 have e : (p == q) = (p.1 == q.1 && p.2 == q.2) := by cases p; cases q; rfl
 simp only [Op.eqFields, t0, o0, t1, o1, n0, n1, ne_eq, not_false_eq_true, if_true, Sem.run_bind, run_part_key, Result.andThen_ok, run_eq_word_in p.1 q.1 hp.1 hq.1, e]
 cases p.1 == q.1 with
 | false => simp
 | true =>
  simp only [Bool.not_true, Bool.false_eq_true, if_false, Sem.run_bind, run_part_val, Result.andThen_ok, run_eq_word_in p.2 q.2 hp.2 hq.2, Bool.true_and]
  cases p.2 == q.2 <;> simp
set_option maxRecDepth 100000 in
theorem run_neq_pair (p q : Nat × Nat) (hp : p.1 < M256 ∧ p.2 < M256) (hq : q.1 < M256 ∧ q.2 < M256) (w : World) : (binOp .neq 106 (.agg (pkc p)) (.agg (pkc q))).run Tryz.prog w = .ok (.bool (p != q)) w := by
 rw [run_neq_struct, run_eq_pair_in p q hp hq]
 rfl
set_option maxRecDepth 100000 in
theorem pair_guard : Tryz.prog.eqGuardType Tryz.prog.depth 106 = false := by kernel_rfl
set_option maxRecDepth 100000 in
theorem wpList_neq_pair {ops : Array Oper} {rest : List Oper} {o : Oper} {a : Act} {w : World} {Q : Exit → Act → World → Prop} (hgd : Region.wanted o (yielded ops a.tmps) = true) (x y : Operand) (ho : o.op = .binOp .neq 106 x y 106)
  (p q : Nat × Nat) (hp : p.1 < M256 ∧ p.2 < M256) (hq : q.1 < M256 ∧ q.2 < M256) (hx : a.eval x = .agg (pkc p)) (hy : a.eval y = .agg (pkc q)) (h : wpList Tryz.prog ops Q rest (a.put o.dst (.bool (p != q))) w) : wpList Tryz.prog ops Q (o :: rest) a w := by
 refine wpList_step fun K hK => ?_
 rw [if_pos hgd]
 unfold Oper.wp
 simp only [execOp, ho, hx, hy, Sem.run_bind, run_eqGuard_agg w .neq 106 x y (pkc p) (pkc q) pair_guard, Result.andThen_ok, run_neq_pair p q hp hq]
 exact hK _ _ h
def SqJ (w : World) (b1 o1 : Nat) (p : Nat × Nat) (b2 o2 : Nat) (q : Nat × Nat) (W : World) : Prop := W.rangeAt b1 o1 (pkc p).toList ∧ W.rangeAt b2 o2 (pkc q).toList ∧ Ext w W
theorem SqJ.ext {w : World} {b1 o1 b2 o2 : Nat} {p q : Nat × Nat} {W W' : World} (h : SqJ w b1 o1 p b2 o2 q W) (he : Ext W W') : SqJ w b1 o1 p b2 o2 q W' := ⟨fun j x hx => he.cell (h.1 j x hx), fun j x hx => he.cell (h.2.1 j x hx), h.2.2.trans he⟩
theorem lst_ne {α : Type} [BEq α] [LawfulBEq α] (a b : List α) (k : Nat) (d : α) (hn : (a.getD k d == b.getD k d) = false) : (a == b) = false := by
 rw [beq_eq_false_iff_ne]
 rintro rfl
 simp at hn
theorem lst_eq {α : Type} [BEq α] [LawfulBEq α] (a b : List α) (d : α) (hl : a.length = b.length) (h : ∀ i, i < a.length → a.getD i d = b.getD i d) : (a == b) = true := by
 rw [beq_iff_eq]
 apply List.ext_getElem hl
 intro i h1 h2
 have := h i h1
 rwa [List.getD, List.getElem?_eq_getElem h1, List.getD, List.getElem?_eq_getElem h2] at this
set_option maxRecDepth 100000 in
set_option maxHeartbeats 2000000 in
theorem equalP_any (v1 v2 : Value) (a b : List (Nat × Nat)) (w : World) (h1 : Pks w v1 a) (h2 : Pks w v2 b) : Calls Tryz.prog 103 #[v1, v2] w fun e w' => e = .returned (.bool (a == b)) ∧ Ext w w' := by
 have H1 := Lib.hid h1
 have H2 := Lib.hid h2
 have HWA := Lib.hid h1.words
 have HWB := Lib.hid h2.words
 obtain ⟨A1, c, rfl, p1, p2⟩ := h1.len
 obtain ⟨A2, c', rfl, q1, q2⟩ := h2.len
 unfold maxLen at p2 q2
 clear h1 h2
 by_cases hl : a.length = b.length
 ·have hd : ((a.length : Int) != (b.length : Int)) = false := by simp [hl]
  have HNE := Lib.hid (fun k h => lst_ne a b k (0, 0) h)
  have HEQ := Lib.hid (fun h => lst_eq a b (0, 0) hl h)
  have HL := Lib.hid hl
  clear hl
  go_enter Tryz.func103, Tryz.ntmps103
  go_wp2_with fail
  go_loopw [13] (fun u wr => ∃ k : Nat, k ≤ a.length ∧ u = .int .i64 k ∧ Hid (∀ i, i < k → a.getD i (0, 0) = b.getD i (0, 0)) ∧ Hid (Ext w wr)) (fun u _ => a.length - (intOf u).toNat)
  case atStart => exact ⟨0, by omega, rfl, Lib.hid fun i hi => absurd hi (by omega), Lib.hid (Ext.refl w)⟩
  case round =>
   obtain ⟨k, hk, rfl, HS, HE⟩ := hrel
   by_cases hlt : k < a.length
   ·have hdk : decide (k < a.length) = true := decide_eq_true hlt
    have hkb : k < b.length := by have := HL.out; omega
    have hdb : decide (k < b.length) = true := decide_eq_true hkb
    obtain ⟨b1, o1, rfl, hr1, hw1, hw1'⟩ := (H1.out.ext HE.out).at k hlt
    obtain ⟨b2, o2, rfl, hr2, hw2, hw2'⟩ := (H2.out.ext HE.out).at k hkb
    have HW1 := Lib.hid (And.intro hw1 hw1')
    have HW2 := Lib.hid (And.intro hw2 hw2')
    have HNX := Lib.hid (fun (h : (a.getD k (0, 0) == b.getD k (0, 0)) = true) i (hi : i < k + 1) => (show a.getD i (0, 0) = b.getD i (0, 0) from by
     by_cases e : i = k
     ·rw [e]; simpa using h
     ·exact HS.out i (by omega)))
    have HNK := Lib.hid (HNE.out k)
    have HJ0 : Hid (SqJ w b1 (o1 + k * 8) (a.getD k (0, 0)) b2 (o2 + k * 8) (b.getD k (0, 0)) wr) := Lib.hid ⟨hr1, hr2, HE.out⟩
    clear hr1 hw1 hr2 hw2 hw1' hw2'
    generalize a.getD k (0, 0) = p at *
    generalize b.getD k (0, 0) = q at *
    obtain ⟨rb, hrb⟩ : ∃ rb, (p == q) = rb := ⟨_, rfl⟩
    have HRB := Lib.hid hrb
    have HRN := Lib.hid (show (p != q) = !rb by rw [bne, hrb])
    clear hrb
    go_upto_region 6 with fail
    refine wp_named fun a0 ha0 => ?_
    obtain ⟨fr, hfr⟩ : ∃ fr : (Nat → Value) → Act, ∀ V, fr V = (((((((((a0.put (some 16) (V 0)).put (some 17) (V 1)).put (some 18) (V 2)).put (some 19) (V 3)).put (some 20) (V 4)).put (some 21) (V 5)).put (some 22) (V 6)).put (some 23) (V 7)).put (some 24) (V 8)) := ⟨_, fun _ => rfl⟩
    rw [ha0] at hfr
    simp only [Act.put, List.setIfInBounds_toArray, List.set_cons_zero, List.set_cons_succ] at hfr
    have HFR := Lib.hid hfr
    clear hfr
    refine wp_region_inv (by kernel_rfl) (by kernel_rfl) (fun L A W => ∃ V : Nat → Value, A = fr V ∧ Vals (fun j => ([some (.slice (some ⟨b1, o1, none⟩) a.length c), some (.int .i64 (k : Nat)), some (.pointer (some ⟨b1, o1 + k * 8, none⟩)), some (.agg (pkc p)), some (.slice (some ⟨b2, o2, none⟩) b.length c'), some (.int .i64 (k : Nat)), some (.pointer (some ⟨b2, o2 + k * 8, none⟩)), some (.agg (pkc q)), some (.bool (!rb))] : List (Option Value)).getD j none) L V ∧ (SqJ w b1 (o1 + k * 8) p b2 (o2 + k * 8) q W)) ?_ ⟨?_, ?_, ?_, ?_, ?_, ?_, ?_, ?_, ?_, trivial⟩ ?_
    ·refine ⟨fun j => a0.tmps.getD (([16, 17, 18, 19, 20, 21, 22, 23, 24] : List Nat).getD j 0) undef, ?_, Vals.no _ _ _ (far_none _ _ rfl), HJ0.out.ext (Ext.refl _).drew⟩
     rw [HFR.out, ha0]
     rfl
    all_goals clear ha0
    ·rintro L A W K hL hC hW ⟨V, rfl, HV, s0⟩ hK
     have H := Lib.hid (show ∀ W', Ext W W' → K (fr (upd V 0 (.slice (some ⟨b1, o1, none⟩) a.length c))) W' from fun W' he => hK _ _ ⟨_, rfl, HV.us 0 _ rfl, SqJ.ext s0 he⟩)
     clear hK hC hW hL HV s0
     rw [HFR.out]
     go_wp2_with fail
     show K _ _; have := H.out _ (Ext.refl _); rw [HFR.out] at this
     exact this
    ·rintro L A W K hL hC hW ⟨V, rfl, HV, s0⟩ hK
     have H := Lib.hid (show ∀ W', Ext W W' → K (fr (upd V 1 (.int .i64 (k : Nat)))) W' from fun W' he => hK _ _ ⟨_, rfl, HV.us 1 _ rfl, SqJ.ext s0 he⟩)
     clear hK hC hW hL HV s0
     rw [HFR.out]
     go_wp2_with fail
     show K _ _; have := H.out _ (Ext.refl _); rw [HFR.out] at this
     exact this
    ·rintro L A W K hL hC hW ⟨V, rfl, HV, s0⟩ hK
     have e0 := HV 0 _ rfl (hW 0 rfl)
     have e1 := HV 1 _ rfl (hW 1 rfl)
     have H := Lib.hid (show ∀ W', Ext W W' → K (fr (upd V 2 (.pointer (some ⟨b1, o1 + k * 8, none⟩)))) W' from fun W' he => hK _ _ ⟨_, rfl, HV.us 2 _ rfl, SqJ.ext s0 he⟩)
     have HU := Lib.hid (show (upd V 2 (.pointer (some ⟨b1, o1 + k * 8, none⟩))) 0 = .slice (some ⟨b1, o1, none⟩) a.length c ∧ (upd V 2 (.pointer (some ⟨b1, o1 + k * 8, none⟩))) 1 = .int .i64 (k : Nat) from ⟨e0, e1⟩)
     clear hK hC hW hL HV s0
     rw [HFR.out, e0, e1]
     clear e0 e1
     go_wp2_with fail
     show K _ _; have := H.out _ (Ext.refl _); rw [HFR.out] at this
     obtain ⟨u0, u1⟩ := HU.out
     rw [u0, u1] at this
     exact this
    ·rintro L A W K hL hC hW ⟨V, rfl, HV, s0⟩ hK
     have e2 := HV 2 _ rfl (hW 2 rfl)
     have hB := s0
     have H := Lib.hid (show ∀ W', Ext W W' → K (fr (upd V 3 (.agg (pkc p)))) W' from fun W' he => hK _ _ ⟨_, rfl, HV.us 3 _ rfl, SqJ.ext s0 he⟩)
     have HU := Lib.hid (show (upd V 3 (.agg (pkc p))) 2 = .pointer (some ⟨b1, o1 + k * 8, none⟩) from e2)
     clear hK hC hW hL HV s0
     rw [HFR.out, e2]
     clear e2
     have HWD := Lib.hid hB.1
     clear hB
     refine wpList_load_pair rfl (.tmp 18) rfl b1 (o1 + k * 8) p rfl HWD.out ?_
     show K _ _; have := H.out _ (Ext.refl _); rw [HFR.out] at this
     obtain u2 := HU.out
     rw [u2] at this
     exact this
    ·rintro L A W K hL hC hW ⟨V, rfl, HV, s0⟩ hK
     have H := Lib.hid (show ∀ W', Ext W W' → K (fr (upd V 4 (.slice (some ⟨b2, o2, none⟩) b.length c'))) W' from fun W' he => hK _ _ ⟨_, rfl, HV.us 4 _ rfl, SqJ.ext s0 he⟩)
     clear hK hC hW hL HV s0
     rw [HFR.out]
     go_wp2_with fail
     show K _ _; have := H.out _ (Ext.refl _); rw [HFR.out] at this
     exact this
    ·rintro L A W K hL hC hW ⟨V, rfl, HV, s0⟩ hK
     have H := Lib.hid (show ∀ W', Ext W W' → K (fr (upd V 5 (.int .i64 (k : Nat)))) W' from fun W' he => hK _ _ ⟨_, rfl, HV.us 5 _ rfl, SqJ.ext s0 he⟩)
     clear hK hC hW hL HV s0
     rw [HFR.out]
     go_wp2_with fail
     show K _ _; have := H.out _ (Ext.refl _); rw [HFR.out] at this
     exact this
    ·rintro L A W K hL hC hW ⟨V, rfl, HV, s0⟩ hK
     have e4 := HV 4 _ rfl (hW 4 rfl)
     have e5 := HV 5 _ rfl (hW 5 rfl)
     have H := Lib.hid (show ∀ W', Ext W W' → K (fr (upd V 6 (.pointer (some ⟨b2, o2 + k * 8, none⟩)))) W' from fun W' he => hK _ _ ⟨_, rfl, HV.us 6 _ rfl, SqJ.ext s0 he⟩)
     have HU := Lib.hid (show (upd V 6 (.pointer (some ⟨b2, o2 + k * 8, none⟩))) 4 = .slice (some ⟨b2, o2, none⟩) b.length c' ∧ (upd V 6 (.pointer (some ⟨b2, o2 + k * 8, none⟩))) 5 = .int .i64 (k : Nat) from ⟨e4, e5⟩)
     clear hK hC hW hL HV s0
     rw [HFR.out, e4, e5]
     clear e4 e5
     go_wp2_with fail
     show K _ _; have := H.out _ (Ext.refl _); rw [HFR.out] at this
     obtain ⟨u4, u5⟩ := HU.out
     rw [u4, u5] at this
     exact this
    ·rintro L A W K hL hC hW ⟨V, rfl, HV, s0⟩ hK
     have e6 := HV 6 _ rfl (hW 6 rfl)
     have hB := s0
     have H := Lib.hid (show ∀ W', Ext W W' → K (fr (upd V 7 (.agg (pkc q)))) W' from fun W' he => hK _ _ ⟨_, rfl, HV.us 7 _ rfl, SqJ.ext s0 he⟩)
     have HU := Lib.hid (show (upd V 7 (.agg (pkc q))) 6 = .pointer (some ⟨b2, o2 + k * 8, none⟩) from e6)
     clear hK hC hW hL HV s0
     rw [HFR.out, e6]
     clear e6
     have HWD := Lib.hid hB.2.1
     clear hB
     refine wpList_load_pair rfl (.tmp 22) rfl b2 (o2 + k * 8) q rfl HWD.out ?_
     show K _ _; have := H.out _ (Ext.refl _); rw [HFR.out] at this
     obtain u6 := HU.out
     rw [u6] at this
     exact this
    ·rintro L A W K hL hC hW ⟨V, rfl, HV, s0⟩ hK
     have e3 := HV 3 _ rfl (hW 3 rfl)
     have e7 := HV 7 _ rfl (hW 7 rfl)
     have hB := s0
     have H := Lib.hid (show ∀ W', Ext W W' → K (fr (upd V 8 (.bool (!rb)))) W' from fun W' he => hK _ _ ⟨_, rfl, HV.us 8 _ rfl, SqJ.ext s0 he⟩)
     have HU := Lib.hid (show (upd V 8 (.bool (!rb))) 3 = .agg (pkc p) ∧ (upd V 8 (.bool (!rb))) 7 = .agg (pkc q) from ⟨e3, e7⟩)
     clear hK hC hW hL HV s0
     rw [HFR.out, e3, e7]
     clear e3 e7
     clear hB
     refine wpList_neq_pair rfl (.tmp 19) (.tmp 23) rfl p q HW1.out HW2.out rfl rfl ?_
     rw [HRN.out]
     show K _ _; have := H.out _ (Ext.refl _); rw [HFR.out] at this
     obtain ⟨u3, u7⟩ := HU.out
     rw [u3, u7] at this
     exact this
    ·rintro L A W hL ⟨V, rfl, HV, s0⟩
     have e0 := HV 0 _ rfl (hL 0 (by simp))
     have e1 := HV 1 _ rfl (hL 1 (by simp))
     have e2 := HV 2 _ rfl (hL 2 (by simp))
     have e3 := HV 3 _ rfl (hL 3 (by simp))
     have e4 := HV 4 _ rfl (hL 4 (by simp))
     have e5 := HV 5 _ rfl (hL 5 (by simp))
     have e6 := HV 6 _ rfl (hL 6 (by simp))
     have e7 := HV 7 _ rfl (hL 7 (by simp))
     have e8 := HV 8 _ rfl (hL 8 (by simp))
     have hA := s0
     rw [HFR.out, e0, e1, e2, e3, e4, e5, e6, e7, e8]
     clear hL HV HFR e0 e1 e2 e3 e4 e5 e6 e7 e8 s0
     have HEJ := Lib.hid hA.2.2
     clear hA
     cases rb with
     | true =>
      have HN := Lib.hid (HNX.out HRB.out)
      go_wp2_with fail
      exact ⟨⟨k + 1, by omega, by go_num, HN, HEJ⟩, by simp [intOf]; omega⟩
     | false =>
      have HF := Lib.hid (HNK.out HRB.out)
      go_wp2_with fail
      go_ret
      exact ⟨by rw [HF.out]; rfl, HEJ.out⟩
   ·obtain rfl : k = a.length := by omega
    have HF := Lib.hid (HEQ.out HS.out)
    go_wp2_with fail
    go_ret
    exact ⟨by rw [HF.out]; rfl, HE.out⟩
 ·have hd : ((a.length : Int) != (b.length : Int)) = true := by simp; omega
  have HF := Lib.hid (show (a == b) = false from by
   rw [beq_eq_false_iff_ne]
   rintro rfl
   exact hl rfl)
  go_enter Tryz.func103, Tryz.ntmps103
  go_wp2_with fail
  go_ret
  exact ⟨by rw [HF.out]; rfl, Ext.refl _⟩

def Ac.eqB (p q : Ac) : Bool := decide (p.addr = q.addr) && (decide (p.bal = q.bal) && (decide (p.nonce = q.nonce) && ((p.code == q.code) && (p.store == q.store))))
theorem Ac.eqB_iff (p q : Ac) : p.eqB q = true ↔ p = q := by
 obtain ⟨a, b, c, d, e⟩ := p
 obtain ⟨a', b', c', d', e'⟩ := q
 unfold Ac.eqB
 simp [Ac.mk.injEq]
set_option maxRecDepth 100000 in
set_option maxHeartbeats 4000000 in
theorem same1_any' (p q : Ac) (u v u' v' : Value) (w : World) (hp : p.ok) (hq : q.ok) (hu : Bs w u p.code) (hv : Pks w v p.store) (hu' : Bs w u' q.code) (hv' : Pks w v' q.store) :
  Calls Tryz.prog 101 #[.agg (acc p u v), .agg (acc q u' v')] w fun e w' => e = .returned (.bool (p.eqB q)) ∧ Ext w w' := by
 have HDEF : Hid (p.eqB q = (decide (p.addr = q.addr) && (decide (p.bal = q.bal) && (decide (p.nonce = q.nonce) && ((p.code == q.code) && (p.store == q.store)))))) := Lib.hid rfl
 have HK : Hid (Ab ((w.alloc (.cells (acc p u v) 79)).alloc (.cells (acc q u' v') 79)) w.heap.size p u v) := Lib.hid (Cs.alloc (Cs.new _ _ _ _ rfl) _)
 have HQ : Hid (Ab ((w.alloc (.cells (acc p u v) 79)).alloc (.cells (acc q u' v') 79)) (w.heap.size + 1) q u' v') := Lib.hid (Cs.new _ _ _ _ (by simp))
 have HE := Lib.hid (((Ext.refl w).alloc (.cells (acc p u v) 79)).alloc (.cells (acc q u' v') 79))
 have HU := Lib.hid hu
 have HV := Lib.hid hv
 have HU' := Lib.hid hu'
 have HV' := Lib.hid hv'
 obtain ⟨w0, hw0⟩ : ∃ w0, (w.alloc (.cells (acc p u v) 79)).alloc (.cells (acc q u' v') 79) = w0 := ⟨_, rfl⟩
 rw [hw0] at HK HQ HE
 obtain ⟨cp, hcp⟩ : ∃ cp, acc p u v = cp := ⟨_, rfl⟩
 obtain ⟨cq, hcq⟩ : ∃ cq, acc q u' v' = cq := ⟨_, rfl⟩
 rw [hcp, hcq] at hw0 ⊢
 have HW0 := Lib.hid hw0
 have c0 := HK.out.addr
 have c2 := HK.out.nonce
 have c3 := HK.out.code
 have c4 := HK.out.store
 have d0 := HQ.out.addr
 have d2 := HQ.out.nonce
 have d3 := HQ.out.code
 have d4 := HQ.out.store
 have HPB := Lib.hid hp.2.1
 have HQB := Lib.hid hq.2.1
 clear hu hv hu' hv' hcp hcq hw0
 go_enter Tryz.func101, Tryz.ntmps101
 go_upto_region 1 with fail
 rw [HW0.out]
 clear HW0
 by_cases e0 : p.addr = q.addr
 ·have x0 : ((p.addr : Int) == (q.addr : Int)) = true := by simp [e0]
  by_cases e1 : p.bal = q.bal
  ·have HB := Lib.hid (show (p.bal == q.bal) = true by simp [e1])
   by_cases e2 : p.nonce = q.nonce
   ·have x2 : ((p.nonce : Int) == (q.nonce : Int)) = true := by simp [e2]
    have HDEF := Lib.hid (show p.eqB q = ((p.code == q.code) && (p.store == q.store)) by rw [HDEF.out]; simp [e0, e1, e2])
    clear e0 e1 e2
    go_wp2_with (first
     | ((with_reducible refine wpList_load_wordIn ?_ (.tmp 11) ?_ w.heap.size 1 p.bal ?_ ?_ ?_); (exact rfl); (exact rfl); (exact rfl); (exact HK.out.bal))
     | ((with_reducible refine wpList_load_wordIn ?_ (.tmp 13) ?_ (w.heap.size + 1) 1 q.bal ?_ ?_ ?_); (exact rfl); (exact rfl); (exact rfl); (exact HQ.out.bal))
     | ((with_reducible refine wpList_eql_word ?_ (.tmp 12) (.tmp 14) ?_ p.bal q.bal HPB.out HQB.out ?_ ?_ ?_); (exact rfl); (exact rfl); (exact rfl); (exact rfl); rw [HB.out]))
    refine (bytesEqual_any u u' p.code q.code _ (HU.out.ext HE.out) (HU'.out.ext HE.out)).mono ?_
    rintro e w1 ⟨rfl, rfl⟩
    cases hc : (p.code == q.code) with
    | false =>
     rw [hc] at HDEF
     clear hc
     go_wp2_with fail
     go_ret
     exact ⟨by rw [HDEF.out]; rfl, HE.out⟩
    | true =>
     rw [hc] at HDEF
     clear hc
     go_wp2_with fail
     refine (equalP_any v v' p.store q.store _ (HV.out.ext HE.out) (HV'.out.ext HE.out)).mono ?_
     rintro e w2 ⟨rfl, he⟩
     have HE2 := Lib.hid (HE.out.trans he)
     clear he
     obtain ⟨s, hs⟩ : ∃ s, (p.store == q.store) = s := ⟨_, rfl⟩
     rw [hs] at HDEF ⊢
     clear hs
     go_wp2_with fail
     go_ret
     exact ⟨by rw [HDEF.out]; rfl, HE2.out⟩
   ·have x2 : ((p.nonce : Int) == (q.nonce : Int)) = false := by simp; omega
    have HF := Lib.hid (show p.eqB q = false by rw [HDEF.out]; simp [e2])
    clear e0 e1 e2
    go_wp2_with (first
     | ((with_reducible refine wpList_load_wordIn ?_ (.tmp 11) ?_ w.heap.size 1 p.bal ?_ ?_ ?_); (exact rfl); (exact rfl); (exact rfl); (exact HK.out.bal))
     | ((with_reducible refine wpList_load_wordIn ?_ (.tmp 13) ?_ (w.heap.size + 1) 1 q.bal ?_ ?_ ?_); (exact rfl); (exact rfl); (exact rfl); (exact HQ.out.bal))
     | ((with_reducible refine wpList_eql_word ?_ (.tmp 12) (.tmp 14) ?_ p.bal q.bal HPB.out HQB.out ?_ ?_ ?_); (exact rfl); (exact rfl); (exact rfl); (exact rfl); rw [HB.out]))
    go_ret
    exact ⟨by rw [HF.out]; rfl, HE.out⟩
  ·have HB := Lib.hid (show (p.bal == q.bal) = false by simpa using e1)
   have HF := Lib.hid (show p.eqB q = false by rw [HDEF.out]; simp [e1])
   clear e0 e1
   go_wp2_with (first
    | ((with_reducible refine wpList_load_wordIn ?_ (.tmp 11) ?_ w.heap.size 1 p.bal ?_ ?_ ?_); (exact rfl); (exact rfl); (exact rfl); (exact HK.out.bal))
    | ((with_reducible refine wpList_load_wordIn ?_ (.tmp 13) ?_ (w.heap.size + 1) 1 q.bal ?_ ?_ ?_); (exact rfl); (exact rfl); (exact rfl); (exact HQ.out.bal))
    | ((with_reducible refine wpList_eql_word ?_ (.tmp 12) (.tmp 14) ?_ p.bal q.bal HPB.out HQB.out ?_ ?_ ?_); (exact rfl); (exact rfl); (exact rfl); (exact rfl); rw [HB.out]))
   go_ret
   exact ⟨by rw [HF.out]; rfl, HE.out⟩
 ·have x0 : ((p.addr : Int) == (q.addr : Int)) = false := by simp; omega
  have HF := Lib.hid (show p.eqB q = false by rw [HDEF.out]; simp [e0])
  clear e0
  go_wp2_with fail
  go_ret
  exact ⟨by rw [HF.out]; rfl, HE.out⟩
def eqL : List Ac → List Ac → Bool
 | [], [] => true
 | p :: l, q :: m => p.eqB q && eqL l m
 | _, _ => false
theorem eqL_iff : ∀ (l m : List Ac), eqL l m = true ↔ l = m
 | [], [] => by simp [eqL]
 | [], _ :: _ => by simp [eqL]
 | _ :: _, [] => by simp [eqL]
 | p :: l, q :: m => by
  unfold eqL
  rw [Bool.and_eq_true, Ac.eqB_iff, eqL_iff l m, List.cons.injEq]
theorem eqL_len (l m : List Ac) (h : l.length ≠ m.length) : eqL l m = false := by
 cases e : eqL l m with
 | false => rfl
 | true => exact absurd (congrArg List.length ((eqL_iff l m).1 e)) h
theorem eqL_ne (l m : List Ac) (k : Nat) (h : (l.getD k acz).eqB (m.getD k acz) = false) : eqL l m = false := by
 cases e : eqL l m with
 | false => rfl
 | true =>
  rw [(eqL_iff l m).1 e, (Ac.eqB_iff _ _).2 rfl] at h
  cases h
theorem eqL_all (l m : List Ac) (hl : l.length = m.length) (h : ∀ i, i < l.length → l.getD i acz = m.getD i acz) : eqL l m = true := by
 rw [eqL_iff]
 apply List.ext_getElem hl
 intro i h1 h2
 have := h i h1
 rwa [List.getD, List.getElem?_eq_getElem h1, List.getD, List.getElem?_eq_getElem h2] at this
set_option maxRecDepth 100000 in
set_option maxHeartbeats 4000000 in
theorem equalF_any (v1 v2 : Value) (a b : List Ac) (w : World) (h1 : Acs w v1 a) (h2 : Acs w v2 b) :
  Calls Tryz.prog 100 #[v1, v2, .func (.func 101) #[] #[]] w fun e w' => e = .returned (.bool (eqL a b)) ∧ Ext w w' := by
 have H1 := Lib.hid h1
 have H2 := Lib.hid h2
 obtain ⟨A1, c, rfl, p1, p2⟩ := h1.len
 obtain ⟨A2, c', rfl, q1, q2⟩ := h2.len
 unfold maxLen at p2 q2
 clear h1 h2
 by_cases hl : a.length = b.length
 ·have hd : ((a.length : Int) != (b.length : Int)) = false := by simp [hl]
  have HNE := Lib.hid (fun k h => eqL_ne a b k h)
  have HEQ := Lib.hid (fun h => eqL_all a b hl h)
  have HL := Lib.hid hl
  clear hl
  go_enter Tryz.func100, Tryz.ntmps100
  go_wp2_with fail
  go_loopw [17] (fun u wr => ∃ k : Nat, k ≤ a.length ∧ u = .int .i64 k ∧ Hid (∀ i, i < k → a.getD i acz = b.getD i acz) ∧ Hid (Ext w wr)) (fun u _ => a.length - (intOf u).toNat)
  case atStart => exact ⟨0, by omega, rfl, Lib.hid fun i hi => absurd hi (by omega), Lib.hid (Ext.refl w)⟩
  case round =>
   obtain ⟨k, hk, rfl, HS, HE⟩ := hrel
   by_cases hlt : k < a.length
   ·have hdk : decide (k < a.length) = true := decide_eq_true hlt
    have hkb : k < b.length := by have := HL.out; omega
    have hdb : decide (k < b.length) = true := decide_eq_true hkb
    obtain ⟨b1, o1, u1, v1, rfl, hr1, hu1, hv1, hok1⟩ := (H1.out.ext HE.out).at k hlt
    obtain ⟨b2, o2, u2, v2, rfl, hr2, hu2, hv2, hok2⟩ := (H2.out.ext HE.out).at k hkb
    have HNX := Lib.hid (fun (h : (a.getD k acz).eqB (b.getD k acz) = true) i (hi : i < k + 1) => (show a.getD i acz = b.getD i acz from by
     by_cases e : i = k
     ·rw [e]; exact (Ac.eqB_iff _ _).1 h
     ·exact HS.out i (by omega)))
    have HNK := Lib.hid (HNE.out k)
    have HR1 := Lib.hid hr1
    have HR2 := Lib.hid hr2
    have HU1 := Lib.hid hu1
    have HU2 := Lib.hid hu2
    have HV1 := Lib.hid hv1
    have HV2 := Lib.hid hv2
    have HO1 := Lib.hid hok1
    have HO2 := Lib.hid hok2
    clear hr1 hu1 hv1 hok1 hr2 hu2 hv2 hok2
    generalize a.getD k acz = p at *
    generalize b.getD k acz = q at *
    go_upto_region 7 with (first
     | ((with_reducible refine wpList_load_ac ?_ (.tmp 20) ?_ b1 (o1 + k * 8) p u1 v1 ?_ ?_ ?_); (exact rfl); (exact rfl); (exact rfl); (exact HR1.out))
     | ((with_reducible refine wpList_store_ac ?_ ?_ (.tmp 8) (.tmp 21) ?_ wr.heap.size az0 p u1 v1 ?_ ?_ ?_ ?_ ?_ ?_ ?_); (exact rfl); (exact rfl); (exact rfl); (exact bs_one HU1.out); (exact pks_one HV1.out); (exact rfl); (exact rfl); (exact Cs.new _ _ _ _ rfl); (exact rfl); intro w4 k4 g4; have K4 := Lib.hid k4; have HX4 := Lib.hid (((Ext.refl wr).alloc _).grown g4 (Nat.le_refl _)); clear k4 g4)
     | ((with_reducible refine wpList_load_ac ?_ (.tmp 24) ?_ b2 (o2 + k * 8) q u2 v2 ?_ ?_ ?_); (exact rfl); (exact rfl); (exact rfl); (exact (fun j x hx => HX4.out.cell (HR2.out j x hx))))
     | ((with_reducible refine wpList_store_ac ?_ ?_ (.tmp 9) (.tmp 25) ?_ w4.heap.size az0 q u2 v2 ?_ ?_ ?_ ?_ ?_ ?_ ?_); (exact rfl); (exact rfl); (exact rfl); (exact bs_one HU2.out); (exact pks_one HV2.out); (exact rfl); (exact rfl); (exact Cs.new _ _ _ _ rfl); (exact rfl); intro w5 k5 g5; have K5 := Lib.hid k5; have HX5 := Lib.hid (((Ext.refl w4).alloc _).grown g5 (Nat.le_refl _)); clear k5 g5))
    have HX := Lib.hid (HX4.out.trans HX5.out)
    have K45 := Lib.hid (K4.out.ext HX5.out)
    clear HR1 HR2 K4
    go_wp2_with (first
     | ((with_reducible refine wpList_load_ac ?_ (.tmp 8) ?_ wr.heap.size 0 p u1 v1 ?_ ?_ ?_); (exact rfl); (exact rfl); (exact rfl); (exact K45.out.range))
     | ((with_reducible refine wpList_load_ac ?_ (.tmp 9) ?_ w4.heap.size 0 q u2 v2 ?_ ?_ ?_); (exact rfl); (exact rfl); (exact rfl); (exact K5.out.range)))
    refine (same1_any' p q u1 v1 u2 v2 _ HO1.out HO2.out (HU1.out.ext HX.out) (HV1.out.ext HX.out) (HU2.out.ext HX.out) (HV2.out.ext HX.out)).mono ?_
    rintro e w6 ⟨rfl, he⟩
    have HEJ := Lib.hid ((HE.out.trans HX.out).trans he)
    clear he
    cases hr : p.eqB q with
    | true =>
     have HN := Lib.hid (HNX.out hr)
     clear hr
     go_wp2_with fail
     exact ⟨⟨k + 1, by omega, by go_num, HN, HEJ⟩, by simp [intOf]; omega⟩
    | false =>
     have HF := Lib.hid (HNK.out hr)
     clear hr
     go_wp2_with fail
     go_ret
     exact ⟨by rw [HF.out]; rfl, HEJ.out⟩
   ·obtain rfl : k = a.length := by omega
    have HF := Lib.hid (HEQ.out HS.out)
    go_wp2_with fail
    go_ret
    exact ⟨by rw [HF.out]; rfl, HE.out⟩
 ·have hd : ((a.length : Int) != (b.length : Int)) = true := by simp; omega
  have HF := Lib.hid (eqL_len a b hl)
  go_enter Tryz.func100, Tryz.ntmps100
  go_wp2_with fail
  go_ret
  exact ⟨by rw [HF.out]; rfl, Ext.refl _⟩
set_option maxRecDepth 100000 in
set_option maxHeartbeats 1000000 in
theorem stateSame_any (s1 s2 : Value) (a b : List Ac) (w : World) (h1 : Acs w s1 a) (h2 : Acs w s2 b) :
  Calls Tryz.prog 47 #[.agg #[s1], .agg #[s2]] w fun e w' => e = .returned (.bool (eqL a b)) ∧ Ext w w' := by
 have H1 := Lib.hid h1
 have H2 := Lib.hid h2
 obtain ⟨A1, c, rfl, p1, p2⟩ := h1.len
 obtain ⟨A2, c', rfl, q1, q2⟩ := h2.len
 have HE := Lib.hid (((Ext.refl w).alloc (.cells #[.slice A1 a.length c] 24)).alloc (.cells #[.slice A2 b.length c'] 24))
 clear h1 h2
 go_enter Tryz.func47, Tryz.ntmps47
 go_wp2_with fail
 refine (equalF_any _ _ a b _ (H1.out.ext HE.out) (H2.out.ext HE.out)).mono ?_
 rintro e w2 ⟨rfl, he⟩
 have HE2 := Lib.hid (HE.out.trans he)
 clear he
 obtain ⟨r, hr⟩ : ∃ r, eqL a b = r := ⟨_, rfl⟩
 have HR := Lib.hid hr
 rw [hr]
 clear hr
 go_wp2_with fail
 go_ret
 exact ⟨by rw [HR.out]; rfl, HE2.out⟩
end Go.Proofs.YtnjpdchmdimaaaaGreat
