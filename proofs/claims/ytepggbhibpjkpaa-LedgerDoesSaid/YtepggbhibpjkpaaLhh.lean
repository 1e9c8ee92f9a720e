/- Package ledger: the teller of an address; what it takes. -/
import Derived.Test.YtepggbhibpjkpaaLhg
namespace Go.Proofs.Ytepggbhibpjkpaa
open Go.ChangeShapes Go.WideShapes Go.ChangeAt Go.RowKit Go.Shelf

set_option maxRecDepth 100000 in
theorem results_tl_tmp {fn : Func} {p q : Tmp} (h : fn.results = #[.cell p 165, .tmp q]) (tmps : Array Value) (w : World) (g : Nat) (cs : Array Value) (hp : tmps.getD p undef = .pointer (some ⟨g, 0, none⟩)) (hg : Cs w g 165 cs) (hs : cs.size = 12) : (results fn tmps).run Try.prog w = .ok (.tuple #[.agg cs, tmps.getD q undef]) w := by
  have hp' : tmps[p]?.getD undef = .pointer (some ⟨g, 0, none⟩) := by simpa using hp
  simp [results, h, hp', asAddr, run_loadVar_row w g 165 165 cs (0, 0) _ hg Try.underlying165 rfl (by rw [tlinfo, hs])]
set_option maxRecDepth 100000 in
theorem results_ld_tmp {fn : Func} {p q : Tmp} (h : fn.results = #[.cell p 88, .tmp q]) (tmps : Array Value) (w : World) (g : Nat) (v : Value) (hp : tmps.getD p undef = .pointer (some ⟨g, 0, none⟩)) (hg : Cs w g 88 #[v]) : (results fn tmps).run Try.prog w = .ok (.tuple #[.agg #[v], tmps.getD q undef]) w := by
  have hp' : tmps[p]?.getD undef = .pointer (some ⟨g, 0, none⟩) := by simpa using hp
  simp [results, h, hp', asAddr, run_loadVar_row w g 88 88 #[v] (0, 0) _ hg Try.underlying88 rfl ldinfo]
set_option maxRecDepth 100000 in
theorem wpList_load_tlv {ops : Array Oper} {rest : List Oper} {o : Oper} {a : Act} {w : World} {Q : Exit → Act → World → Prop} (hgd : Region.wanted o (yielded ops a.tmps) = true) (x : Operand) (ho : o.op = .load 165 x)
    (g : Nat) (tv : Array Value) (hs : tv.size = 12) (hx : a.eval x = .pointer (some ⟨g, 0, none⟩)) (hg : Cs w g 165 tv) (h : wpList Try.prog ops Q rest (a.put o.dst (.agg tv)) w) : wpList Try.prog ops Q (o :: rest) a w := by
  refine wpList_step fun K hK => ?_
  rw [if_pos hgd]
  refine wp_load_mid 165 x ho g 0 hx tv.toList _ (Cs.rg hg) Try.underlying165 rfl (by rw [tlinfo, Array.length_toList, hs]) ?_
  exact hK _ _ h
set_option maxRecDepth 100000 in
theorem ws_one {W : World} {n : Nat} (hn : n < M256) : Ws (W.alloc (.cells (wc n) 29)) (.slice (some ⟨W.heap.size, 0, none⟩) 1 1) [n] := ⟨_, _, rfl, Nat.le_refl _, by unfold maxLen; omega, fun _ => ⟨W.heap.size, 0, rfl, fun i hi j hj => by
  have h0 : i = 0 := by simpa using hi
  subst h0
  have := Cs.cell (Cs.new W (wc n) 29 _ rfl) j _ (wc_get n j hj)
  simpa [lv] using this⟩, fun i hi => by
  have h0 : i = 0 := by simpa using hi
  subst h0
  exact hn⟩
set_option maxRecDepth 100000 in
theorem lit_tl (a : Nat) (v : Value) : Value.agg #[.int .u64 (a : Int), .int .u64 0, .int .u64 0, .int .u64 0, .int .u64 0, .int .u64 0, .int .u64 0, .int .u64 0, .int .u64 0, .int .u64 0, .int .u64 0, v] = .agg (tlc ⟨a, 0, 0, 0, 0⟩ v) := by simp [tlc, lv, lb]
set_option maxRecDepth 100000 in
theorem lit_tl0 : (#[.int .u64 0, .int .u64 0, .int .u64 0, .int .u64 0, .int .u64 0, .int .u64 0, .int .u64 0, .int .u64 0, .int .u64 0, .int .u64 0, .int .u64 0, .slice none 0 0] : Array Value) = tlc hz0 (.slice none 0 0) := by simp [tlc, hz0, lv, lb]

/-! ### What a ledger that may be is -/
set_option maxRecDepth 100000 in
theorem rightG_parts {l : List Hd} (h : rightG l = true) : l.length ≤ 24 ∧ (∀ i, i < l.length → rgB l i = true) ∧ (sumW (flatH l)).2 = false := by
  unfold rightG at h
  simp only [Bool.and_eq_true, decide_eq_true_eq, List.all_eq_true, List.mem_range, Bool.not_eq_true'] at h
  exact h
set_option maxRecDepth 100000 in
theorem rgB_lt {l : List Hd} {i : Nat} (h : rgB l i = true) : lastA l i < (l.getD i hz0).addr ∧ (l.getD i hz0).rowB = true := by
  unfold rgB at h
  simpa using h
set_option maxRecDepth 100000 in
theorem rightG_rise {l : List Hd} (h : rightG l = true) : RiseG l := by
  obtain ⟨_, h2, _⟩ := rightG_parts h
  intro i j
  induction j with
  | zero => intro hij; omega
  | succ j ih =>
    intro hij hj
    have h1 := (rgB_lt (h2 (j + 1) hj)).1
    rw [lastA_succ] at h1
    rcases Nat.lt_or_eq_of_le (Nat.le_of_lt_succ hij) with hlt | rfl
    · exact Nat.lt_trans (ih hlt (by omega)) h1
    · exact h1
/-- The row of an address; the error of a teller; what it is. -/
def rowG (l : List Hd) (a : Nat) : Hd := if hasG l a then l.getD (posG l a) hz0 else ⟨a, 0, 0, 0, 0⟩
def teE (l : List Hd) (a : Nat) : Int := if rightG l then (if a = 0 then 2 else 0) else 170
def telV (l : List Hd) (a : Nat) (v : Value) : Array Value := if rightG l = true ∧ a ≠ 0 then tlc (rowG l a) v else tlc hz0 (.slice none 0 0)
set_option maxRecDepth 100000 in
theorem rowG_addr (l : List Hd) (a : Nat) : (rowG l a).addr = a := by
  unfold rowG
  cases h : hasG l a with
  | false => rfl
  | true =>
    rw [if_pos rfl]
    unfold hasG at h
    simp only [Bool.and_eq_true, decide_eq_true_eq] at h
    exact h.2
set_option maxRecDepth 100000 in
theorem rowG_ok {l : List Hd} (h : ∀ p ∈ l, p.ok) {a : Nat} (ha : a < 18446744073709551616) : (rowG l a).ok := by
  unfold rowG
  cases hh : hasG l a with
  | false => exact ⟨ha, M256_pos, M256_pos, Nat.zero_lt_succ _, Nat.zero_lt_succ _⟩
  | true =>
    rw [if_pos rfl]
    have hi := hasG_lt hh
    rw [List.getD_eq_getElem?_getD, List.getElem?_eq_getElem hi]
    exact h _ (List.getElem_mem hi)
set_option maxRecDepth 100000 in
theorem hz0_ok : hz0.ok := ⟨Nat.zero_lt_succ _, M256_pos, M256_pos, Nat.zero_lt_succ _, Nat.zero_lt_succ _⟩
set_option maxRecDepth 100000 in
set_option maxHeartbeats 4000000 in
theorem tellerOf_any (v : Value) (l : List Hd) (a : Nat) (w : World) (hs : Hds w v l) (_ha : a < 18446744073709551616) :
    Calls Try.prog 125 #[.agg #[v], .int .u64 (a : Nat)] w fun e w' => e = .returned (.tuple #[.agg (telV l a v), .int .i64 (teE l a)]) ∧ Ext w w' := by
  have HS := Lib.hid hs
  obtain ⟨A1, c, rfl, h1, h2⟩ := hs.len
  unfold maxLen at h2
  obtain ⟨w0, hw0⟩ : ∃ w0, (w.alloc (.cells #[.slice A1 l.length c] 88)).alloc (.cells (tlc hz0 (.slice none 0 0)) 165) = w0 := ⟨_, rfl⟩
  have HW0 := Lib.hid hw0
  have HL : Hid (Cs w0 w.heap.size 88 #[.slice A1 l.length c]) := Lib.hid (by rw [← hw0]; exact Cs.alloc (Cs.new _ _ _ _ rfl) _)
  have HT : Hid (Cs w0 (w.heap.size + 1) 165 (tlc hz0 (.slice none 0 0))) := Lib.hid (by rw [← hw0]; exact Cs.new _ _ _ _ (by rw [World.size_alloc]))
  have HE : Hid (Ext w w0) := Lib.hid (by rw [← hw0]; exact ((Ext.refl w).alloc _).alloc _)
  have HVN := Lib.hid (show (Value.slice none 0 0).oneCell' = true from rfl)
  have HEE : Hid (teE l a = if rightG l then (if a = 0 then 2 else 0) else 170) := Lib.hid rfl
  have HVV : Hid (telV l a (.slice A1 l.length c) = if rightG l = true ∧ a ≠ 0 then tlc (rowG l a) (.slice A1 l.length c) else tlc hz0 (.slice none 0 0)) := Lib.hid rfl
  clear hs hw0
  go_enter Try.func125, Try.ntmps125
  go_upto_region 1 with fail
  rw [lit_tl0, HW0.out]
  clear HW0
  obtain ⟨g2, hg2⟩ : ∃ g2, w.heap.size = g2 := ⟨_, rfl⟩
  obtain ⟨g4, hg4⟩ : ∃ g4, w.heap.size + 1 = g4 := ⟨_, rfl⟩
  have HG4 := Lib.hid (show w.heap.size ≤ g4 by omega)
  rw [hg2] at HL
  rw [hg4] at HT ⊢
  rw [hg2]
  clear hg2 hg4
  have q2 := HL.out.cell 0 _ rfl
  go_wp2_with fail
  refine (ledCheck_any _ l _ (HS.out.ext HE.out)).mono ?_
  rintro e w1 ⟨rfl, he⟩
  have HX := Lib.hid he
  have HTX := Lib.hid (Cs.ext HT.out he)
  clear he q2
  rw [show chkG l = if rightG l then 0 else 170 from rfl]
  cases hr : rightG l with
  | false =>
    rw [hr] at HEE HVV
    have HVO := HVN
    clear hr
    go_wp2_with ((with_reducible refine wpList_store_agg ?_ ?_ 165 (.tmp 4) (.tmp 13) ?_ tlinfo g4 (tlc hz0 (.slice none 0 0)) (tlc hz0 (.slice none 0 0)) ?_ ?_ ?_ ?_ ?_ ?_ ?_); (exact rfl); (exact rfl); (exact rfl); (exact tlc_one _ _ HVO.out); (exact rfl); (exact (congrArg Value.agg lit_tl0)); (exact HTX.out); (exact rfl); (exact rfl); intro w7 k7 g7; have K7 := Lib.hid k7; have G7 := Lib.hid g7; clear k7 g7)
    refine bodyPost_ret (results_tl_tmp Try.results125 _ _ g4 _ rfl K7.out rfl) rfl ?_
    exact ⟨by rw [HEE.out, HVV.out]; rfl, (HE.out.trans HX.out).grown G7.out HG4.out⟩
  | true =>
    rw [hr] at HEE HVV
    have HRI := Lib.hid (rightG_rise hr)
    have HLN := Lib.hid (rightG_parts hr).1
    clear hr
    by_cases ha0 : a = 0
    · have e1 : ((a : Int) == 0) = true := by rw [beq_iff_eq]; omega
      have e2 : (a == 0) = true := by rw [beq_iff_eq]; exact ha0
      have HVO := HVN
      have HA0 := Lib.hid ha0
      clear ha0
      go_wp2_with ((with_reducible refine wpList_store_agg ?_ ?_ 165 (.tmp 4) (.tmp 17) ?_ tlinfo g4 (tlc hz0 (.slice none 0 0)) (tlc hz0 (.slice none 0 0)) ?_ ?_ ?_ ?_ ?_ ?_ ?_); (exact rfl); (exact rfl); (exact rfl); (exact tlc_one _ _ HVO.out); (exact rfl); (exact (congrArg Value.agg lit_tl0)); (exact HTX.out); (exact rfl); (exact rfl); intro w7 k7 g7; have K7 := Lib.hid k7; have G7 := Lib.hid g7; clear k7 g7)
      refine bodyPost_ret (results_tl_tmp Try.results125 _ _ g4 _ rfl K7.out rfl) rfl ?_
      exact ⟨by rw [HEE.out, HVV.out, HA0.out]; rfl, (HE.out.trans HX.out).grown G7.out HG4.out⟩
    · have e1 : ((a : Int) == 0) = false := by rw [beq_eq_false_iff_ne]; omega
      have e2 : (a == 0) = false := by rw [beq_eq_false_iff_ne]; exact ha0
      have HVO := Lib.hid (show (Value.slice A1 l.length c).oneCell' = true from rfl)
      have q2 := (Cs.ext HL.out HX.out).cell 0 _ rfl
      have HZR := Lib.hid (show teE l a = 0 ∧ telV l a (.slice A1 l.length c) = tlc (rowG l a) (.slice A1 l.length c) from ⟨by rw [HEE.out, if_pos rfl, if_neg ha0], by rw [HVV.out, if_pos ⟨rfl, ha0⟩]⟩)
      have HRW : Hid (rowG l a = if hasG l a then l.getD (posG l a) hz0 else ⟨a, 0, 0, 0, 0⟩) := Lib.hid rfl
      clear ha0 HEE HVV
      go_upto_region 6 with ((with_reducible refine wpList_store_agg ?_ ?_ 165 (.tmp 6) (.tmp 22) ?_ tlinfo w1.heap.size (tlc hz0 (.slice none 0 0)) (tlc ⟨a, 0, 0, 0, 0⟩ (.slice A1 l.length c)) ?_ ?_ ?_ ?_ ?_ ?_ ?_); (exact rfl); (exact rfl); (exact rfl); (exact tlc_one _ _ HVO.out); (exact rfl); (exact lit_tl _ _); (rw [← lit_tl0]; exact Cs.new _ _ _ _ rfl); (exact rfl); (exact rfl); intro w5 k5 g5; have K5 := Lib.hid k5; have G5 := Lib.hid g5; clear k5 g5)
      have HE5 := Lib.hid (HX.out.trans (((Ext.refl w1).alloc _).grown G5.out (Nat.le_refl _)))
      obtain ⟨g6, hg6⟩ : ∃ g6, w1.heap.size = g6 := ⟨_, rfl⟩
      have HG6 := Lib.hid (show w.heap.size ≤ g6 by rw [← hg6]; exact (HE.out.trans HX.out).size)
      have HNE := Lib.hid (show g4 ≠ g6 by have := Cs.lt HTX.out; omega)
      rw [hg6] at K5 G5 ⊢
      clear hg6 q2
      have q2 := (Cs.ext HL.out HE5.out).cell 0 _ rfl
      go_wp2_with fail
      refine (findG_any _ l a _ (HS.out.ext (HE.out.trans HE5.out)) HRI.out (by have := HLN.out; omega)).mono ?_
      rintro e w6 ⟨rfl, he⟩
      have HE6 := Lib.hid (HE5.out.trans he)
      have HK6 := Lib.hid (Cs.ext K5.out he)
      clear he K5 G5 HE5 q2 HTX
      cases hh : hasG l a with
      | false =>
        rw [hh] at HRW
        have HTX := Lib.hid (Cs.ext HT.out HE6.out)
        clear hh
        go_wp2_with (first
          | ((with_reducible refine wpList_load_tl ?_ (.tmp 6) ?_ (g6) (⟨a, 0, 0, 0, 0⟩) (.slice A1 l.length c) ?_ ?_ ?_); (exact rfl); (exact rfl); (exact rfl); (exact HK6.out))
          | ((with_reducible refine wpList_store_agg ?_ ?_ 165 (.tmp 4) (.tmp 37) ?_ tlinfo g4 (tlc hz0 (.slice none 0 0)) (tlc ⟨a, 0, 0, 0, 0⟩ (.slice A1 l.length c)) ?_ ?_ ?_ ?_ ?_ ?_ ?_); (exact rfl); (exact rfl); (exact rfl); (exact tlc_one _ _ HVO.out); (exact rfl); (exact rfl); (exact HTX.out); (exact rfl); (exact rfl); intro w7 k7 g7; have K7 := Lib.hid k7; have G7 := Lib.hid g7; clear k7 g7))
        refine bodyPost_ret (results_tl_tmp Try.results125 _ _ g4 _ rfl K7.out rfl) rfl ?_
        exact ⟨by rw [HZR.out.1, HZR.out.2, HRW.out]; rfl, (HE.out.trans HE6.out).grown G7.out HG4.out⟩
      | true =>
        rw [hh] at HRW
        obtain ⟨i, hi⟩ : ∃ i, posG l a = i := ⟨_, rfl⟩
        have hil : i < l.length := by rw [← hi]; exact hasG_lt hh
        have hd : decide (i < l.length) = true := decide_eq_true hil
        have hd2 : decide ((i : Int) < (l.length : Int)) = true := decide_eq_true (by omega)
        obtain ⟨bb, oo, rfl, hrg, hp⟩ := (HS.out.ext (HE.out.trans HE6.out)).at i hil
        have HRG := Lib.hid hrg
        rw [hi] at HRW ⊢
        have HRW2 := Lib.hid (show rowG l a = l.getD i hz0 by rw [HRW.out]; rfl)
        have q2 := (Cs.ext HL.out HE6.out).cell 0 _ rfl
        clear hh hrg hp HRW hi
        generalize l.getD i hz0 = p at *
        go_upto_region 9 with (first
          | ((with_reducible refine wpList_load_hd ?_ (.tmp 34) ?_ (bb) (oo + i * 11) (p) ?_ ?_ ?_); (exact rfl); (exact rfl); (exact rfl); (exact HRG.out))
          | ((with_reducible refine wpList_store_in ?_ ?_ 97 (.tmp 36) (.tmp 35) ?_ g6 0 165 (tlc ⟨a, 0, 0, 0, 0⟩ (.slice (some ⟨bb, oo, none⟩) l.length c)) (hdc p) ?_ ?_ ?_ ?_ ?_ ?_ ?_); (exact rfl); (exact rfl); (exact rfl); (exact rfl); (exact rfl); (exact HK6.out); (exact hdinfo); (exact of_decide_eq_true rfl); (exact hdc_one p); intro w8 k8 g8; have K8 := Lib.hid k8; have G8 := Lib.hid g8; clear k8 g8))
        have HK8 := Lib.hid (show Cs w8 g6 165 (tlc p (.slice (some ⟨bb, oo, none⟩) l.length c)) by have := K8.out; rw [layC_hd] at this; exact this)
        have HTX := Lib.hid (Cs.kept (Cs.ext HT.out HE6.out) G8.out (some_ne HNE.out))
        have HE8 := Lib.hid ((HE.out.trans HE6.out).grown G8.out HG6.out)
        clear K8 G8 q2
        go_wp2_with (first
          | ((with_reducible refine wpList_load_tl ?_ (.tmp 6) ?_ (g6) (p) (.slice (some ⟨bb, oo, none⟩) l.length c) ?_ ?_ ?_); (exact rfl); (exact rfl); (exact rfl); (exact HK8.out))
          | ((with_reducible refine wpList_store_agg ?_ ?_ 165 (.tmp 4) (.tmp 37) ?_ tlinfo g4 (tlc hz0 (.slice none 0 0)) (tlc p (.slice (some ⟨bb, oo, none⟩) l.length c)) ?_ ?_ ?_ ?_ ?_ ?_ ?_); (exact rfl); (exact rfl); (exact rfl); (exact tlc_one _ _ HVO.out); (exact rfl); (exact rfl); (exact HTX.out); (exact rfl); (exact rfl); intro w7 k7 g7; have K7 := Lib.hid k7; have G7 := Lib.hid g7; clear k7 g7))
        refine bodyPost_ret (results_tl_tmp Try.results125 _ _ g4 _ rfl K7.out rfl) rfl ?_
        exact ⟨by rw [HZR.out.1, HZR.out.2, HRW2.out]; rfl, HE8.out.grown G7.out HG4.out⟩
set_option maxRecDepth 100000 in
theorem telV_one {l : List Hd} {a : Nat} {v : Value} (hv : v.oneCell' = true) : (telV l a v).all (·.oneCell') = true := by
  unfold telV
  split
  · exact tlc_one _ _ hv
  · exact tlc_one _ _ rfl
set_option maxRecDepth 100000 in
theorem telV_size (l : List Hd) (a : Nat) (v : Value) : (telV l a v).size = 12 := by
  unfold telV
  split <;> rfl
def taE (l : List Hd) (a n : Nat) : Int := if teE l a = 0 ∧ 1099511627776 < n then 2 else teE l a
def taV (l : List Hd) (a n : Nat) (v : Value) : Array Value := if teE l a = 0 ∧ 1099511627776 < n then tlc hz0 (.slice none 0 0) else telV l a v
set_option maxRecDepth 100000 in
set_option maxHeartbeats 4000000 in
theorem tellerAt_any (v : Value) (l : List Hd) (a n : Nat) (w : World) (hs : Hds w v l) (ha : a < 18446744073709551616) (_hn : n < 18446744073709551616) :
    Calls Try.prog 133 #[.agg #[v], .int .u64 (a : Nat), .int .u64 (n : Nat)] w fun e w' => e = .returned (.tuple #[.agg (taV l a n v), .int .i64 (taE l a n)]) ∧ Ext w w' := by
  have HS := Lib.hid hs
  have hv1 : v.oneCell' = true := by obtain ⟨A, c, rfl, _⟩ := hs.len; rfl
  have HV := Lib.hid hv1
  obtain ⟨w0, hw0⟩ : ∃ w0, (w.alloc (.cells #[v] 88)).alloc (.cells (tlc hz0 (.slice none 0 0)) 165) = w0 := ⟨_, rfl⟩
  have HW0 := Lib.hid hw0
  have HL : Hid (Cs w0 w.heap.size 88 #[v]) := Lib.hid (by rw [← hw0]; exact Cs.alloc (Cs.new _ _ _ _ rfl) _)
  have HT : Hid (Cs w0 (w.heap.size + 1) 165 (tlc hz0 (.slice none 0 0))) := Lib.hid (by rw [← hw0]; exact Cs.new _ _ _ _ (by rw [World.size_alloc]))
  have HE : Hid (Ext w w0) := Lib.hid (by rw [← hw0]; exact ((Ext.refl w).alloc _).alloc _)
  have HEE : Hid (taE l a n = if teE l a = 0 ∧ 1099511627776 < n then 2 else teE l a) := Lib.hid rfl
  have HVV : Hid (taV l a n v = if teE l a = 0 ∧ 1099511627776 < n then tlc hz0 (.slice none 0 0) else telV l a v) := Lib.hid rfl
  have HVO := Lib.hid (show (Value.slice none 0 0).oneCell' = true from rfl)
  clear hs hw0 hv1
  go_enter Try.func133, Try.ntmps133
  go_upto_region 1 with fail
  rw [lit_tl0, HW0.out]
  clear HW0
  obtain ⟨g2, hg2⟩ : ∃ g2, w.heap.size = g2 := ⟨_, rfl⟩
  obtain ⟨g4, hg4⟩ : ∃ g4, w.heap.size + 1 = g4 := ⟨_, rfl⟩
  have HG4 := Lib.hid (show w.heap.size ≤ g4 by omega)
  rw [hg2] at HL
  rw [hg4] at HT ⊢
  rw [hg2]
  clear hg2 hg4
  have q2 := HL.out.cell 0 _ rfl
  go_wp2_with fail
  refine (tellerOf_any v l a _ (HS.out.ext HE.out) ha).mono ?_
  rintro e w1 ⟨rfl, he⟩
  have HX := Lib.hid he
  have HTX := Lib.hid (Cs.ext HT.out he)
  have HTO := Lib.hid (telV_one (l := l) (a := a) HV.out)
  have HTS := Lib.hid (telV_size l a v)
  clear he q2
  obtain ⟨tv, htv⟩ : ∃ tv, telV l a v = tv := ⟨_, rfl⟩
  obtain ⟨te, hte⟩ : ∃ te, teE l a = te := ⟨_, rfl⟩
  rw [htv] at HTO HTS HVV ⊢
  rw [hte] at HEE HVV ⊢
  clear htv hte
  go_upto_region 2 with ((with_reducible refine wpList_store_agg ?_ ?_ 165 (.tmp 8) (.tmp 14) ?_ tlinfo w1.heap.size (tlc hz0 (.slice none 0 0)) (tv) ?_ ?_ ?_ ?_ ?_ ?_ ?_); (exact rfl); (exact rfl); (exact rfl); (exact HTO.out); (exact rfl); (exact rfl); (rw [← lit_tl0]; exact Cs.new _ _ _ _ rfl); (exact rfl); (exact HTS.out); intro w5 k5 g5; have K5 := Lib.hid k5; have G5 := Lib.hid g5; clear k5 g5)
  have HX5 := Lib.hid (HX.out.trans (((Ext.refl w1).alloc _).grown G5.out (Nat.le_refl _)))
  have HTX := Lib.hid (Cs.ext HT.out HX5.out)
  have HE5 := Lib.hid (HE.out.trans HX5.out)
  obtain ⟨g8, hg8⟩ : ∃ g8, w1.heap.size = g8 := ⟨_, rfl⟩
  rw [hg8] at K5 ⊢
  clear hg8 HX HX5 G5
  by_cases ht0 : te = 0
  · subst ht0
    by_cases hn : 1099511627776 < n
    · have e3 : decide ((1099511627776 : Int) < (n : Int)) = true := decide_eq_true (by omega)
      have e4 : decide (1099511627776 < n) = true := decide_eq_true hn
      have HR := Lib.hid (show taE l a n = 2 ∧ taV l a n v = tlc hz0 (.slice none 0 0) from ⟨by rw [HEE.out, if_pos ⟨rfl, hn⟩], by rw [HVV.out, if_pos ⟨rfl, hn⟩]⟩)
      clear hn
      go_wp2_with ((with_reducible refine wpList_store_agg ?_ ?_ 165 (.tmp 6) (.tmp 22) ?_ tlinfo g4 (tlc hz0 (.slice none 0 0)) (tlc hz0 (.slice none 0 0)) ?_ ?_ ?_ ?_ ?_ ?_ ?_); (exact rfl); (exact rfl); (exact rfl); (exact tlc_one _ _ HVO.out); (exact rfl); (exact (congrArg Value.agg lit_tl0)); (exact HTX.out); (exact rfl); (exact rfl); intro w7 k7 g7; have K7 := Lib.hid k7; have G7 := Lib.hid g7; clear k7 g7)
      refine bodyPost_ret (results_tl_tmp Try.results133 _ _ g4 _ rfl K7.out rfl) rfl ?_
      exact ⟨by rw [HR.out.1, HR.out.2]; rfl, HE5.out.grown G7.out HG4.out⟩
    · have e3 : decide ((1099511627776 : Int) < (n : Int)) = false := decide_eq_false (by omega)
      have e4 : decide (1099511627776 < n) = false := decide_eq_false hn
      have HR := Lib.hid (show taE l a n = 0 ∧ taV l a n v = tv from ⟨by rw [HEE.out, if_neg (fun h => hn h.2)], by rw [HVV.out, if_neg (fun h => hn h.2)]⟩)
      clear hn
      go_wp2_with (first
        | ((with_reducible refine wpList_load_tlv ?_ (.tmp 8) ?_ g8 tv HTS.out ?_ ?_ ?_); (exact rfl); (exact rfl); (exact rfl); (exact K5.out))
        | ((with_reducible refine wpList_store_agg ?_ ?_ 165 (.tmp 6) (.tmp 23) ?_ tlinfo g4 (tlc hz0 (.slice none 0 0)) tv ?_ ?_ ?_ ?_ ?_ ?_ ?_); (exact rfl); (exact rfl); (exact rfl); (exact HTO.out); (exact rfl); (exact rfl); (exact HTX.out); (exact rfl); (exact HTS.out); intro w7 k7 g7; have K7 := Lib.hid k7; have G7 := Lib.hid g7; clear k7 g7))
      refine bodyPost_ret (results_tl_tmp Try.results133 _ _ g4 _ rfl K7.out HTS.out) rfl ?_
      exact ⟨by rw [HR.out.1, HR.out.2]; rfl, HE5.out.grown G7.out HG4.out⟩
  · have e3 : (te == 0) = false := by rw [beq_eq_false_iff_ne]; exact ht0
    have HR := Lib.hid (show taE l a n = te ∧ taV l a n v = tv from ⟨by rw [HEE.out, if_neg (fun h => ht0 h.1)], by rw [HVV.out, if_neg (fun h => ht0 h.1)]⟩)
    clear ht0
    go_wp2_with (first
      | ((with_reducible refine wpList_load_tlv ?_ (.tmp 8) ?_ g8 tv HTS.out ?_ ?_ ?_); (exact rfl); (exact rfl); (exact rfl); (exact K5.out))
      | ((with_reducible refine wpList_store_agg ?_ ?_ 165 (.tmp 6) (.tmp 23) ?_ tlinfo g4 (tlc hz0 (.slice none 0 0)) tv ?_ ?_ ?_ ?_ ?_ ?_ ?_); (exact rfl); (exact rfl); (exact rfl); (exact HTO.out); (exact rfl); (exact rfl); (exact HTX.out); (exact rfl); (exact HTS.out); intro w7 k7 g7; have K7 := Lib.hid k7; have G7 := Lib.hid g7; clear k7 g7))
    refine bodyPost_ret (results_tl_tmp Try.results133 _ _ g4 _ rfl K7.out HTS.out) rfl ?_
    exact ⟨by rw [HR.out.1, HR.out.2]; rfl, HE5.out.grown G7.out HG4.out⟩
/-- What a teller takes. -/
def tkE (l : List Hd) (h : Hd) (n : Nat) : Int := if (sumW ([n] ++ flatH l)).2 then 171 else if n ≠ 0 ∧ h.hasB = false ∧ l.length = 24 then 6 else 0
set_option maxRecDepth 100000 in
set_option maxHeartbeats 4000000 in
theorem takes_any (h : Hd) (v : Value) (l : List Hd) (n : Nat) (w : World) (hok : h.ok) (hs : Hds w v l) (hn : n < M256) (hl : l.length ≤ 1000) :
    Calls Try.prog 126 #[.agg (tlc h v), wv n] w fun e w' => e = .returned (.int .i64 (tkE l h n)) ∧ Ext w w' := by
  have HS := Lib.hid hs
  have HOK := Lib.hid hok
  have HN := Lib.hid hn
  obtain ⟨A1, c, rfl, h1, h2⟩ := hs.len
  unfold maxLen at h2
  have HV := Lib.hid (show (Value.slice A1 l.length c).oneCell' = true from rfl)
  obtain ⟨w0, hw0⟩ : ∃ w0, (w.alloc (.cells (tlc h (.slice A1 l.length c)) 165)).alloc (.cells (wc n) 29) = w0 := ⟨_, rfl⟩
  have HW0 := Lib.hid hw0
  have HT : Hid (Tl w0 w.heap.size h (.slice A1 l.length c)) := Lib.hid (by rw [← hw0]; exact Cs.alloc (Cs.new _ _ _ _ rfl) _)
  have HW : Hid (Cs w0 (w.heap.size + 1) 29 (wc n)) := Lib.hid (by rw [← hw0]; exact Cs.new _ _ _ _ (by rw [World.size_alloc]))
  have HE : Hid (Ext w w0) := Lib.hid (by rw [← hw0]; exact ((Ext.refl w).alloc _).alloc _)
  have HEE : Hid (tkE l h n = if (sumW ([n] ++ flatH l)).2 then 171 else if n ≠ 0 ∧ h.hasB = false ∧ l.length = 24 then 6 else 0) := Lib.hid rfl
  obtain ⟨tc, htc⟩ : ∃ tc, tlc h (.slice A1 l.length c) = tc := ⟨_, rfl⟩
  have HTC := Lib.hid htc
  rw [htc] at HW0 ⊢
  clear hs hw0 htc hok
  unfold wv
  go_enter Try.func126, Try.ntmps126
  go_upto_region 1 with fail
  rw [HW0.out]
  clear HW0
  obtain ⟨g2, hg2⟩ : ∃ g2, w.heap.size = g2 := ⟨_, rfl⟩
  obtain ⟨g3, hg3⟩ : ∃ g3, w.heap.size + 1 = g3 := ⟨_, rfl⟩
  rw [hg2] at HT
  rw [hg3] at HW ⊢
  rw [hg2]
  clear hg2 hg3
  have q11 := HT.out.rows
  have HWR := Lib.hid (Cs.rg HW.out)
  go_wp2_with (first
    | ((with_reducible refine wpList_load_wordIn ?_ (.tmp 3) ?_ g3 0 (n) ?_ ?_ ?_); (exact rfl); (exact rfl); (exact rfl); (exact HWR.out))
    | ((with_reducible refine wpList_build_one ?_ (.tmp 10) 42 29 ?_ Try.underlying42 _ 4 32 winfo3 (by decide) (by decide) (wc n) rfl ?_ ?_); (exact rfl); (exact rfl); (exact rfl)))
  have HX0 := Lib.hid ((Ext.refl w0).alloc (.cells (wc n) 29))
  refine (ledSum_any _ (.slice (some ⟨w0.heap.size, 0, none⟩) 1 1) l [n] _ (HS.out.ext (HE.out.trans HX0.out)) (ws_one HN.out) (by omega) (by simp)).mono ?_
  rintro e w1 ⟨rfl, he⟩
  have HX := Lib.hid (HX0.out.trans he)
  clear he q11 HX0
  obtain ⟨s, hs⟩ : ∃ s, (sumW ([n] ++ flatH l)).1 = s := ⟨_, rfl⟩
  obtain ⟨sb, hsb⟩ : ∃ sb, (sumW ([n] ++ flatH l)).2 = sb := ⟨_, rfl⟩
  rw [hsb] at HEE
  rw [hs, hsb]
  clear hs hsb
  go_upto_region 2 with ((with_reducible refine wpList_store_word rfl rfl 29 (.tmp 5) (.tmp 13) rfl winfo w1.heap.size (wc 0) s ?_ ?_ ?_ ?_ ?_); (exact rfl); (exact rfl); (exact Cs.new _ _ _ _ rfl); (exact rfl); intro w6 k6 g6; have HX6 := Lib.hid (HX.out.trans (((Ext.refl w1).alloc _).grown g6 (Nat.le_refl _))); clear k6 g6)
  have HE6 := Lib.hid (HE.out.trans HX6.out)
  cases sb with
  | true =>
    go_wp2_with fail
    go_ret
    exact ⟨by rw [HEE.out]; rfl, HE6.out⟩
  | false =>
    have HWR6 := Lib.hid (Cs.rg (Cs.ext HW.out HX6.out))
    have HT6 := Lib.hid (HT.out.ext HX6.out)
    by_cases hn0 : n = 0
    · have e1 : (n == 0) = true := by rw [beq_iff_eq]; exact hn0
      have e2 : (n != 0) = false := by rw [hn0]; rfl
      have HR := Lib.hid (show tkE l h n = 0 by rw [HEE.out, if_neg (by simp), if_neg (fun h => h.1 hn0)])
      clear hn0
      go_wp2_with (first
        | ((with_reducible refine wpList_load_wordIn ?_ (.tmp 3) ?_ g3 0 (n) ?_ ?_ ?_); (exact rfl); (exact rfl); (exact rfl); (exact HWR6.out))
        | ((with_reducible refine wpList_neq_word ?_ (.tmp 16) (.tmp 17) ?_ (n) (0) HN.out (by decide) ?_ ?_ ?_); (exact rfl); (exact rfl); (exact rfl); (exact rfl)))
      go_ret
      exact ⟨by rw [HR.out]; rfl, HE6.out⟩
    · have e2 : (n != 0) = true := by simpa using hn0
      have HN0 := Lib.hid hn0
      clear hn0
      go_wp2_with (first
        | ((with_reducible refine wpList_load_wordIn ?_ (.tmp 3) ?_ g3 0 (n) ?_ ?_ ?_); (exact rfl); (exact rfl); (exact rfl); (exact HWR6.out))
        | ((with_reducible refine wpList_neq_word ?_ (.tmp 16) (.tmp 17) ?_ (n) (0) HN.out (by decide) ?_ ?_ ?_); (exact rfl); (exact rfl); (exact rfl); (exact rfl))
        | ((with_reducible refine wpList_load_tl ?_ (.tmp 2) ?_ (g2) (h) (.slice A1 l.length c) ?_ ?_ ?_); (exact rfl); (exact rfl); (exact rfl); (exact HT6.out)))
      refine (holds_any h _ _ HOK.out HV.out).mono ?_
      rintro e w7 ⟨rfl, he⟩
      have HE7 := Lib.hid (HE6.out.trans he)
      have q11 := (HT6.out.ext he).rows
      clear he
      cases hb : h.hasB with
      | true =>
        have HR := Lib.hid (show tkE l h n = 0 by rw [HEE.out, if_neg (by simp), if_neg (fun h => by rw [hb] at h; cases h.2.1)])
        clear hb q11
        go_wp2_with fail
        go_ret
        exact ⟨by rw [HR.out]; rfl, HE7.out⟩
      | false =>
        by_cases h24 : l.length = 24
        · have e5 : ((l.length : Int) == 24) = true := by rw [beq_iff_eq]; omega
          have e6 : (l.length == 24) = true := by rw [beq_iff_eq]; exact h24
          have HR := Lib.hid (show tkE l h n = 6 by rw [HEE.out, if_neg (by simp), if_pos ⟨HN0.out, hb, h24⟩])
          clear hb h24
          go_wp2_with fail
          go_ret
          exact ⟨by rw [HR.out]; rfl, HE7.out⟩
        · have e5 : ((l.length : Int) == 24) = false := by rw [beq_eq_false_iff_ne]; omega
          have e6 : (l.length == 24) = false := by rw [beq_eq_false_iff_ne]; exact h24
          have HR := Lib.hid (show tkE l h n = 0 by rw [HEE.out, if_neg (by simp), if_neg (fun h => h24 h.2.2)])
          clear hb h24
          go_wp2_with fail
          go_ret
          exact ⟨by rw [HR.out]; rfl, HE7.out⟩
end Go.Proofs.Ytepggbhibpjkpaa
