/- The document's saved: an account in which a slot holds something; paid. The document's paid, Put. -/
import Derived.Test.YtiojfpdjnblkhaaQSdb
import Derived.Test.YtiojfpdjnblkhaaQRuo
import Derived.Test.YtiojfpdjnblkhaaQSua
import Derived.Test.YtiojfpdjnblkhaaQSpt
namespace Go.Proofs.Ytiojfpdjnblkhaa
open Go.ChangeShapes Go.WideShapes Go.ChangeAt Go.RowKit Go.Shelf

def svS (q : Nat × Nat) (t : List (Nat × Nat) × Bool) (y : Nat × Nat) : List (Nat × Nat) × Bool :=
 if y.1 = q.1 then t else if t.2 = false ∧ q.1 < y.1 then ((t.1 ++ [q]) ++ [y], true) else (t.1 ++ [y], t.2)
def svF (l : List (Nat × Nat)) (q : Nat × Nat) : List (Nat × Nat) × Bool := l.foldl (svS q) ([], decide (q.2 = 0))
def svL (l : List (Nat × Nat)) (q : Nat × Nat) : List (Nat × Nat) := if (svF l q).2 then (svF l q).1 else (svF l q).1 ++ [q]
theorem svF_more (l : List (Nat × Nat)) (x : Nat × Nat) (k : Nat) (hk : k < l.length) : svF (l.take (k + 1)) x = svS x (svF (l.take k) x) (l.getD k (0, 0)) := by
 unfold svF
 have e : l[k]? = some l[k] := List.getElem?_eq_getElem hk
 rw [List.take_add_one, List.foldl_append, e]
 simp [List.getD, e]
theorem svF_len' (x : Nat × Nat) : ∀ (l : List (Nat × Nat)) (t : List (Nat × Nat) × Bool), (l.foldl (svS x) t).1.length ≤ t.1.length + 2 * l.length
 | [], t => by simp
 | y :: l, t => by
  rw [List.foldl_cons]
  have ih := svF_len' x l (svS x t y)
  have h : (svS x t y).1.length ≤ t.1.length + 2 := by
   unfold svS
   split
   ·omega
   ·split <;> simp
  rw [List.length_cons]
  omega
theorem svF_len (x : Nat × Nat) (l : List (Nat × Nat)) (k : Nat) : (svF (l.take k) x).1.length ≤ 2 * l.length := by
 have := svF_len' x (l.take k) ([], decide (x.2 = 0))
 unfold svF
 have h : (l.take k).length ≤ l.length := by rw [List.length_take]; omega
 simp at this ⊢
 omega
theorem svF_laid (x : Nat × Nat) : ∀ (l : List (Nat × Nat)) (t : List (Nat × Nat)), l.foldl (svS x) (t, true) = (t ++ l.filter (fun p => !decide (p.1 = x.1)), true)
 | [], t => by simp
 | y :: l, t => by
  rw [List.foldl_cons, List.filter_cons]
  by_cases h : y.1 = x.1
  ·rw [show svS x (t, true) y = (t, true) by simp [svS, h], svF_laid x l t]
   simp [h]
  ·rw [show svS x (t, true) y = (t ++ [y], true) by simp [svS, h], svF_laid x l (t ++ [y])]
   simp [h]
theorem filt_apartP {l : List (Nat × Nat)} (h : l.Pairwise (fun p q => p.1 < q.1)) (x : Nat × Nat) : l.filter (fun p => !decide (p.1 = x.1)) = l.filter (fun q => decide (q.1 < x.1)) ++ l.filter (fun q => decide (x.1 < q.1)) := by
 induction l with
 | nil => rfl
 | cons y l ih =>
  obtain ⟨h1, h2⟩ := List.pairwise_cons.1 h
  have ih := ih h2
  simp only [List.filter_cons]
  rcases Nat.lt_trichotomy y.1 x.1 with hlt | heq | hgt
  ·have a : ¬ y.1 = x.1 := by omega
   have b : ¬ x.1 < y.1 := by omega
   simp [a, b, hlt, ih]
  ·have a : ¬ y.1 < x.1 := by omega
   have b : ¬ x.1 < y.1 := by omega
   simp [heq, ih]
  ·have a : ¬ y.1 = x.1 := by omega
   have b : ¬ y.1 < x.1 := by omega
   have c : l.filter (fun p => decide (p.1 < x.1)) = [] := List.filter_eq_nil_iff.2 fun p hp => by
    have := h1 p hp
    simp
    omega
   simp [a, b, hgt, ih, c]
theorem svF_free (x : Nat × Nat) : ∀ (l : List (Nat × Nat)) (_ : l.Pairwise (fun p q => p.1 < q.1)) (t : List (Nat × Nat)), (if (l.foldl (svS x) (t, false)).2 then (l.foldl (svS x) (t, false)).1 else (l.foldl (svS x) (t, false)).1 ++ [x]) = t ++ ((l.filter (fun q => decide (q.1 < x.1)) ++ [x]) ++ l.filter (fun q => decide (x.1 < q.1)))
 | [], _, t => by simp
 | y :: l, h, t => by
  obtain ⟨h1, h2⟩ := List.pairwise_cons.1 h
  rw [List.foldl_cons]
  rcases Nat.lt_trichotomy y.1 x.1 with hlt | heq | hgt
  ·have a : ¬ y.1 = x.1 := by omega
   have b : ¬ x.1 < y.1 := by omega
   rw [show svS x (t, false) y = (t ++ [y], false) by simp [svS, a, b], svF_free x l h2 (t ++ [y])]
   simp [hlt, b]
  ·rw [show svS x (t, false) y = (t, false) by simp [svS, heq], svF_free x l h2 t]
   simp [heq]
  ·have a : ¬ y.1 = x.1 := by omega
   have b : ¬ y.1 < x.1 := by omega
   rw [show svS x (t, false) y = ((t ++ [x]) ++ [y], true) by simp [svS, a, hgt], svF_laid, if_pos rfl, filt_apartP h2]
   have c : l.filter (fun q => decide (q.1 < x.1)) = [] := List.filter_eq_nil_iff.2 fun p hp => by
    have := h1 p hp
    simp
    omega
   have d : (y :: l).filter (fun q => decide (q.1 < x.1)) = [] := by
    rw [List.filter_cons, c]
    simp [b]
   rw [c, d]
   simp [hgt]
theorem rise_pair (l : List (Nat × Nat)) (h : RiseK l) : l.Pairwise (fun p q => p.1 < q.1) := by
 rw [List.pairwise_iff_getElem]
 intro i j hi hj hij
 have := h i j hij hj
 rw [List.getD_eq_getElem?_getD, List.getD_eq_getElem?_getD, List.getElem?_eq_getElem hi, List.getElem?_eq_getElem hj] at this
 exact this
theorem svL_sav {l : List (Nat × Nat)} (h : RiseK l) (q : Nat × Nat) : svL l q = savL l q := by
 have hp := rise_pair l h
 unfold svL svF savL
 by_cases hz : q.2 = 0
 ·rw [decide_eq_true hz, svF_laid, if_pos rfl, if_pos hz, filt_apartP hp]
  simp
 ·rw [decide_eq_false hz, svF_free q l hp [], List.nil_append, if_neg hz]
theorem rs_one_pair {W : World} {g : Nat} {p : Nat × Nat} (h : Cs W g 33 (pkc p)) : Rs W 8 (.slice (some ⟨g, 0, none⟩) 1 1) 1 (pkc p).toList := ⟨rfl, _, _, rfl, Nat.le_refl _, by unfold maxLen; omega, fun _ => ⟨g, 0, rfl, fun i z hz => by
 rw [Nat.zero_add]
 exact Cs.cell h i z (by rwa [Array.getElem?_toList] at hz)⟩⟩
def SvI (w : World) (lo ga gq g4 : Nat) (cs : Array Value) (q : Nat × Nat) (rv : Value) (lb : List (Nat × Nat)) (W : World) : Prop :=
 (Cs W ga 37 cs ∧ Cs W gq 33 (pkc q) ∧ Cs W g4 37 az0) ∧ OwnK W lo rv lb ∧ Ext w W ∧ lo ≤ W.heap.size ∧ w.heap.size ≤ lo ∧ ga < lo ∧ gq < lo ∧ g4 < lo
theorem SvI.ext {w : World} {lo ga gq g4 : Nat} {cs : Array Value} {q : Nat × Nat} {rv : Value} {lb : List (Nat × Nat)} {W W' : World} (h : SvI w lo ga gq g4 cs q rv lb W) (he : Ext W W') : SvI w lo ga gq g4 cs q rv lb W' :=
 ⟨⟨Cs.ext h.1.1 he, Cs.ext h.1.2.1 he, Cs.ext h.1.2.2 he⟩, h.2.1.ext he, h.2.2.1.trans he, Nat.le_trans h.2.2.2.1 he.size, h.2.2.2.2⟩
theorem SvI.append {w : World} {lo ga gq g4 : Nat} {cs : Array Value} {q : Nat × Nat} {rv rv' : Value} {lb : List (Nat × Nat)} {W W' : World} (h : SvI w lo ga gq g4 cs q rv lb W) {p : Nat × Nat} (hp : p.1 < M256 ∧ p.2 < M256) (hg : W.grownBy W' rv.ownBlock)
  (ho : W'.ownsRow lo 33 8 rv' (lb.length + 1) (pkf lb ++ (pkc p).toList)) : SvI w lo ga gq g4 cs q rv' (lb ++ [p]) W' := by
 obtain ⟨⟨h1, h2, h3⟩, h4, h5, h6, h7, h8, h9, h10⟩ := h
 refine ⟨⟨Cs.kept h1 hg (fun e => by have := (h4.1.lt ga (by first | exact e | exact e.symm)).1; omega), Cs.kept h2 hg (fun e => by have := (h4.1.lt gq (by first | exact e | exact e.symm)).1; omega), Cs.kept h3 hg (fun e => by have := (h4.1.lt g4 (by first | exact e | exact e.symm)).1; omega)⟩, ⟨?_, ?_⟩, Below.grown h5 hg h5.size (fun k e => Nat.le_trans h7 (h4.1.lt k e).1), Nat.le_trans h6 hg.size, h7, h8, h9, h10⟩
 ·rw [List.length_append, List.length_singleton, show pkf (lb ++ [p]) = pkf lb ++ (pkc p).toList by simp [pkf]]
  exact ho
 ·intro r hr
  rcases List.mem_append.1 hr with hr | hr
  ·exact h4.2 r hr
  ·rw [List.mem_singleton.1 hr]; exact hp
set_option maxRecDepth 100000 in
set_option maxHeartbeats 8000000 in
theorem refSaved_any (a : Ac) (u v : Value) (q : Nat × Nat) (w : World) (hu : Bs w u a.code) (hv : Pks w v a.store) (hq : q.1 < M256 ∧ q.2 < M256) (hz : a.store.length ≤ 1000000) :
  Calls Try.prog 95 #[.agg (acc a u v), .agg (pkc q)] w fun e w' => ∃ v', e = .returned (.agg (acc { a with store := svL a.store q } u v')) ∧ OwnK w' w.heap.size v' (svL a.store q) ∧ Ext w w' := by
 have HU := Lib.hid hu
 have HV := Lib.hid hv
 have HQ := Lib.hid hq
 have HDEF : Hid (svL a.store q = if (svF a.store q).2 then (svF a.store q).1 else (svF a.store q).1 ++ [q]) := Lib.hid rfl
 have HLEN := Lib.hid (svF_len q a.store)
 have HUO := Lib.hid (bs_one hu)
 obtain ⟨A1, c1, rfl, h1, h2⟩ := hv.len
 unfold maxLen at h2
 obtain ⟨cs, hcs⟩ : ∃ cs, acc a u (.slice A1 a.store.length c1) = cs := ⟨_, rfl⟩
 have HCS := Lib.hid hcs
 rw [hcs]
 obtain ⟨w0, hw0⟩ : ∃ w0, (((w.alloc (.cells cs 37)).alloc (.cells (pkc q) 33)).alloc (.cells az0 37)) = w0 := ⟨_, rfl⟩
 have HI0 : Hid (SvI w (w.heap.size + 1 + 1 + 1) w.heap.size (w.heap.size + 1) (w.heap.size + 1 + 1) cs q (.slice none 0 0) [] w0) := by
  rw [← hw0]
  exact Lib.hid ⟨⟨Cs.alloc (Cs.alloc (Cs.new _ _ _ _ rfl) _) _, Cs.alloc (Cs.new _ _ _ _ (by simp)) _, Cs.new _ _ _ _ (by simp)⟩, ⟨World.ownsRow_nil _ _ _ _, fun p hp => nomatch hp⟩, (((Ext.refl w).alloc _).alloc _).alloc _, by simp, by omega, by omega, by omega, by omega⟩
 have q7 : w0.cell? ⟨w.heap.size, 7, none⟩ = some (.slice A1 a.store.length c1) := HI0.out.1.1.cell 7 _ (by rw [← hcs]; rfl)
 obtain ⟨st, hst⟩ : ∃ st, a.store = st := ⟨_, rfl⟩
 have HST := Lib.hid hst
 rw [hst] at HV HDEF HLEN q7 h1 hz ⊢
 unfold az0 at hw0
 obtain ⟨qc, hqc⟩ : ∃ qc, pkc q = qc := ⟨_, rfl⟩
 have HQC := Lib.hid hqc
 rw [hqc] at hw0 ⊢
 have HW0 := Lib.hid hw0
 clear hu hv hq hcs hst hqc hw0
 go_enter Try.func95, Try.ntmps95
 go_upto_region 1 with fail
 rw [HW0.out]
 clear HW0
 obtain ⟨lo, hlo⟩ : ∃ lo, w.heap.size + 1 + 1 + 1 = lo := ⟨_, rfl⟩
 rw [hlo] at HI0
 obtain ⟨g4, hg4⟩ : ∃ g, w.heap.size + 1 + 1 = g := ⟨_, rfl⟩
 rw [hg4] at HI0 ⊢
 obtain ⟨gq, hgq⟩ : ∃ g, w.heap.size + 1 = g := ⟨_, rfl⟩
 rw [hgq] at HI0 ⊢
 obtain ⟨ga, hga⟩ : ∃ g, w.heap.size = g := ⟨_, rfl⟩
 rw [hga] at HI0 q7 ⊢
 have HAP := Lib.hid (show ga < gq ∧ gq < g4 ∧ g4 < lo by omega)
 have HGA := Lib.hid (show w.heap.size ≤ ga by omega)
 clear hlo hg4 hgq hga
 have HQV := Lib.hid (pkb_val HI0.out.1.2.1)
 obtain ⟨zb, hzb⟩ : ∃ zb, (q.2 == 0) = zb := ⟨_, rfl⟩
 have HZB := Lib.hid (show decide (q.2 = 0) = zb by rw [← hzb]; rfl)
 have HS0 : Hid (svF (st.take 0) q = ([], zb)) := Lib.hid (by unfold svF; rw [List.take_zero, List.foldl_nil, HZB.out])
 go_wp2_with (first
  | ((with_reducible refine wpList_load_wordIn ?_ (.tmp 9) ?_ gq 4 q.2 ?_ ?_ ?_); (exact rfl); (exact rfl); (exact rfl); (exact HQV.out))
  | ((with_reducible refine wpList_eql_word ?_ (.tmp 10) (.tmp 11) ?_ q.2 0 HQ.out.2 (by decide) ?_ ?_ ?_); (exact rfl); (exact rfl); (exact rfl); (exact rfl); rw [hzb]))
 go_loopw [5, 6, 16] (fun rv lv iv wr => ∃ k : Nat, k ≤ st.length ∧ lv = .bool (svF (st.take k) q).2 ∧ iv = .int .i64 k ∧ Hid (SvI w lo ga gq g4 cs q rv (svF (st.take k) q).1 wr)) (fun rv lv iv _ => st.length - (intOf iv).toNat)
 case atStart => exact ⟨0, by omega, by rw [HS0.out], rfl, by rw [HS0.out]; exact HI0⟩
 case round =>
  clear q7 HI0 HS0 HQV
  obtain ⟨k, hk, rfl, rfl, HJ⟩ := hrel
  obtain ⟨rv, rfl⟩ : ∃ rv, rv = u5 := ⟨_, rfl⟩
  by_cases hlt : k < st.length
  ·have hd : decide (k < st.length) = true := decide_eq_true hlt
   obtain ⟨b, o, rfl, hrg, hb1, hb2⟩ := HV.out.at k hlt
   have HR := Lib.hid (fun (j : Nat) (x : Value) (hx : (pkc (st.getD k (0, 0))).toList[j]? = some x) => HJ.out.2.2.1.cell (hrg j x hx))
   have HP := Lib.hid (And.intro hb1 hb2)
   have HSN := Lib.hid (svF_more st q k hlt)
   have HLL0 := Lib.hid (show (svF (st.take k) q).1.length + 1 + 1 ≤ 1099511627776 by have := HLEN.out k; omega)
   clear hrg hb1 hb2
   generalize st.getD k (0, 0) = p at *
   obtain ⟨⟨lb, laid⟩, htt⟩ : ∃ tt, svF (st.take k) q = tt := ⟨_, rfl⟩
   rw [htt] at HJ HSN HLL0 ⊢
   dsimp only at HJ HLL0 ⊢
   clear htt
   go_upto_region 6 with (first
    | ((with_reducible refine wpList_load_pair ?_ (.tmp 18) ?_ b (o + k * 8) p ?_ ?_ ?_); (exact rfl); (exact rfl); (exact rfl); (exact HR.out))
    | ((with_reducible refine wpList_store_agg rfl rfl 33 (.tmp 8) (.tmp 19) rfl pkinfo wr.heap.size (pkc (0, 0)) (pkc p) (pkc_one p) ?_ ?_ ?_ ?_ ?_ ?_); (exact rfl); (exact rfl); (exact Cs.new _ _ _ _ rfl); (exact rfl); (exact rfl); intro w4 k4 g4'; have K4 := Lib.hid k4; have HX4 := Lib.hid (((Ext.refl wr).alloc _).grown g4' (Nat.le_refl _)); clear k4 g4'))
   have HI := Lib.hid (HJ.out.ext HX4.out)
   obtain ⟨B, hB⟩ : ∃ B, wr.heap.size = B := ⟨_, rfl⟩
   rw [hB] at K4 ⊢
   have HKY := Lib.hid (pk_key (Cs.range0' K4.out))
   have HPP := Lib.hid (Cs.range0' K4.out)
   have HNB := Lib.hid (show rv.ownBlock ≠ some B from fun e => by have := (HJ.out.2.1.1.lt _ e).2; omega)
   have HQK := Lib.hid (pkb_key HI.out.1.2.1)
   have HQP := Lib.hid (Cs.range0' HI.out.1.2.1)
   clear HR HX4 HJ hB
   by_cases heq : p.1 = q.1
   ·have fe : (p.1 == q.1) = true := by rw [beq_iff_eq]; exact heq
    have HSN := Lib.hid (show svF (st.take (k + 1)) q = (lb, laid) by rw [HSN.out]; unfold svS; rw [if_pos heq])
    clear heq
    go_wp2_with (first
     | ((with_reducible refine wpList_load_wordIn ?_ (.tmp 20) ?_ B 0 p.1 ?_ ?_ ?_); (exact rfl); (exact rfl); (exact rfl); (exact HKY.out))
     | ((with_reducible refine wpList_load_wordIn ?_ (.tmp 22) ?_ gq 0 q.1 ?_ ?_ ?_); (exact rfl); (exact rfl); (exact rfl); (exact HQK.out))
     | ((with_reducible refine wpList_eql_word ?_ (.tmp 21) (.tmp 23) ?_ p.1 q.1 HP.out.1 HQ.out.1 ?_ ?_ ?_); (exact rfl); (exact rfl); (exact rfl); (exact rfl); rw [fe]))
    exact ⟨⟨k + 1, by omega, by first | (rw [HSN.out]; done) | (rw [HSN.out]; rfl), by go_num, by rw [HSN.out]; exact HI⟩, by simp [intOf]; omega⟩
   ·have fe : (p.1 == q.1) = false := by rw [beq_eq_false_iff_ne]; exact heq
    have HSN := Lib.hid (show svF (st.take (k + 1)) q = if laid = false ∧ q.1 < p.1 then ((lb ++ [q]) ++ [p], true) else (lb ++ [p], laid) by rw [HSN.out]; unfold svS; rw [if_neg heq])
    clear heq
    go_upto_region 7 with (first
     | ((with_reducible refine wpList_load_wordIn ?_ (.tmp 20) ?_ B 0 p.1 ?_ ?_ ?_); (exact rfl); (exact rfl); (exact rfl); (exact HKY.out))
     | ((with_reducible refine wpList_load_wordIn ?_ (.tmp 22) ?_ gq 0 q.1 ?_ ?_ ?_); (exact rfl); (exact rfl); (exact rfl); (exact HQK.out))
     | ((with_reducible refine wpList_eql_word ?_ (.tmp 21) (.tmp 23) ?_ p.1 q.1 HP.out.1 HQ.out.1 ?_ ?_ ?_); (exact rfl); (exact rfl); (exact rfl); (exact rfl); rw [fe]))
    cases laid with
    | true =>
     have HSN := Lib.hid (show svF (st.take (k + 1)) q = (lb ++ [p], true) by rw [HSN.out, if_neg (by simp)])
     have HLL := Lib.hid (show lb.length + 1 ≤ 1099511627776 by have := HLL0.out; omega)
     go_upto_region 9 with fail
     go_wp2_with (first
      | ((with_reducible refine wpList_load_pair ?_ (.tmp 8) ?_ B 0 p ?_ ?_ ?_); (exact rfl); (exact rfl); (exact rfl); (exact HPP.out))
      | ((with_reducible refine wpList_build_one ?_ (.tmp 40) 35 33 ?_ Try.underlying35 _ 8 64 pkinfo3 (by decide) (by decide) (pkc p) rfl ?_ ?_); (exact rfl); (exact rfl); (exact rfl))
      | (at_builtin; go_loud (refine wpList_append_row ?_ (.tmp 39) (.tmp 41) 35 ?_ lo 33 Try.underlying35 _ 8 64 pkinfo3 ?_ (by decide) rv lb.length (pkf lb) ?_ (own_ext HI.out.2.1.1 ((Ext.refl _).alloc (.cells (pkc p) 33))) (.slice (some ⟨w4.heap.size, 0, none⟩) 1 1) 1 (pkc p).toList ?_ (rs_one_pair (Cs.new _ _ _ _ rfl)) (pkc_ones p) HLL.out (by decide) (Nat.le_trans HI.out.2.2.2.1 (by simp)) ?_; (exact rfl); (exact rfl); (exact rfl); (exact rfl); (exact rfl); intro v5 w5 o5 g5 b5; have HI5 := Lib.hid (HI.out.append HP.out ((grown_then ((Ext.refl _).alloc (.cells (pkc p) 33)) g5)) o5); have G5 := Lib.hid g5; clear o5 g5 b5)))
     exact ⟨⟨k + 1, by omega, by first | (rw [HSN.out]; done) | (rw [HSN.out]; rfl), by go_num, by rw [HSN.out]; exact HI5⟩, by simp [intOf]; omega⟩
    | false =>
     have HCL := Lib.hid (cmp_lt0 q.1 p.1)
     obtain ⟨r, hr⟩ : ∃ r, cmpN q.1 p.1 = r := ⟨_, rfl⟩
     rw [hr] at HCL
     have HRR := Lib.hid hr
     clear hr
     by_cases hlx : q.1 < p.1
     ·have fl : decide (r < 0) = true := by rw [HCL.out]; exact decide_eq_true hlx
      have HSF := Lib.hid (show svF (st.take (k + 1)) q = ((lb ++ [q]) ++ [p], true) by rw [HSN.out, if_pos ⟨rfl, hlx⟩])
      clear hlx
      go_wp2_with (first
       | ((with_reducible refine wpList_load_wordIn ?_ (.tmp 28) ?_ gq 0 q.1 ?_ ?_ ?_); (exact rfl); (exact rfl); (exact rfl); (exact HQK.out))
       | ((with_reducible refine wpList_load_wordIn ?_ (.tmp 30) ?_ B 0 p.1 ?_ ?_ ?_); (exact rfl); (exact rfl); (exact rfl); (exact HKY.out)))
      refine (refCmp_any q.1 p.1 _ HQ.out.1 HP.out.1).mono ?_
      rintro e w6 ⟨rfl, he⟩
      rw [HRR.out]
      have HI := Lib.hid (HI.out.ext he)
      have HQP := Lib.hid (Cs.range0' HI.out.1.2.1)
      have HPP := Lib.hid (Cs.range0' (Cs.ext K4.out he))
      have HBL := Lib.hid (show B < w6.heap.size from Cs.lt (Cs.ext K4.out he))
      have K6 := Lib.hid (Cs.ext K4.out he)
      have HLL := Lib.hid (show lb.length + 1 ≤ 1099511627776 by have := HLL0.out; omega)
      clear he HPP K4 HKY HQK
      go_upto_region 9 with (first
       | ((with_reducible refine wpList_load_pair ?_ (.tmp 3) ?_ gq 0 q ?_ ?_ ?_); (exact rfl); (exact rfl); (exact rfl); (exact HQP.out))
       | ((with_reducible refine wpList_build_one ?_ (.tmp 36) 35 33 ?_ Try.underlying35 _ 8 64 pkinfo3 (by decide) (by decide) (pkc q) rfl ?_ ?_); (exact rfl); (exact rfl); (exact rfl))
       | (at_builtin; go_loud (refine wpList_append_row ?_ (.tmp 35) (.tmp 37) 35 ?_ lo 33 Try.underlying35 _ 8 64 pkinfo3 ?_ (by decide) rv lb.length (pkf lb) ?_ (own_ext HI.out.2.1.1 ((Ext.refl _).alloc (.cells (pkc q) 33))) (.slice (some ⟨w6.heap.size, 0, none⟩) 1 1) 1 (pkc q).toList ?_ (rs_one_pair (Cs.new _ _ _ _ rfl)) (pkc_ones q) HLL.out (by decide) (Nat.le_trans HI.out.2.2.2.1 (by simp)) ?_; (exact rfl); (exact rfl); (exact rfl); (exact rfl); (exact rfl); intro v5 w5 o5 g5 b5; have HI5 := Lib.hid (HI.out.append HQ.out ((grown_then ((Ext.refl _).alloc (.cells (pkc q) 33)) g5)) o5); have G5 := Lib.hid g5; clear o5 g5 b5)))
      have HPP := Lib.hid (Cs.range0' (Cs.kept K6.out (grown_then ((Ext.refl _).alloc (.cells (pkc q) 33)) G5.out) (fun e => HNB.out e.symm)))
      have HI := Lib.hid HI5.out
      have HLL := Lib.hid (show (lb ++ [q]).length + 1 ≤ 1099511627776 by have := HLL0.out; simp; omega)
      clear HI5 G5 HNB K6 HBL HQP
      generalize lb ++ [q] = lb at *
      obtain ⟨rv, hrv⟩ : ∃ rv, v5 = rv := ⟨_, rfl⟩
      rw [hrv] at HI ⊢
      clear hrv
      go_wp2_with (first
       | ((with_reducible refine wpList_load_pair ?_ (.tmp 8) ?_ B 0 p ?_ ?_ ?_); (exact rfl); (exact rfl); (exact rfl); (exact HPP.out))
       | ((with_reducible refine wpList_build_one ?_ (.tmp 40) 35 33 ?_ Try.underlying35 _ 8 64 pkinfo3 (by decide) (by decide) (pkc p) rfl ?_ ?_); (exact rfl); (exact rfl); (exact rfl))
       | (at_builtin; go_loud (refine wpList_append_row ?_ (.tmp 39) (.tmp 41) 35 ?_ lo 33 Try.underlying35 _ 8 64 pkinfo3 ?_ (by decide) rv lb.length (pkf lb) ?_ (own_ext HI.out.2.1.1 ((Ext.refl _).alloc (.cells (pkc p) 33))) (.slice (some ⟨w5.heap.size, 0, none⟩) 1 1) 1 (pkc p).toList ?_ (rs_one_pair (Cs.new _ _ _ _ rfl)) (pkc_ones p) HLL.out (by decide) (Nat.le_trans HI.out.2.2.2.1 (by simp)) ?_; (exact rfl); (exact rfl); (exact rfl); (exact rfl); (exact rfl); intro v5 w5 o5 g5 b5; have HI5 := Lib.hid (HI.out.append HP.out ((grown_then ((Ext.refl _).alloc (.cells (pkc p) 33)) g5)) o5); have G5 := Lib.hid g5; clear o5 g5 b5)))
      exact ⟨⟨k + 1, by omega, by first | (rw [HSF.out]; done) | (rw [HSF.out]; rfl), by go_num, by rw [HSF.out]; exact HI5⟩, by simp [intOf]; omega⟩
     ·have fl : decide (r < 0) = false := by rw [HCL.out]; exact decide_eq_false hlx
      have HSF := Lib.hid (show svF (st.take (k + 1)) q = (lb ++ [p], false) by rw [HSN.out, if_neg (fun h => hlx h.2)])
      clear hlx
      go_wp2_with (first
       | ((with_reducible refine wpList_load_wordIn ?_ (.tmp 28) ?_ gq 0 q.1 ?_ ?_ ?_); (exact rfl); (exact rfl); (exact rfl); (exact HQK.out))
       | ((with_reducible refine wpList_load_wordIn ?_ (.tmp 30) ?_ B 0 p.1 ?_ ?_ ?_); (exact rfl); (exact rfl); (exact rfl); (exact HKY.out)))
      refine (refCmp_any q.1 p.1 _ HQ.out.1 HP.out.1).mono ?_
      rintro e w6 ⟨rfl, he⟩
      rw [HRR.out]
      have HI := Lib.hid (HI.out.ext he)
      have HPP := Lib.hid (Cs.range0' (Cs.ext K4.out he))
      have HLL := Lib.hid (show lb.length + 1 ≤ 1099511627776 by have := HLL0.out; omega)
      clear he K4 HKY HQK HQP
      go_wp2_with (first
       | ((with_reducible refine wpList_load_pair ?_ (.tmp 8) ?_ B 0 p ?_ ?_ ?_); (exact rfl); (exact rfl); (exact rfl); (exact HPP.out))
       | ((with_reducible refine wpList_build_one ?_ (.tmp 40) 35 33 ?_ Try.underlying35 _ 8 64 pkinfo3 (by decide) (by decide) (pkc p) rfl ?_ ?_); (exact rfl); (exact rfl); (exact rfl))
       | (at_builtin; go_loud (refine wpList_append_row ?_ (.tmp 39) (.tmp 41) 35 ?_ lo 33 Try.underlying35 _ 8 64 pkinfo3 ?_ (by decide) rv lb.length (pkf lb) ?_ (own_ext HI.out.2.1.1 ((Ext.refl _).alloc (.cells (pkc p) 33))) (.slice (some ⟨w6.heap.size, 0, none⟩) 1 1) 1 (pkc p).toList ?_ (rs_one_pair (Cs.new _ _ _ _ rfl)) (pkc_ones p) HLL.out (by decide) (Nat.le_trans HI.out.2.2.2.1 (by simp)) ?_; (exact rfl); (exact rfl); (exact rfl); (exact rfl); (exact rfl); intro v5 w5 o5 g5 b5; have HI5 := Lib.hid (HI.out.append HP.out ((grown_then ((Ext.refl _).alloc (.cells (pkc p) 33)) g5)) o5); have G5 := Lib.hid g5; clear o5 g5 b5)))
      exact ⟨⟨k + 1, by omega, by first | (rw [HSF.out]; done) | (rw [HSF.out]; rfl), by go_num, by rw [HSF.out]; exact HI5⟩, by simp [intOf]; omega⟩
  ·obtain rfl : k = st.length := by omega
   rw [List.take_length] at HJ ⊢
   have HLL0 := Lib.hid (show (svF st q).1.length + 1 ≤ 1099511627776 by have := HLEN.out st.length; rw [List.take_length] at this; omega)
   obtain ⟨⟨lb, laid⟩, htt⟩ : ∃ tt, svF st q = tt := ⟨_, rfl⟩
   rw [htt] at HJ HDEF HLL0 ⊢
   dsimp only at HJ HLL0 ⊢
   clear htt
   have HI := Lib.hid HJ.out
   have HLL := Lib.hid HLL0.out
   clear HJ HLL0
   cases laid with
   | true =>
    have HLB := Lib.hid (show svL st q = lb by rw [HDEF.out]; rfl)
    clear HDEF
    obtain ⟨lc, hlc⟩ : ∃ lc, lb = lc := ⟨_, rfl⟩
    rw [hlc] at HI HLB
    clear hlc
    obtain ⟨AT, cT, rfl, _, _⟩ := HI.out.2.1.pks.len
    go_upto_region 13 with fail
    have c7 : wr.cell? ⟨ga, 7, none⟩ = some (.slice A1 st.length c1) := HI.out.1.1.cell 7 _ (by rw [← HCS.out, HST.out]; rfl)
    have f7 : wr.frozen? ⟨ga, 7, none⟩ = false := Cs.frozen HI.out.1.1 7
    have K8 := Lib.hid (show Ab (wr.setCell ⟨ga, 7, none⟩ (.slice AT lc.length cT)) ga { a with store := lc } u (.slice AT lc.length cT) from by have := Cs.set HI.out.1.1 7 (.slice AT lc.length cT); rw [← HCS.out] at this; simpa [Ab, acc] using this)
    have Z8 := Lib.hid (Cs.kept HI.out.1.2.2 (grown_set wr ga 7 (.slice AT lc.length cT)) (some_ne (by have := HAP.out; omega)))
    have HE8 := Lib.hid (HI.out.2.2.1.grown (grown_set wr ga 7 (.slice AT lc.length cT)) HGA.out)
    have HO8 : Hid (OwnK _ lo (.slice AT lc.length cT) lc) := Lib.hid (show OwnK _ _ _ _ from ⟨World.ownsRow.kept HI.out.2.1.1 (grown_set wr ga 7 (.slice AT lc.length cT)) (.inr (fun e => by have := (World.ownsRow.lt HI.out.2.1.1 ga e).1; have := HAP.out; omega)), HI.out.2.1.2⟩)
    go_upto_region 14 with fail
    generalize wr.setCell ⟨ga, 7, none⟩ (.slice AT lc.length cT) = w8 at *
    clear c7 f7 HI
    go_wp2_with (first
     | ((with_reducible refine wpList_load_ac ?_ (.tmp 2) ?_ ga 0 { a with store := lc } u (.slice AT lc.length cT) ?_ ?_ ?_); (exact rfl); (exact rfl); (exact rfl); (exact K8.out.range))
     | ((with_reducible refine wpList_store_ac ?_ ?_ (.tmp 4) (.tmp 52) ?_ g4 az0 { a with store := lc } u (.slice AT lc.length cT) ?_ ?_ ?_ ?_ ?_ ?_ ?_); (exact rfl); (exact rfl); (exact rfl); (exact HUO.out); (exact rfl); (exact rfl); (exact rfl); (exact Z8.out); (exact rfl); intro w9 k9 g9; have K9 := Lib.hid k9; have G9 := Lib.hid g9; clear k9 g9))
    refine bodyPost_ret (results_ac Try.results95 _ _ g4 _ _ _ rfl K9.out) rfl ?_
    rw [HLB.out]
    exact ⟨_, rfl, OwnK.mono (base := lo) ⟨World.ownsRow.kept HO8.out.1 G9.out (.inr (fun e => by have := (World.ownsRow.lt HO8.out.1 g4 e).1; have := HAP.out; omega)), HO8.out.2⟩ (by have := HAP.out; have := HGA.out; omega), HE8.out.grown G9.out (by have := HAP.out; have := HGA.out; omega)⟩
   | false =>
    have HLB := Lib.hid (show svL st q = lb ++ [q] by rw [HDEF.out]; rfl)
    clear HDEF
    have HQP := Lib.hid (Cs.range0' HI.out.1.2.1)
    go_upto_region 13 with (first
     | ((with_reducible refine wpList_load_pair ?_ (.tmp 3) ?_ gq 0 q ?_ ?_ ?_); (exact rfl); (exact rfl); (exact rfl); (exact HQP.out))
     | ((with_reducible refine wpList_build_one ?_ (.tmp 47) 35 33 ?_ Try.underlying35 _ 8 64 pkinfo3 (by decide) (by decide) (pkc q) rfl ?_ ?_); (exact rfl); (exact rfl); (exact rfl))
     | (at_builtin; go_loud (refine wpList_append_row ?_ (.tmp 46) (.tmp 48) 35 ?_ lo 33 Try.underlying35 _ 8 64 pkinfo3 ?_ (by decide) rv lb.length (pkf lb) ?_ (own_ext HI.out.2.1.1 ((Ext.refl _).alloc (.cells (pkc q) 33))) (.slice (some ⟨wr.heap.size, 0, none⟩) 1 1) 1 (pkc q).toList ?_ (rs_one_pair (Cs.new _ _ _ _ rfl)) (pkc_ones q) HLL.out (by decide) (Nat.le_trans HI.out.2.2.2.1 (by simp)) ?_; (exact rfl); (exact rfl); (exact rfl); (exact rfl); (exact rfl); intro v5 w5 o5 g5 b5; have HI5 := Lib.hid (HI.out.append HQ.out ((grown_then ((Ext.refl _).alloc (.cells (pkc q) 33)) g5)) o5); have G5 := Lib.hid g5; clear o5 g5 b5)))
    have HI := Lib.hid HI5.out
    clear HI5 G5 HQP
    generalize lb ++ [q] = lc at *
    obtain ⟨AT, cT, rfl, _, _⟩ := HI.out.2.1.pks.len
    have c7 : w5.cell? ⟨ga, 7, none⟩ = some (.slice A1 st.length c1) := HI.out.1.1.cell 7 _ (by rw [← HCS.out, HST.out]; rfl)
    have f7 : w5.frozen? ⟨ga, 7, none⟩ = false := Cs.frozen HI.out.1.1 7
    have K8 := Lib.hid (show Ab (w5.setCell ⟨ga, 7, none⟩ (.slice AT lc.length cT)) ga { a with store := lc } u (.slice AT lc.length cT) from by have := Cs.set HI.out.1.1 7 (.slice AT lc.length cT); rw [← HCS.out] at this; simpa [Ab, acc] using this)
    have Z8 := Lib.hid (Cs.kept HI.out.1.2.2 (grown_set w5 ga 7 (.slice AT lc.length cT)) (some_ne (by have := HAP.out; omega)))
    have HE8 := Lib.hid (HI.out.2.2.1.grown (grown_set w5 ga 7 (.slice AT lc.length cT)) HGA.out)
    have HO8 : Hid (OwnK _ lo (.slice AT lc.length cT) lc) := Lib.hid (show OwnK _ _ _ _ from ⟨World.ownsRow.kept HI.out.2.1.1 (grown_set w5 ga 7 (.slice AT lc.length cT)) (.inr (fun e => by have := (World.ownsRow.lt HI.out.2.1.1 ga e).1; have := HAP.out; omega)), HI.out.2.1.2⟩)
    go_upto_region 14 with fail
    generalize w5.setCell ⟨ga, 7, none⟩ (.slice AT lc.length cT) = w8 at *
    clear c7 f7 HI
    go_wp2_with (first
     | ((with_reducible refine wpList_load_ac ?_ (.tmp 2) ?_ ga 0 { a with store := lc } u (.slice AT lc.length cT) ?_ ?_ ?_); (exact rfl); (exact rfl); (exact rfl); (exact K8.out.range))
     | ((with_reducible refine wpList_store_ac ?_ ?_ (.tmp 4) (.tmp 52) ?_ g4 az0 { a with store := lc } u (.slice AT lc.length cT) ?_ ?_ ?_ ?_ ?_ ?_ ?_); (exact rfl); (exact rfl); (exact rfl); (exact HUO.out); (exact rfl); (exact rfl); (exact rfl); (exact Z8.out); (exact rfl); intro w9 k9 g9; have K9 := Lib.hid k9; have G9 := Lib.hid g9; clear k9 g9))
    refine bodyPost_ret (results_ac Try.results95 _ _ g4 _ _ _ rfl K9.out) rfl ?_
    rw [HLB.out]
    exact ⟨_, rfl, OwnK.mono (base := lo) ⟨World.ownsRow.kept HO8.out.1 G9.out (.inr (fun e => by have := (World.ownsRow.lt HO8.out.1 g4 e).1; have := HAP.out; omega)), HO8.out.2⟩ (by have := HAP.out; have := HGA.out; omega), HE8.out.grown G9.out (by have := HAP.out; have := HGA.out; omega)⟩
end Go.Proofs.Ytiojfpdjnblkhaa
namespace Go.Proofs.Ytiojfpdjnblkhaa
open Go.ChangeShapes Go.WideShapes Go.ChangeAt Go.RowKit Go.Shelf

set_option maxRecDepth 100000 in
set_option maxHeartbeats 2000000 in
theorem refPaid_any (p : Ac) (u v : Value) (n : Nat) (w : World) (hu : u.oneCell' = true) (hv : v.oneCell' = true) :
  Calls Try.prog 99 #[.agg (acc p u v), wv n] w fun e w' => e = .returned (.agg (acc (setB p n) u v)) ∧ Ext w w' := by
 have HU := Lib.hid hu
 have HV := Lib.hid hv
 obtain ⟨w0, hw0⟩ : ∃ w0, ((w.alloc (.cells (acc p u v) 37)).alloc (.cells (wc n) 31)).alloc (.cells az0 37) = w0 := ⟨_, rfl⟩
 have HK : Hid (Ab w0 w.heap.size p u v ∧ Wd w0 (w.heap.size + 1) 31 n ∧ Cs w0 (w.heap.size + 1 + 1) 37 az0 ∧ Ext w w0) := by
  rw [← hw0]
  exact Lib.hid ⟨Cs.alloc (Cs.alloc (Cs.new _ _ _ _ rfl) _) _, Cs.alloc (Cs.new _ _ _ _ (by simp)) _, Cs.new _ _ _ _ (by simp), (((Ext.refl w).alloc _).alloc _).alloc _⟩
 unfold az0 at hw0
 clear hu hv
 obtain ⟨cs, hcs⟩ : ∃ cs, acc p u v = cs := ⟨_, rfl⟩
 rw [hcs] at hw0 ⊢
 have HW0 := Lib.hid hw0
 clear hcs hw0
 unfold wv
 go_enter Try.func99, Try.ntmps99
 go_upto_region 1 with fail
 rw [HW0.out]
 clear HW0
 go_wp2_with (first
  | ((with_reducible refine wpList_load_word ?_ 31 28 (.tmp 3) ?_ Try.underlying31 winfo (w.heap.size + 1) n ?_ ?_ ?_); (exact rfl); (exact rfl); (exact rfl); (exact HK.out.2.1))
  | ((with_reducible refine wpList_store_bal ?_ ?_ (.tmp 6) (.tmp 5) ?_ w.heap.size p u v n ?_ ?_ ?_ ?_); (exact rfl); (exact rfl); (exact rfl); (exact rfl); (exact rfl); (exact HK.out.1); intro w2 k2 g2; have K2 := Lib.hid k2; have Z2 := Lib.hid (Cs.kept HK.out.2.2.1 g2 (some_ne (by omega))); have HE2 := Lib.hid (HK.out.2.2.2.grown g2 (Nat.le_refl _)); clear k2 g2)
  | ((with_reducible refine wpList_load_ac ?_ (.tmp 2) ?_ w.heap.size 0 { p with bal := n } u v ?_ ?_ ?_); (exact rfl); (exact rfl); (exact rfl); (exact K2.out.range))
  | ((with_reducible refine wpList_store_ac ?_ ?_ (.tmp 4) (.tmp 7) ?_ (w.heap.size + 1 + 1) az0 { p with bal := n } u v ?_ ?_ ?_ ?_ ?_ ?_ ?_); (exact rfl); (exact rfl); (exact rfl); (exact HU.out); (exact HV.out); (exact rfl); (exact rfl); (exact Z2.out); (exact rfl); intro w5 k5 g5; have K5 := Lib.hid k5; have HE5 := Lib.hid (HE2.out.grown g5 (by omega)); clear k5 g5))
 exact bodyPost_ret (results_ac Try.results99 _ _ (w.heap.size + 1 + 1) _ _ _ rfl K5.out) rfl ⟨rfl, HE5.out⟩
def putR (l : List Ac) (x : Ac) : List Ac × Int := if x.rightB = false then ([], 161) else if x.emptyB = false ∧ roomR l x.addr = false then ([], 6) else if (sumW (bals (wiL l x))).2 then ([], 2) else (wiL l x, 0)
set_option maxRecDepth 100000 in
set_option maxHeartbeats 8000000 in
theorem refPut_any (sv : Value) (l : List Ac) (x : Ac) (ux vx : Value) (w : World) (hs : Acs w sv l) (hx : x.ok) (hux : Bs w ux x.code) (hvx : Pks w vx x.store) (hl : l.length ≤ 1000)
  (hsz : ∀ q ∈ l, q.code.length ≤ 1000000 ∧ q.store.length ≤ 1000000) (hxz : x.code.length ≤ 1000000 ∧ x.store.length ≤ 1000000) :
  Calls Try.prog 44 #[.agg #[sv], .agg (acc x ux vx)] w (RetS w (putR l x)) := by
 have HDEF : Hid (putR l x = if x.rightB = false then ([], 161) else if x.emptyB = false ∧ roomR l x.addr = false then ([], 6) else if (sumW (bals (wiL l x))).2 then ([], 2) else (wiL l x, 0)) := Lib.hid rfl
 have HS := Lib.hid hs
 have HSZ := Lib.hid hsz
 have HX := Lib.hid (And.intro hx (And.intro hux (And.intro hvx hxz)))
 have HWN := Lib.hid (wiL_len l x)
 obtain ⟨A0, c0, rfl, h1, h2⟩ := hs.len
 obtain ⟨w0, hw0⟩ : ∃ w0, (((w.alloc (.cells #[.slice A0 l.length c0] 24)).alloc (.cells (acc x ux vx) 37)).alloc (.cells #[.slice none 0 0] 24)) = w0 := ⟨_, rfl⟩
 have HJ0 : Hid (PtI w w.heap.size (w.heap.size + 1) (w.heap.size + 1 + 1) (.slice A0 l.length c0) x ux vx w0) := by
  rw [← hw0]
  exact Lib.hid ⟨Cs.alloc (Cs.alloc (Cs.new _ _ _ _ rfl) _) _, Cs.alloc (Cs.new _ _ _ _ (by simp)) _, Cs.new _ _ _ _ (by simp), (((Ext.refl w).alloc _).alloc _).alloc _⟩
 have HXR := Lib.hid (Ab.range HJ0.out.2.1)
 have HW0 := Lib.hid hw0
 clear hs hsz hw0 hx hux hvx hxz
 go_enter Try.func44, Try.ntmps44
 go_upto_region 1 with fail
 rw [HW0.out]
 clear HW0
 go_wp2_with ((with_reducible refine wpList_load_ac ?_ (.tmp 3) ?_ (w.heap.size + 1) 0 x ux vx ?_ ?_ ?_); (exact rfl); (exact rfl); (exact rfl); (exact HXR.out))
 refine (rightAccount_any x ux vx _ HX.out.1 (HX.out.2.1.ext HJ0.out.2.2.2) (HX.out.2.2.1.ext HJ0.out.2.2.2)).mono ?_
 rintro e w1 ⟨rfl, he⟩
 have HJ1 := Lib.hid (HJ0.out.ext he)
 clear he HJ0 HXR
 cases hr : x.rightB with
 | false =>
  have HF := Lib.hid (show putR l x = ([], 161) by rw [HDEF.out, hr]; rfl)
  clear hr HDEF
  have r1 : w1.cell? ⟨w.heap.size + 1 + 1, 0, none⟩ = some (.slice none 0 0) := HJ1.out.2.2.1.cell 0 _ rfl
  have p1 : w1.frozen? ⟨w.heap.size + 1 + 1, 0, none⟩ = false := HJ1.out.2.2.1.frozen 0
  go_wp2_with fail
  refine bodyPost_ret (results_st_err Try.results44 _ _ (w.heap.size + 1 + 1) (.slice none 0 0) rfl (by simpa using Cs.set HJ1.out.2.2.1 0 (.slice none 0 0))) rfl ?_
  exact ⟨_, by rw [HF.out]; rfl, by rw [HF.out]; exact RwA.nil _ _ _, HJ1.out.2.2.2.grown (grown_set _ _ _ _) (by omega)⟩
 | true =>
  have HDEF := Lib.hid (show putR l x = if x.emptyB = false ∧ roomR l x.addr = false then ([], 6) else if (sumW (bals (wiL l x))).2 then ([], 2) else (wiL l x, 0) by rw [HDEF.out, hr]; rfl)
  have HXR := Lib.hid (Ab.range HJ1.out.2.1)
  clear hr
  go_wp2_with ((with_reducible refine wpList_load_ac ?_ (.tmp 3) ?_ (w.heap.size + 1) 0 x ux vx ?_ ?_ ?_); (exact rfl); (exact rfl); (exact rfl); (exact HXR.out))
  refine (refEmpty_any x ux vx _ HX.out.1 (HX.out.2.1.ext HJ1.out.2.2.2) (HX.out.2.2.1.ext HJ1.out.2.2.2)).mono ?_
  rintro e w2 ⟨rfl, he⟩
  have HJ2 := Lib.hid (HJ1.out.ext he)
  clear he HJ1 HXR
  cases hem : x.emptyB with
  | false =>
   have HDEF := Lib.hid (show putR l x = if roomR l x.addr = false then ([], 6) else if (sumW (bals (wiL l x))).2 then ([], 2) else (wiL l x, 0) by rw [HDEF.out, hem]; simp)
   have q2 : w2.cell? ⟨w.heap.size, 0, none⟩ = some (.slice A0 l.length c0) := HJ2.out.1.cell 0 _ rfl
   have a2 : w2.cell? ⟨w.heap.size + 1, 0, none⟩ = some (.int .u64 (x.addr : Nat)) := Ab.addr HJ2.out.2.1
   clear hem
   go_wp2_with fail
   refine (refRoom_any _ l x.addr _ (HS.out.ext HJ2.out.2.2.2) HX.out.1.1 (by omega)).mono ?_
   rintro e w3 ⟨rfl, he⟩
   have HJ3 := Lib.hid (HJ2.out.ext he)
   clear he HJ2 q2 a2
   cases hro : roomR l x.addr with
   | false =>
    have HF := Lib.hid (show putR l x = ([], 6) by rw [HDEF.out, hro]; rfl)
    clear hro HDEF
    have r1 : w3.cell? ⟨w.heap.size + 1 + 1, 0, none⟩ = some (.slice none 0 0) := HJ3.out.2.2.1.cell 0 _ rfl
    have p1 : w3.frozen? ⟨w.heap.size + 1 + 1, 0, none⟩ = false := HJ3.out.2.2.1.frozen 0
    go_wp2_with fail
    refine bodyPost_ret (results_st_err Try.results44 _ _ (w.heap.size + 1 + 1) (.slice none 0 0) rfl (by simpa using Cs.set HJ3.out.2.2.1 0 (.slice none 0 0))) rfl ?_
    exact ⟨_, by rw [HF.out]; rfl, by rw [HF.out]; exact RwA.nil _ _ _, HJ3.out.2.2.2.grown (grown_set _ _ _ _) (by omega)⟩
   | true =>
    have HDEF := Lib.hid (show putR l x = if (sumW (bals (wiL l x))).2 then ([], 2) else (wiL l x, 0) by rw [HDEF.out, hro]; rfl)
    clear hro
    have HXR := Lib.hid (Ab.range HJ3.out.2.1)
    have q2 : w3.cell? ⟨w.heap.size, 0, none⟩ = some (.slice A0 l.length c0) := HJ3.out.1.cell 0 _ rfl
    go_wp2_with ((with_reducible refine wpList_load_ac ?_ (.tmp 3) ?_ (w.heap.size + 1) 0 x ux vx ?_ ?_ ?_); (exact rfl); (exact rfl); (exact rfl); (exact HXR.out))
    refine (refWith_any _ l x ux vx _ (HS.out.ext HJ3.out.2.2.2) HX.out.1 (HX.out.2.1.ext HJ3.out.2.2.2) (HX.out.2.2.1.ext HJ3.out.2.2.2) (by omega) HSZ.out HX.out.2.2.2).mono ?_
    rintro e w4 ⟨v4, rfl, hr4, he⟩
    have HJ4 := Lib.hid (HJ3.out.ext he)
    have HR4 := Lib.hid (hr4.low HJ3.out.2.2.2.size)
    obtain ⟨A4, c4, rfl⟩ := hr4.shape
    clear hr4 he HJ3 q2 HXR
    generalize wiL l x = m at *
    have HB4 := Lib.hid (show w.heap.size + 1 + 1 < w4.heap.size from Cs.lt HJ4.out.2.2.1)
    have C6 : Hid (Cs (w4.alloc (.cells #[.slice A4 m.length c4] 24)) w4.heap.size 24 #[.slice A4 m.length c4]) := Lib.hid (Cs.new _ _ _ _ rfl)
    have HX6 : Hid (Ext w4 (w4.alloc (.cells #[.slice A4 m.length c4] 24))) := Lib.hid ((Ext.refl w4).alloc _)
    go_upto_region 6 with fail
    generalize w4.alloc (.cells #[.slice A4 m.length c4] 24) = w6 at *
    generalize hg6 : w4.heap.size = g6 at *
    have HJ6 := Lib.hid (HJ4.out.ext HX6.out)
    have HR6 := Lib.hid (HR4.out.ext HX6.out)
    have q6 := C6.out.cell 0 _ rfl
    clear HJ4 HR4 HX6 hg6
    go_wp2_with fail
    refine (refFits_any _ m _ HR6.out.acs (by have := HWN.out; omega)).mono ?_
    rintro e w7 ⟨rfl, he⟩
    have HJ7 := Lib.hid (HJ6.out.ext he)
    have HR7 := Lib.hid (HR6.out.ext he)
    have q7 := (Cs.ext C6.out he).cell 0 _ rfl
    clear he HJ6 HR6 q6
    cases hov : (sumW (bals m)).2 with
    | true =>
     have HF := Lib.hid (show putR l x = ([], 2) by rw [HDEF.out, hov]; rfl)
     clear hov HDEF q7
     have r1 : w7.cell? ⟨w.heap.size + 1 + 1, 0, none⟩ = some (.slice none 0 0) := HJ7.out.2.2.1.cell 0 _ rfl
     have p1 : w7.frozen? ⟨w.heap.size + 1 + 1, 0, none⟩ = false := HJ7.out.2.2.1.frozen 0
     go_wp2_with fail
     refine bodyPost_ret (results_st_err Try.results44 _ _ (w.heap.size + 1 + 1) (.slice none 0 0) rfl (by simpa using Cs.set HJ7.out.2.2.1 0 (.slice none 0 0))) rfl ?_
     exact ⟨_, by rw [HF.out]; rfl, by rw [HF.out]; exact RwA.nil _ _ _, HJ7.out.2.2.2.grown (grown_set _ _ _ _) (by omega)⟩
    | false =>
     have HF := Lib.hid (show putR l x = (m, 0) by rw [HDEF.out, hov]; rfl)
     clear hov HDEF
     have r1 : w7.cell? ⟨w.heap.size + 1 + 1, 0, none⟩ = some (.slice none 0 0) := HJ7.out.2.2.1.cell 0 _ rfl
     have p1 : w7.frozen? ⟨w.heap.size + 1 + 1, 0, none⟩ = false := HJ7.out.2.2.1.frozen 0
     go_wp2_with fail
     refine bodyPost_ret (results_st_err Try.results44 _ _ (w.heap.size + 1 + 1) (.slice A4 m.length c4) rfl (by simpa using Cs.set HJ7.out.2.2.1 0 (.slice A4 m.length c4))) rfl ?_
     exact ⟨_, by rw [HF.out]; rfl, by rw [HF.out]; exact HR7.out.keptS (grown_set _ _ _ _) HJ7.out.2.2.1, HJ7.out.2.2.2.grown (grown_set _ _ _ _) (by omega)⟩
  | true =>
   have HDEF := Lib.hid (show putR l x = if (sumW (bals (wiL l x))).2 then ([], 2) else (wiL l x, 0) by rw [HDEF.out, hem]; simp)
   clear hem
   have HXR := Lib.hid (Ab.range HJ2.out.2.1)
   have q2 : w2.cell? ⟨w.heap.size, 0, none⟩ = some (.slice A0 l.length c0) := HJ2.out.1.cell 0 _ rfl
   go_wp2_with ((with_reducible refine wpList_load_ac ?_ (.tmp 3) ?_ (w.heap.size + 1) 0 x ux vx ?_ ?_ ?_); (exact rfl); (exact rfl); (exact rfl); (exact HXR.out))
   refine (refWith_any _ l x ux vx _ (HS.out.ext HJ2.out.2.2.2) HX.out.1 (HX.out.2.1.ext HJ2.out.2.2.2) (HX.out.2.2.1.ext HJ2.out.2.2.2) (by omega) HSZ.out HX.out.2.2.2).mono ?_
   rintro e w4 ⟨v4, rfl, hr4, he⟩
   have HJ4 := Lib.hid (HJ2.out.ext he)
   have HR4 := Lib.hid (hr4.low HJ2.out.2.2.2.size)
   obtain ⟨A4, c4, rfl⟩ := hr4.shape
   clear hr4 he HJ2 q2 HXR
   generalize wiL l x = m at *
   have HB4 := Lib.hid (show w.heap.size + 1 + 1 < w4.heap.size from Cs.lt HJ4.out.2.2.1)
   have C6 : Hid (Cs (w4.alloc (.cells #[.slice A4 m.length c4] 24)) w4.heap.size 24 #[.slice A4 m.length c4]) := Lib.hid (Cs.new _ _ _ _ rfl)
   have HX6 : Hid (Ext w4 (w4.alloc (.cells #[.slice A4 m.length c4] 24))) := Lib.hid ((Ext.refl w4).alloc _)
   go_upto_region 6 with fail
   generalize w4.alloc (.cells #[.slice A4 m.length c4] 24) = w6 at *
   generalize hg6 : w4.heap.size = g6 at *
   have HJ6 := Lib.hid (HJ4.out.ext HX6.out)
   have HR6 := Lib.hid (HR4.out.ext HX6.out)
   have q6 := C6.out.cell 0 _ rfl
   clear HJ4 HR4 HX6 hg6
   go_wp2_with fail
   refine (refFits_any _ m _ HR6.out.acs (by have := HWN.out; omega)).mono ?_
   rintro e w7 ⟨rfl, he⟩
   have HJ7 := Lib.hid (HJ6.out.ext he)
   have HR7 := Lib.hid (HR6.out.ext he)
   have q7 := (Cs.ext C6.out he).cell 0 _ rfl
   clear he HJ6 HR6 q6
   cases hov : (sumW (bals m)).2 with
   | true =>
    have HF := Lib.hid (show putR l x = ([], 2) by rw [HDEF.out, hov]; rfl)
    clear hov HDEF q7
    have r1 : w7.cell? ⟨w.heap.size + 1 + 1, 0, none⟩ = some (.slice none 0 0) := HJ7.out.2.2.1.cell 0 _ rfl
    have p1 : w7.frozen? ⟨w.heap.size + 1 + 1, 0, none⟩ = false := HJ7.out.2.2.1.frozen 0
    go_wp2_with fail
    refine bodyPost_ret (results_st_err Try.results44 _ _ (w.heap.size + 1 + 1) (.slice none 0 0) rfl (by simpa using Cs.set HJ7.out.2.2.1 0 (.slice none 0 0))) rfl ?_
    exact ⟨_, by rw [HF.out]; rfl, by rw [HF.out]; exact RwA.nil _ _ _, HJ7.out.2.2.2.grown (grown_set _ _ _ _) (by omega)⟩
   | false =>
    have HF := Lib.hid (show putR l x = (m, 0) by rw [HDEF.out, hov]; rfl)
    clear hov HDEF
    have r1 : w7.cell? ⟨w.heap.size + 1 + 1, 0, none⟩ = some (.slice none 0 0) := HJ7.out.2.2.1.cell 0 _ rfl
    have p1 : w7.frozen? ⟨w.heap.size + 1 + 1, 0, none⟩ = false := HJ7.out.2.2.1.frozen 0
    go_wp2_with fail
    refine bodyPost_ret (results_st_err Try.results44 _ _ (w.heap.size + 1 + 1) (.slice A4 m.length c4) rfl (by simpa using Cs.set HJ7.out.2.2.1 0 (.slice A4 m.length c4))) rfl ?_
    exact ⟨_, by rw [HF.out]; rfl, by rw [HF.out]; exact HR7.out.keptS (grown_set _ _ _ _) HJ7.out.2.2.1, HJ7.out.2.2.2.grown (grown_set _ _ _ _) (by omega)⟩
end Go.Proofs.Ytiojfpdjnblkhaa
