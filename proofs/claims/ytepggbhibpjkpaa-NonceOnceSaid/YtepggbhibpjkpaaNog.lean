/- Package nonce: Next, Use. -/
import Derived.Test.YtepggbhibpjkpaaNof
namespace Go.Proofs.Ytepggbhibpjkpaa
open Go.ChangeShapes Go.WideShapes Go.ChangeAt Go.RowKit Go.Shelf

/-! ### Nonces with another one in its place -/
def plN (l : List Nn) (p : Nn) : List Nn := l.filter (fun q => decide (q.cod < p.cod)) ++ p :: l.filter (fun q => decide (p.cod < q.cod))
set_option maxRecDepth 100000 in
theorem plN_eq {l : List Nn} (hr : RiseN l) (p : Nn) : plN l p = l.take (posN l p.cod) ++ p :: l.drop (posN l p.cod + if hasN l p.cod then 1 else 0) := by
  unfold plN
  rw [filt_ltN hr, filt_gtN hr]
set_option maxRecDepth 100000 in
theorem getN_ok {l : List Nn} (h : ∀ p ∈ l, p.ok) {i : Nat} (hi : i < l.length) : (l.getD i nz0).ok := by
  rw [List.getD_eq_getElem?_getD, List.getElem?_eq_getElem hi]
  exact h _ (List.getElem_mem hi)
set_option maxRecDepth 100000 in
theorem rowN_id {l : List Nn} (h : ∀ p ∈ l, p.ok) {a k : Nat} (hk : k < M256) : (rowN l a k).addr = a ∧ (rowN l a k).key = k := by
  unfold rowN
  cases hh : hasN l (cdN a k) with
  | false => exact ⟨rfl, rfl⟩
  | true =>
    rw [if_pos rfl]
    have hi := hasN_lt hh
    unfold hasN at hh
    simp only [Bool.and_eq_true, decide_eq_true_eq] at hh
    exact cdN_inj (getN_ok h hi).2.1 hk hh.2
set_option maxRecDepth 100000 in
theorem rowN_ok {l : List Nn} (h : ∀ p ∈ l, p.ok) {a k : Nat} (ha : a < 18446744073709551616) (hk : k < M256) : (rowN l a k).ok := by
  unfold rowN
  cases hh : hasN l (cdN a k) with
  | false => exact ⟨ha, hk, Nat.zero_lt_succ _⟩
  | true => exact getN_ok h (hasN_lt hh)
set_option maxRecDepth 100000 in
theorem rowN_eq {l : List Nn} (h : ∀ p ∈ l, p.ok) {a k : Nat} (hk : k < M256) : rowN l a k = ⟨a, k, (rowN l a k).nxt⟩ := by
  obtain ⟨h1, h2⟩ := rowN_id (a := a) h hk
  generalize rowN l a k = p at *
  cases p
  cases h1
  cases h2
  rfl
/-- What Use answers: the error; the nonces. -/
def usE (l : List Nn) (a x : Nat) : Int := if rightN l then (if a = 0 then 2 else if seqN x = (rowN l a (keyN x)).nxt then (if seqN x = 18446744073709551615 then 6 else if hasN l (cdN a (keyN x)) then 0 else if l.length = 48 then 6 else 0) else 181) else 180
def usL (l : List Nn) (a x : Nat) : List Nn := if usE l a x = 0 then plN l ⟨a, keyN x, seqN x + 1⟩ else []
def RetU (w : World) (l : List Nn) (a x : Nat) (e : Ending) (w' : World) : Prop := ∃ v, e = .returned (.tuple #[v, .int .i64 (usE l a x)]) ∧ OwnN w' w.heap.size v (usL l a x) ∧ Ext w w'
/-- Next's answers. -/
def nxE (l : List Nn) (a k : Nat) : Int := if rightN l then (if a = 0 then 2 else if keyB k then 0 else 2) else 180
def nxW (l : List Nn) (a k : Nat) : Nat := if nxE l a k = 0 then jnN k (rowN l a k).nxt else 0
/-! ### A sequence stored into a row of nonces -/
set_option maxRecDepth 100000 in
theorem nnf_nxt (n : Nat) : ∀ (l : List Nn) (i : Nat), i < l.length → nnf (l.set i { l.getD i nz0 with nxt := n }) = (nnf l).set (i * 6 + 5) (.int .u64 (n : Nat))
  | [], _, h => absurd h (by simp)
  | p :: l, 0, _ => by
    have e : ∀ q : Nn, nnf (q :: l) = (nnc q).toList ++ nnf l := fun q => by simp [nnf]
    rw [List.set_cons_zero, e, e, List.getD_cons_zero]
    rfl
  | p :: l, i + 1, h => by
    have e : ∀ (q : Nn) (m : List Nn), nnf (q :: m) = (nnc q).toList ++ nnf m := fun q m => by simp [nnf]
    have h6 : (nnc p).toList.length = 6 := rfl
    rw [List.set_cons_succ, e, e, List.getD_cons_succ, nnf_nxt n l i (by simpa using h), List.set_append_right _ _ (by omega), h6, show (i + 1) * 6 + 5 - 6 = i * 6 + 5 by omega]
set_option maxRecDepth 100000 in
theorem OwnN.form {w : World} {base : Nat} {v : Value} {l : List Nn} (h : OwnN w base v l) (i : Nat) (hi : i < l.length) :
    ∃ g c, v = .slice (some ⟨g, 0, none⟩) l.length c ∧ l.length ≤ c ∧ c ≤ 9223372036854775807 ∧ base ≤ g ∧ w.cell? ⟨g, i * 6 + 5, none⟩ = some (.int .u64 ((l.getD i nz0).nxt : Nat)) ∧ w.frozen? ⟨g, i * 6 + 5, none⟩ = false ∧
      ∀ n, n < 18446744073709551616 → OwnN (w.setCell ⟨g, i * 6 + 5, none⟩ (.int .u64 (n : Nat))) base v (l.set i { l.getD i nz0 with nxt := n }) ∧ w.grownBy (w.setCell ⟨g, i * 6 + 5, none⟩ (.int .u64 (n : Nat))) (some g) := by
  obtain ⟨A, c, rfl, h1, h2⟩ := h.sl
  obtain ⟨g, rfl⟩ := own_addrH h.1 (by omega)
  have hk : ∀ p ∈ l, p.ok := h.2
  have hb : base ≤ g := (h.lt g rfl).1
  refine ⟨g, c, rfl, h1, h2, hb, ?_, World.ownsRow.frozenAt h.1 _, fun n hn => ?_⟩
  · obtain ⟨b, o, e, hr, _⟩ := h.nns.at i hi
    cases e
    have := nn_nxt hr
    rwa [Nat.zero_add] at this
  · have hst := World.ownsRow.stored h.1 (i * 6 + 5) (.int .u64 (n : Nat))
    refine ⟨⟨?_, fun p hp => ?_⟩, hst.2⟩
    · rw [List.length_set, nnf_nxt n l i hi]
      exact hst.1
    · rcases List.mem_or_eq_of_mem_set hp with hp | rfl
      · exact hk p hp
      · have := getN_ok hk hi
        exact ⟨this.1, this.2.1, hn⟩
set_option maxRecDepth 100000 in
theorem set_take (l : List Nn) (i : Nat) (hi : i < l.length) (p : Nn) : l.set i p = l.take i ++ p :: l.drop (i + 1) := by
  rw [List.set_eq_take_append_cons_drop, if_pos hi]
set_option maxRecDepth 100000 in
theorem set_mid (l : List Nn) (i : Nat) (hi : i ≤ l.length) (p q : Nn) : (l.take i ++ q :: l.drop i).set i p = l.take i ++ p :: l.drop i := by
  have h : (l.take i).length = i := by rw [List.length_take]; omega
  rw [List.set_append_right _ _ (by omega), h, Nat.sub_self, List.set_cons_zero]
set_option maxRecDepth 100000 in
theorem get_mid (l : List Nn) (i : Nat) (hi : i ≤ l.length) (q : Nn) : (l.take i ++ q :: l.drop i).getD i nz0 = q := by
  have h : (l.take i).length = i := by rw [List.length_take]; omega
  rw [List.getD_eq_getElem?_getD, List.getElem?_append_right (by omega), h, Nat.sub_self]
  rfl
set_option maxRecDepth 100000 in
theorem len_mid (l : List Nn) (i : Nat) (hi : i ≤ l.length) (q : Nn) : (l.take i ++ q :: l.drop i).length = l.length + 1 := by
  rw [List.length_append, List.length_cons, List.length_take, List.length_drop]
  omega
set_option maxRecDepth 100000 in
set_option maxHeartbeats 4000000 in
theorem nextN_any (sv : Value) (l : List Nn) (a k : Nat) (w : World) (hs : Nns w sv l) (ha : a < 18446744073709551616) (hk : k < M256) :
    Calls Try.prog 23 #[sv, .int .u64 (a : Nat), wv k] w fun e w' => e = .returned (.tuple #[wv (nxW l a k), .int .i64 (nxE l a k)]) ∧ Ext w w' := by
  have HS := Lib.hid hs
  have HK := Lib.hid hk
  have HA := Lib.hid ha
  have HOK := Lib.hid hs.oks
  have HEE : Hid (nxE l a k = if rightN l then (if a = 0 then 2 else if keyB k then 0 else 2) else 180) := Lib.hid rfl
  have HEW : Hid (nxW l a k = if nxE l a k = 0 then jnN k (rowN l a k).nxt else 0) := Lib.hid rfl
  obtain ⟨A1, c, rfl, h1, h2⟩ := hs.len
  unfold maxLen at h2
  clear hs ha hk
  obtain ⟨w1, hw1⟩ : ∃ w1, (w.alloc (.cells (wc k) 29)).alloc (.cells (wc 0) 29) = w1 := ⟨_, rfl⟩
  have HW1 := Lib.hid hw1
  have HB : Hid (Wd w1 w.heap.size 29 k) := Lib.hid (by rw [← hw1]; exact Cs.alloc (Cs.new _ _ _ _ rfl) _)
  have HZ : Hid (Cs w1 (w.heap.size + 1) 29 (wc 0)) := Lib.hid (by rw [← hw1]; exact Cs.new _ _ _ _ (by simp))
  have HE : Hid (Ext w w1) := Lib.hid (by rw [← hw1]; exact ((Ext.refl w).alloc _).alloc _)
  clear hw1
  rw [show wv k = .agg (wc k) from rfl]
  obtain ⟨kc, hkc⟩ : ∃ kc, wc k = kc := ⟨_, rfl⟩
  rw [hkc] at HW1
  rw [hkc]
  clear hkc
  go_enter Try.func23, Try.ntmps23
  go_upto_region 1 with fail
  rw [show (w.alloc (.cells kc 29)).alloc (.cells #[.int .u64 0, .int .u64 0, .int .u64 0, .int .u64 0] 29) = w1 from HW1.out]
  clear HW1
  obtain ⟨g6, hg6⟩ : ∃ g, w.heap.size + 1 = g := ⟨_, rfl⟩
  have HN := Lib.hid (show w.heap.size ≤ g6 by omega)
  rw [hg6] at HZ ⊢
  clear hg6
  obtain ⟨g5, hg5⟩ : ∃ g, w.heap.size = g := ⟨_, rfl⟩
  rw [hg5] at HB ⊢
  clear hg5
  go_wp2_with fail
  refine (checkN_any _ l _ (HS.out.ext HE.out)).mono ?_
  rintro e w2 ⟨rfl, he⟩
  have HE2 := Lib.hid (HE.out.trans he)
  have HB2 := Lib.hid (Wd.ext HB.out he)
  have HZ2 := Lib.hid (Cs.ext HZ.out he)
  clear he HB HZ HE
  cases hr : rightN l with
  | false =>
    rw [chkN_no hr]
    have HEV := Lib.hid (show nxE l a k = 180 by rw [HEE.out, hr]; rfl)
    clear hr
    have HWV := Lib.hid (show nxW l a k = 0 by rw [HEW.out, HEV.out]; rfl)
    go_wp2_with (first
      | ((with_reducible refine wpList_store_word ?_ ?_ 29 (.tmp 6) (.tmp 15) ?_ winfo g6 (wc (0)) (0) ?_ ?_ ?_ ?_ ?_); (exact rfl); (exact rfl); (exact rfl); (exact rfl); (exact rfl); (exact HZ2.out); (exact rfl); intro w9 k9 g9; have K9 := Lib.hid k9; have G9 := Lib.hid g9; clear k9 g9))
    refine bodyPost_ret (results_word_tmp Try.results23 _ _ g6 0 rfl K9.out Try.underlying29 winfo) rfl ?_
    exact ⟨by rw [HWV.out, HEV.out]; rfl, HE2.out.grown G9.out HN.out⟩
  | true =>
    rw [chkN_yes hr]
    have HRR := Lib.hid hr
    clear hr
    by_cases h0 : a = 0
    · have f0 : (((a : Nat) : Int) == 0) = true := by rw [beq_iff_eq]; omega
      have HEV := Lib.hid (show nxE l a k = 2 by rw [HEE.out, HRR.out, if_pos rfl, if_pos h0])
      clear h0
      have HWV := Lib.hid (show nxW l a k = 0 by rw [HEW.out, HEV.out]; rfl)
      go_wp2_with (first
        | ((with_reducible refine wpList_store_word ?_ ?_ 29 (.tmp 6) (.tmp 24) ?_ winfo g6 (wc (0)) (0) ?_ ?_ ?_ ?_ ?_); (exact rfl); (exact rfl); (exact rfl); (exact rfl); (exact rfl); (exact HZ2.out); (exact rfl); intro w9 k9 g9; have K9 := Lib.hid k9; have G9 := Lib.hid g9; clear k9 g9))
      refine bodyPost_ret (results_word_tmp Try.results23 _ _ g6 0 rfl K9.out Try.underlying29 winfo) rfl ?_
      exact ⟨by rw [HWV.out, HEV.out]; rfl, HE2.out.grown G9.out HN.out⟩
    · have f0 : (((a : Nat) : Int) == 0) = false := by rw [beq_eq_false_iff_ne]; omega
      have H0 := Lib.hid h0
      clear h0
      have HBW := Lib.hid (Cs.rg HB2.out)
      go_wp2_with (first
        | ((with_reducible refine wpList_load_wordIn ?_ (.tmp 5) ?_ g5 0 k ?_ ?_ ?_); (exact rfl); (exact rfl); (exact rfl); (exact HBW.out)))
      refine (isKey_any k _).mono ?_
      rintro e w3 ⟨rfl, he⟩
      have HE3 := Lib.hid (HE2.out.trans he)
      have HB3 := Lib.hid (Wd.ext HB2.out he)
      have HZ3 := Lib.hid (Cs.ext HZ2.out he)
      clear he HB2 HZ2 HE2
      cases hb : keyB k with
      | false =>
        have HEV := Lib.hid (show nxE l a k = 2 by rw [HEE.out, HRR.out, hb, if_pos rfl, if_neg H0.out]; rfl)
        clear hb
        have HWV := Lib.hid (show nxW l a k = 0 by rw [HEW.out, HEV.out]; rfl)
        go_wp2_with (first
          | ((with_reducible refine wpList_store_word ?_ ?_ 29 (.tmp 6) (.tmp 24) ?_ winfo g6 (wc (0)) (0) ?_ ?_ ?_ ?_ ?_); (exact rfl); (exact rfl); (exact rfl); (exact rfl); (exact rfl); (exact HZ3.out); (exact rfl); intro w9 k9 g9; have K9 := Lib.hid k9; have G9 := Lib.hid g9; clear k9 g9))
        refine bodyPost_ret (results_word_tmp Try.results23 _ _ g6 0 rfl K9.out Try.underlying29 winfo) rfl ?_
        exact ⟨by rw [HWV.out, HEV.out]; rfl, HE3.out.grown G9.out HN.out⟩
      | true =>
        have HEV := Lib.hid (show nxE l a k = 0 by rw [HEE.out, HRR.out, hb, if_pos rfl, if_neg H0.out]; rfl)
        clear hb
        have HWV := Lib.hid (show nxW l a k = jnN k (rowN l a k).nxt by rw [HEW.out, HEV.out]; rfl)
        have HPN := Lib.hid (rowN_ok HOK.out HA.out (k := k) HK.out)
        have HFN : Hid (fnV l a k = .tuple #[.agg (nnc (rowN l a k)), .int .i64 (posN l (cdN a k) : Nat), .bool (hasN l (cdN a k))]) := Lib.hid rfl
        generalize rowN l a k = p at *
        generalize posN l (cdN a k) = i at *
        generalize hasN l (cdN a k) = hb at *
        go_wp2_with (first
          | ((with_reducible refine wpList_load_word ?_ 29 26 (.tmp 5) ?_ Try.underlying29 winfo g5 (k) ?_ HB3.out ?_); (exact rfl); (exact rfl); (exact rfl); (unfold wv wc)))
        refine (findN_any _ l a k _ (HS.out.ext HE3.out) (right_rise HRR.out) (by have := right_len HRR.out; omega) HK.out).mono ?_
        rintro e w4 ⟨rfl, he⟩
        have HE4 := Lib.hid (HE3.out.trans he)
        have HB4 := Lib.hid (Wd.ext HB3.out he)
        have HZ4 := Lib.hid (Cs.ext HZ3.out he)
        have HSZ := Lib.hid (show g6 < w4.heap.size from Cs.lt HZ4.out)
        have HSB := Lib.hid (show g5 < w4.heap.size from Wd.lt HB4.out)
        have HSE := Lib.hid HE4.out.size
        rw [HFN.out]
        clear he HB3 HZ3 HE3 HFN
        go_upto_region 6 with (first
          | ((with_reducible refine wpList_store_nn ?_ ?_ (.tmp 8) (.tmp 31) ?_ w4.heap.size nz0 p ?_ ?_ ?_ ?_); (exact rfl); (exact rfl); (exact rfl); (exact rfl); (exact rfl); (exact (Cs.new _ _ _ _ rfl)); intro wb kb gb; have KB := Lib.hid kb; have GB := Lib.hid gb; clear kb gb))
        have HXB := Lib.hid (((Ext.refl w4).alloc _).grown GB.out (Nat.le_refl _))
        have HE5 := Lib.hid (HE4.out.trans HXB.out)
        have HB5 := Lib.hid (Wd.ext HB4.out HXB.out)
        have HZ5 := Lib.hid (Cs.ext HZ4.out HXB.out)
        have q5 := KB.out.nxt
        clear HE4 HB4 HZ4 HXB GB
        go_wp2_with (first
          | ((with_reducible refine wpList_load_word ?_ 29 26 (.tmp 5) ?_ Try.underlying29 winfo g5 (k) ?_ HB5.out ?_); (exact rfl); (exact rfl); (exact rfl)))
        refine (joined_any k p.nxt _ HPN.out.2.2).mono ?_
        rintro e w6 ⟨rfl, he⟩
        have HE6 := Lib.hid (HE5.out.trans he)
        have HZ6 := Lib.hid (Cs.ext HZ5.out he)
        clear he q5
        go_wp2_with (first
          | ((with_reducible refine wpList_store_word ?_ ?_ 29 (.tmp 6) (.tmp 37) ?_ winfo g6 (wc (0)) (jnN k p.nxt) ?_ ?_ ?_ ?_ ?_); (exact rfl); (exact rfl); (exact rfl); (exact rfl); (exact rfl); (exact HZ6.out); (exact rfl); intro w9 k9 g9; have K9 := Lib.hid k9; have G9 := Lib.hid g9; clear k9 g9))
        refine bodyPost_ret (results_word_tmp Try.results23 _ _ g6 (jnN k p.nxt) rfl K9.out Try.underlying29 winfo) rfl ?_
        exact ⟨by rw [HWV.out, HEV.out]; rfl, HE6.out.grown G9.out HN.out⟩
set_option maxRecDepth 100000 in
set_option maxHeartbeats 4000000 in
theorem useN_any (sv : Value) (l : List Nn) (a x : Nat) (w : World) (hs : Nns w sv l) (ha : a < 18446744073709551616) (hx : x < M256) :
    Calls Try.prog 14 #[sv, .int .u64 (a : Nat), wv x] w (RetU w l a x) := by
  have HS := Lib.hid hs
  have HX := Lib.hid hx
  have HA := Lib.hid ha
  have HOK := Lib.hid hs.oks
  have HEE : Hid (usE l a x = if rightN l then (if a = 0 then 2 else if seqN x = (rowN l a (keyN x)).nxt then (if seqN x = 18446744073709551615 then 6 else if hasN l (cdN a (keyN x)) then 0 else if l.length = 48 then 6 else 0) else 181) else 180) := Lib.hid rfl
  obtain ⟨A1, c, rfl, h1, h2⟩ := hs.len
  unfold maxLen at h2
  clear hs ha hx
  obtain ⟨w1, hw1⟩ : ∃ w1, w.alloc (.cells (wc x) 29) = w1 := ⟨_, rfl⟩
  have HW1 := Lib.hid hw1
  have HB : Hid (Wd w1 w.heap.size 29 x) := Lib.hid (by rw [← hw1]; exact Cs.new _ _ _ _ rfl)
  have HE : Hid (Ext w w1) := Lib.hid (by rw [← hw1]; exact (Ext.refl w).alloc _)
  clear hw1
  rw [show wv x = .agg (wc x) from rfl]
  obtain ⟨kc, hkc⟩ : ∃ kc, wc x = kc := ⟨_, rfl⟩
  rw [hkc] at HW1
  rw [hkc]
  clear hkc
  go_enter Try.func14, Try.ntmps14
  go_upto_region 1 with fail
  rw [HW1.out]
  clear HW1
  obtain ⟨g5, hg5⟩ : ∃ g, w.heap.size = g := ⟨_, rfl⟩
  rw [hg5] at HB ⊢
  clear hg5
  go_wp2_with fail
  refine (checkN_any _ l _ (HS.out.ext HE.out)).mono ?_
  rintro e w2 ⟨rfl, he⟩
  have HE2 := Lib.hid (HE.out.trans he)
  have HB2 := Lib.hid (Wd.ext HB.out he)
  clear he HB HE
  cases hr : rightN l with
  | false =>
    rw [chkN_no hr]
    have HEV := Lib.hid (show usE l a x = 180 by rw [HEE.out, hr]; rfl)
    clear hr
    have HUL := Lib.hid (show usL l a x = [] by unfold usL; rw [HEV.out]; rfl)
    go_wp2_with fail
    refine bodyPost_ret (results_tmp2 rfl _ _ _) rfl ?_
    exact ⟨_, by rw [HEV.out]; rfl, by rw [HUL.out]; exact OwnN.nil _ _, HE2.out⟩
  | true =>
    rw [chkN_yes hr]
    have HRR := Lib.hid hr
    clear hr
    by_cases h0 : a = 0
    · have f0 : (((a : Nat) : Int) == 0) = true := by rw [beq_iff_eq]; omega
      have HEV := Lib.hid (show usE l a x = 2 by rw [HEE.out, HRR.out, if_pos rfl, if_pos h0])
      clear h0
      have HUL := Lib.hid (show usL l a x = [] by unfold usL; rw [HEV.out]; rfl)
      go_wp2_with fail
      refine bodyPost_ret (results_tmp2 rfl _ _ _) rfl ?_
      exact ⟨_, by rw [HEV.out]; rfl, by rw [HUL.out]; exact OwnN.nil _ _, HE2.out⟩
    · have f0 : (((a : Nat) : Int) == 0) = false := by rw [beq_eq_false_iff_ne]; omega
      have HE0 := Lib.hid (show usE l a x = if seqN x = (rowN l a (keyN x)).nxt then (if seqN x = 18446744073709551615 then 6 else if hasN l (cdN a (keyN x)) then 0 else if l.length = 48 then 6 else 0) else 181 by rw [HEE.out, HRR.out, if_pos rfl, if_neg h0])
      clear h0 HEE
      go_wp2_with (first
        | ((with_reducible refine wpList_load_word ?_ 29 26 (.tmp 5) ?_ Try.underlying29 winfo g5 (x) ?_ HB2.out ?_); (exact rfl); (exact rfl); (exact rfl)))
      refine (split_any x _ HX.out).mono ?_
      rintro e w3 ⟨rfl, he⟩
      have HE3 := Lib.hid (HE2.out.trans he)
      have HUD : Hid (usE l a x = 0 → usL l a x = plN l ⟨a, keyN x, seqN x + 1⟩) := Lib.hid (fun h => by unfold usL; rw [h]; rfl)
      have HUN : Hid (usE l a x ≠ 0 → usL l a x = []) := Lib.hid (fun h => by unfold usL; rw [if_neg h])
      have HKY := Lib.hid (K192_lt (keyN_lt HX.out))
      have HSQ := Lib.hid (seqN_lt x)
      clear he HB2 HE2
      generalize keyN x = k at *
      generalize seqN x = s at *
      go_upto_region 6 with (first
        | ((with_reducible refine wpList_store_word ?_ ?_ 29 (.tmp 8) (.tmp 24) ?_ winfo w3.heap.size (wc (0)) (k) ?_ ?_ ?_ ?_ ?_); (exact rfl); (exact rfl); (exact rfl); (exact rfl); (exact rfl); (exact (Cs.new _ _ _ _ rfl)); (exact rfl); intro w9 k9 g9; have K9 := Lib.hid k9; have G9 := Lib.hid g9; clear k9 g9))
      have HE4 := Lib.hid ((HE3.out.alloc (.cells (wc 0) 29)).grown G9.out HE3.out.size)
      have HK4 := Lib.hid K9.out
      clear HE3 K9 G9
      generalize hg8 : w3.heap.size = g8 at *
      clear hg8
      have HPN := Lib.hid (rowN_ok HOK.out HA.out (k := k) HKY.out)
      have HPI := Lib.hid (rowN_eq (a := a) HOK.out HKY.out)
      have HFN : Hid (fnV l a k = .tuple #[.agg (nnc (rowN l a k)), .int .i64 (posN l (cdN a k) : Nat), .bool (hasN l (cdN a k))]) := Lib.hid rfl
      have HPE := Lib.hid (plN_eq (right_rise HRR.out) ⟨a, k, s + 1⟩)
      have HPO := Lib.hid (posN_le l (cdN a k))
      have HHL := Lib.hid (fun h => hasN_lt (l := l) (k := cdN a k) h)
      have HLP : Hid (hasN l (cdN a k) = true → l.getD (posN l (cdN a k)) nz0 = rowN l a k) := Lib.hid (fun h => by unfold rowN; rw [h]; rfl)
      rw [show (⟨a, k, s + 1⟩ : Nn).cod = cdN a k from rfl] at HPE
      generalize rowN l a k = p at *
      generalize posN l (cdN a k) = i at *
      go_wp2_with (first
        | ((with_reducible refine wpList_load_word ?_ 29 26 (.tmp 8) ?_ Try.underlying29 winfo g8 (k) ?_ HK4.out ?_); (exact rfl); (exact rfl); (exact rfl); (unfold wv wc)))
      refine (findN_any _ l a k _ (HS.out.ext HE4.out) (right_rise HRR.out) (by have := right_len HRR.out; omega) HKY.out).mono ?_
      rintro e w5 ⟨rfl, he⟩
      have HE5 := Lib.hid (HE4.out.trans he)
      rw [HFN.out]
      clear he HK4 HE4 HFN
      go_upto_region 7 with (first
        | ((with_reducible refine wpList_store_nn ?_ ?_ (.tmp 10) (.tmp 32) ?_ w5.heap.size nz0 p ?_ ?_ ?_ ?_); (exact rfl); (exact rfl); (exact rfl); (exact rfl); (exact rfl); (exact (Cs.new _ _ _ _ rfl)); intro wb kb gb; have KB := Lib.hid kb; have GB := Lib.hid gb; clear kb gb))
      have HE6 := Lib.hid ((HE5.out.alloc (.cells (nnc nz0) 38)).grown GB.out HE5.out.size)
      clear HE5 GB
      generalize hg10 : w5.heap.size = g10 at *
      clear hg10
      have q7 := KB.out.nxt
      by_cases hsn : s = p.nxt
      · have f1 : (((s : Nat) : Int) != (p.nxt : Int)) = false := by simp [hsn]
        have HS1 := Lib.hid (show usE l a x = if s = 18446744073709551615 then 6 else if hasN l (cdN a k) then 0 else if l.length = 48 then 6 else 0 by rw [HE0.out, if_pos hsn])
        have HSN := Lib.hid hsn
        clear hsn HE0
        by_cases hsm : s = 18446744073709551615
        · have f2 : (((s : Nat) : Int) == 18446744073709551615) = true := by rw [beq_iff_eq]; omega
          have HEV := Lib.hid (show usE l a x = 6 by rw [HS1.out, if_pos hsm])
          clear hsm
          have HUL := Lib.hid (show usL l a x = [] by unfold usL; rw [HEV.out]; rfl)
          go_wp2_with fail
          refine bodyPost_ret (results_tmp2 rfl _ _ _) rfl ?_
          exact ⟨_, by rw [HEV.out]; rfl, by rw [HUL.out]; exact OwnN.nil _ _, HE6.out⟩
        · have f2 : (((s : Nat) : Int) == 18446744073709551615) = false := by rw [beq_eq_false_iff_ne]; omega
          have HS2 := Lib.hid (show usE l a x = if hasN l (cdN a k) then 0 else if l.length = 48 then 6 else 0 by rw [HS1.out, if_neg hsm])
          have HS3 := Lib.hid (show s + 1 < 18446744073709551616 by have := HSQ.out; omega)
          have HWR := Lib.hid (show IntKind.u64.wrap ((s : Int) + 1) = ((s + 1 : Nat) : Int) by rw [IntKind.wrap_u64]; have := HSQ.out; omega)
          clear hsm HS1
          cases hh : hasN l (cdN a k) with
          | true =>
            have HEV := Lib.hid (show usE l a x = 0 by rw [HS2.out, hh]; rfl)
            have HIL := Lib.hid (HHL.out hh)
            have HLG := Lib.hid (HLP.out hh)
            have HFIN := Lib.hid (show usL l a x = l.set i { l.getD i nz0 with nxt := s + 1 } by
              rw [HUD.out HEV.out, HPE.out, hh, HLG.out, HPI.out, set_take l i HIL.out]
              rfl)
            clear hh
            go_wp2_with fail
            refine (cloneN_any _ l _ (HS.out.ext HE6.out) (by have := right_len HRR.out; omega)).mono ?_
            rintro e w7 ⟨v7, rfl, ho, he⟩
            have HE7 := Lib.hid (HE6.out.trans he)
            have HO7 := Lib.hid (ho.mono HE6.out.size)
            clear ho he HE6 q7
            obtain ⟨g, c7, rfl, k1, k2, hbg, hcell, hfz, hst⟩ := HO7.out.form i HIL.out
            have HST := Lib.hid (hst (s + 1) HS3.out)
            have HBG := Lib.hid hbg
            rw [HLG.out] at hcell
            rw [← HSN.out] at hcell
            clear hst hbg
            have hd : decide (i < l.length) = true := decide_eq_true HIL.out
            have hd2 : decide ((i : Int) < (l.length : Int)) = true := decide_eq_true (by have := HIL.out; omega)
            go_wp2_with fail
            rw [HWR.out]
            refine bodyPost_ret (results_tmp2 rfl _ _ _) rfl ?_
            exact ⟨_, by rw [HEV.out]; rfl, by rw [HFIN.out]; exact HST.out.1, HE7.out.grown HST.out.2 HBG.out⟩
          | false =>
            have HS4 := Lib.hid (show usE l a x = if l.length = 48 then 6 else 0 by rw [HS2.out, hh]; rfl)
            by_cases hlm : l.length = 48
            · have f3 : (((l.length : Nat) : Int) == 48) = true := by rw [beq_iff_eq]; omega
              have HEV := Lib.hid (show usE l a x = 6 by rw [HS4.out, if_pos hlm])
              clear hlm hh
              have HUL := Lib.hid (show usL l a x = [] by unfold usL; rw [HEV.out]; rfl)
              go_wp2_with fail
              refine bodyPost_ret (results_tmp2 rfl _ _ _) rfl ?_
              exact ⟨_, by rw [HEV.out]; rfl, by rw [HUL.out]; exact OwnN.nil _ _, HE6.out⟩
            · have f3 : (((l.length : Nat) : Int) == 48) = false := by rw [beq_eq_false_iff_ne]; omega
              have HEV := Lib.hid (show usE l a x = 0 by rw [HS4.out, if_neg hlm])
              have HFIN := Lib.hid (show usL l a x = (l.take i ++ p :: l.drop i).set i { (l.take i ++ p :: l.drop i).getD i nz0 with nxt := s + 1 } by
                rw [HUD.out HEV.out, HPE.out, hh, get_mid l i HPO.out, HPI.out, set_mid l i HPO.out]
                rfl)
              have HLM := Lib.hid (len_mid l i HPO.out p)
              have HGM := Lib.hid (get_mid l i HPO.out p)
              clear hlm hh
              go_wp2_with fail
              refine (cloneN_any _ l _ (HS.out.ext HE6.out) (by have := right_len HRR.out; omega)).mono ?_
              rintro e w7 ⟨v7, rfl, ho, he⟩
              have HE7 := Lib.hid (HE6.out.trans he)
              have HO7 := Lib.hid (ho.mono HE6.out.size)
              have HKB := Lib.hid (Cs.rg (KB.out.ext he))
              clear ho he HE6 q7
              go_wp2_with (first
                | ((with_reducible refine wpList_load_nn ?_ (.tmp 10) ?_ g10 0 p ?_ ?_ ?_); (exact rfl); (exact rfl); (exact rfl); (exact HKB.out))
                | ((with_reducible refine wpList_build_one ?_ (.tmp 58) 22 38 ?_ Try.underlying22 _ 6 48 nninfo3 (by decide) (by decide) (nnc p) rfl ?_ ?_); (exact rfl); (exact rfl); (exact rfl)))
              refine (insertN_any _ i w7.heap.size l p w.heap.size _ (HO7.out.ext ((Ext.refl _).alloc _)) HPO.out (by have := right_len HRR.out; omega) (by rw [World.size_alloc]; have := HE7.out.size; omega) HPN.out (Cs.new _ _ _ _ rfl) (fun e => by have := (HO7.out.lt _ e).2; omega)).mono ?_
              rintro e w8 ⟨v8, rfl, ho, hg⟩
              have HE8 := Lib.hid (Ext.appendR (HE7.out.trans ((Ext.refl _).alloc _)) (HO7.out.ext ((Ext.refl _).alloc _)).1 hg)
              have HO8 := Lib.hid ho
              clear ho hg HO7 HE7
              obtain ⟨m, hm⟩ : ∃ m, l.take i ++ p :: l.drop i = m := ⟨_, rfl⟩
              rw [hm] at HO8 HFIN HLM HGM
              clear hm
              have HIL := Lib.hid (show i < m.length by have := HLM.out; have := HPO.out; omega)
              obtain ⟨g, c7, rfl, k1, k2, hbg, hcell, hfz, hst⟩ := HO8.out.form i HIL.out
              have HST := Lib.hid (hst (s + 1) HS3.out)
              have HBG := Lib.hid hbg
              rw [HGM.out] at hcell
              rw [← HSN.out] at hcell
              clear hst hbg
              have hd : decide (i < m.length) = true := decide_eq_true HIL.out
              have hd2 : decide ((i : Int) < (m.length : Int)) = true := decide_eq_true (by have := HIL.out; omega)
              go_wp2_with fail
              rw [HWR.out]
              refine bodyPost_ret (results_tmp2 rfl _ _ _) rfl ?_
              exact ⟨_, by rw [HEV.out]; rfl, by rw [HFIN.out]; exact HST.out.1, HE8.out.grown HST.out.2 HBG.out⟩
      · have f1 : (((s : Nat) : Int) != (p.nxt : Int)) = true := by simp; omega
        have HEV := Lib.hid (show usE l a x = 181 by rw [HE0.out, if_neg hsn])
        clear hsn
        have HUL := Lib.hid (show usL l a x = [] by unfold usL; rw [HEV.out]; rfl)
        go_wp2_with fail
        refine bodyPost_ret (results_tmp2 rfl _ _ _) rfl ?_
        exact ⟨_, by rw [HEV.out]; rfl, by rw [HUL.out]; exact OwnN.nil _ _, HE6.out⟩
end Go.Proofs.Ytepggbhibpjkpaa
