/- Package state: saved, for any rising store. The law's run, for whatever is done. -/
import Derived.Test.YtiojfpdjnblkhaaQIns
namespace Go.Proofs.Ytiojfpdjnblkhaa
open Go.ChangeShapes Go.WideShapes Go.ChangeAt Go.RowKit Go.Shelf

theorem filter_takeP : ∀ (l : List (Nat × Nat)) (f : Nat × Nat → Bool) (n : Nat), (∀ i, i < l.length → (f (l.getD i (0, 0)) = true ↔ i < n)) → l.filter f = l.take n
 | [], f, n, _ => by simp
 | p :: l, f, 0, h => by
  have h0 : f p = false := by have := h 0 (by simp); simpa using this
  rw [List.filter_cons, if_neg (by rw [h0]; simp), List.take_zero, List.filter_eq_nil_iff]
  intro q hq
  obtain ⟨i, hi, e⟩ := List.getElem_of_mem hq
  have := h (i + 1) (by simpa using hi)
  rw [List.getD_cons_succ, List.getD_eq_getElem?_getD, List.getElem?_eq_getElem hi] at this
  simpa [e] using this
 | p :: l, f, n + 1, h => by
  have h0 : f p = true := by have := h 0 (by simp); simpa using this
  rw [List.filter_cons, if_pos h0, List.take_succ_cons, filter_takeP l f n (fun i hi => by have := h (i + 1) (by simpa using hi); simpa using this)]
theorem filter_dropP : ∀ (l : List (Nat × Nat)) (f : Nat × Nat → Bool) (n : Nat), (∀ i, i < l.length → (f (l.getD i (0, 0)) = true ↔ n ≤ i)) → l.filter f = l.drop n
 | [], f, n, _ => by simp
 | p :: l, f, 0, h => by
  have h0 : f p = true := by have := h 0 (by simp); simpa using this
  rw [List.filter_cons, if_pos h0, List.drop_zero, filter_dropP l f 0 (fun i hi => by have := h (i + 1) (by simpa using hi); simpa using this), List.drop_zero]
 | p :: l, f, n + 1, h => by
  have h0 : f p = false := by have := h 0 (by simp); simpa using this
  rw [List.filter_cons, if_neg (by rw [h0]; simp), List.drop_succ_cons, filter_dropP l f n (fun i hi => by have := h (i + 1) (by simpa using hi); simpa using this)]
theorem filt_lt {l : List (Nat × Nat)} (h : RiseK l) (k : Nat) : l.filter (fun q => decide (q.1 < k)) = l.take (posK l k) :=
 filter_takeP l _ _ (fun i hi => by rw [decide_eq_true_eq]; exact posK_lt l k h i hi)
theorem filt_gt {l : List (Nat × Nat)} (h : RiseK l) (k : Nat) : l.filter (fun q => decide (k < q.1)) = l.drop (posK l k + if hasK l k then 1 else 0) :=
 filter_dropP l _ _ (fun i hi => by
  rw [decide_eq_true_eq]
  have h1 := posK_lt l k h i hi
  have hle := posK_le l k
  cases hh : hasK l k with
  | true =>
   unfold hasK at hh
   simp only [Bool.and_eq_true, decide_eq_true_eq] at hh
   rw [if_pos rfl]
   constructor
   ·intro hk
    rcases Nat.lt_or_ge (posK l k) i with hlt | hge
    ·exact hlt
    ·rcases Nat.lt_or_eq_of_le hge with hlt | he
     ·have := h1.2 hlt; omega
     ·rw [← he] at hh; omega
   ·intro hk
    have := h (posK l k) i (by omega) hi
    omega
  | false =>
   rw [if_neg (by simp), Nat.add_zero]
   constructor
   ·intro hk
    rcases Nat.lt_or_ge i (posK l k) with hlt | hge
    ·have := h1.2 hlt; omega
    ·exact hge
   ·intro hk
    have hge : ¬ (l.getD i (0, 0)).1 < k := fun hlt => by have := h1.1 hlt; omega
    rcases Nat.lt_or_eq_of_le hk with hlt | he
    ·have h2 := h (posK l k) i hlt hi
     have h3 : ¬ (l.getD (posK l k) (0, 0)).1 < k := fun hx => by have := (posK_lt l k h _ (by omega)).1 hx; omega
     omega
    ·refine Nat.lt_of_le_of_ne (by omega) (fun e => ?_)
     unfold hasK at hh
     rw [he, decide_eq_true (show i < l.length from hi), ← e] at hh
     simp at hh)
theorem savL_del {l : List (Nat × Nat)} (h : RiseK l) {p : Nat × Nat} (hh : hasK l p.1 = true) : savL l p = l.take (posK l p.1) ++ ((if p.2 = 0 then [] else [p]) ++ l.drop (posK l p.1 + 1)) := by
 unfold savL
 rw [filt_lt h, filt_gt h, hh, if_pos rfl, List.append_assoc]
theorem savL_ins {l : List (Nat × Nat)} (h : RiseK l) {p : Nat × Nat} (hh : hasK l p.1 = false) : savL l p = l.take (posK l p.1) ++ ((if p.2 = 0 then [] else [p]) ++ l.drop (posK l p.1)) := by
 unfold savL
 rw [filt_lt h, filt_gt h, hh]
 simp [List.append_assoc]
set_option maxRecDepth 100000 in
theorem insert_any (sv : Value) (i gp : Nat) (l : List (Nat × Nat)) (p : Nat × Nat) (lo : Nat) (w : World) (hs : OwnK w lo sv l) (hi : i ≤ l.length) (hl : l.length ≤ 100000) (hlo : lo ≤ w.heap.size) (hp : p.1 < M256 ∧ p.2 < M256) (hg : Cs w gp 33 (pkc p)) (hne : sv.ownBlock ≠ some gp) :
  Calls Try.prog 127 #[sv, .int .i64 (i : Nat), .slice (some ⟨gp, 0, none⟩) 1 1] w fun e w' => ∃ v', e = .returned v' ∧ OwnK w' lo v' (l.take i ++ p :: l.drop i) ∧ w.grownBy w' sv.ownBlock := by
 by_cases he : i = l.length
 ·subst he
  rw [List.take_length, List.drop_length]
  exact insertEnd_any sv l gp p lo w hs hl hp hg hlo
 ·obtain ⟨_, A, c, rfl, h1, _⟩ := Rs.of_own hs.1
  obtain ⟨g, rfl⟩ := own_addr hs.1 (by omega)
  have hgne : gp ≠ g := fun e => hne (by rw [e]; rfl)
  have hcm := own_cap hs.1
  by_cases hc : c = l.length
  ·exact insertGrow_any g l.length c i gp l p lo w hs (by omega) hc hl hlo hp hg
  ·exact insertRoom_any g l.length c i gp l p lo w hs (by omega) (by omega) hl hp hg hgne
set_option maxRecDepth 100000 in
set_option maxHeartbeats 8000000 in
theorem saved_all (l : List (Nat × Nat)) (p : Nat × Nat) (hr : RiseK l) (hl : l.length ≤ 1000) (hp : p.1 < M256 ∧ p.2 < M256) : SavedOK l p := by
 intro lo w sv hs hlo
 have HS := Lib.hid hs
 have HR := Lib.hid hr
 have HP := Lib.hid hp.2
 have HB := Lib.hid (fun b (h : sv.ownBlock = some b) => (hs.1.lt b h).2)
 obtain ⟨_, A1, c, rfl, h1, h2, _⟩ := Rs.of_own hs.1
 have HK : Hid (Cs (w.alloc (.cells (pkc p) 33)) w.heap.size 33 (pkc p)) := Lib.hid (Cs.new _ _ _ _ rfl)
 have HE := Lib.hid ((Ext.refl w).alloc (.cells (pkc p) 33))
 have HPK := Lib.hid (pkb_key HK.out)
 have HHP := Lib.hid hp
 have hpl := posK_le l p.1
 clear hs hr
 obtain ⟨pc, hpc⟩ : ∃ pc, pkc p = pc := ⟨_, rfl⟩
 have HPC := Lib.hid hpc
 rw [hpc] at HE HK HPK ⊢
 clear hpc
 go_enter Try.func84, Try.ntmps84
 go_wp2_with ((with_reducible refine wpList_load_wordIn ?_ (.tmp 9) ?_ w.heap.size 0 p.1 ?_ ?_ ?_); (exact rfl); (exact rfl); (exact rfl); (exact HPK.out))
 generalize w.alloc (.cells pc 33) = w0 at *
 refine (slot_any _ l p.1 _ (HS.out.ext HE.out).pks HR.out (by omega) hp.1).mono ?_
 rintro e w1 ⟨rfl, he⟩
 have HE1 := Lib.hid (HE.out.trans he)
 have HK1 := Lib.hid (Cs.ext HK.out he)
 rw [← HPC.out] at HK1
 clear he HK HE HPK
 obtain ⟨k, hk⟩ : ∃ k, posK l p.1 = k := ⟨_, rfl⟩
 have HHK := Lib.hid hk
 rw [hk] at hpl ⊢
 cases hh : hasK l p.1 with
 | false =>
  have HSL := Lib.hid (savL_ins HR.out hh)
  rw [hk] at HSL
  have HKN := Lib.hid HK1.out
  have HLI := Lib.hid hpl
  have HLJ := Lib.hid (show l.length ≤ 1000 from hl)
  have HLO := Lib.hid (Nat.le_trans hlo HE1.out.size)
  clear hh hk
  have HPV := Lib.hid (pkb_val HKN.out)
  have HPR := Lib.hid (pair_range HKN.out)
  by_cases hz : p.2 = 0
  ·have hzb : (p.2 == 0) = true := by simpa using hz
   rw [if_pos hz, List.nil_append] at HSL
   clear hz
   rw [List.take_append_drop] at HSL
   go_wp2_with (first
    | ((with_reducible refine wpList_load_wordIn ?_ (.tmp 20) ?_ w.heap.size 4 p.2 ?_ ?_ ?_); (exact rfl); (exact rfl); (exact rfl); (exact HPV.out))
    | ((with_reducible refine wpList_eql_word ?_ (.tmp 21) (.tmp 22) ?_ p.2 0 HP.out (by decide) ?_ ?_ ?_); (exact rfl); (exact rfl); (exact rfl); (exact rfl); rw [hzb]))
   refine bodyPost_ret (results_tmp rfl _ _ _) rfl ?_
   exact ⟨_, rfl, by rw [HSL.out]; exact HS.out.ext HE1.out, (grown_ext_any HE1.out _)⟩
  ·have hzb : (p.2 == 0) = false := by simpa using hz
   rw [if_neg hz, List.singleton_append] at HSL
   clear hz
   go_wp2_with (first
    | ((with_reducible refine wpList_load_wordIn ?_ (.tmp 20) ?_ w.heap.size 4 p.2 ?_ ?_ ?_); (exact rfl); (exact rfl); (exact rfl); (exact HPV.out))
    | ((with_reducible refine wpList_eql_word ?_ (.tmp 21) (.tmp 22) ?_ p.2 0 HP.out (by decide) ?_ ?_ ?_); (exact rfl); (exact rfl); (exact rfl); (exact rfl); rw [hzb])
    | ((with_reducible refine wpList_load_pair ?_ (.tmp 3) ?_ w.heap.size 0 p ?_ ?_ ?_); (exact rfl); (exact rfl); (exact rfl); (exact HPR.out))
    | ((with_reducible refine wpList_build_one ?_ (.tmp 27) 35 33 ?_ Try.underlying35 _ 8 64 pkinfo3 (by decide) (by decide) (pkc p) rfl ?_ ?_); (exact rfl); (exact rfl); (exact rfl)))
   refine (insert_any _ k w1.heap.size l p lo _ (OwnK.ext (HS.out.ext HE1.out) ((Ext.refl w1).alloc (.cells (pkc p) 33))) HLI.out (by have := HLJ.out; omega) (Nat.le_trans HLO.out (by simp)) HHP.out (Cs.new _ _ _ _ rfl) (fun e => by have := HB.out _ e; have := HE1.out.size; omega)).mono ?_
   rintro e w9 ⟨v', rfl, ho', hg'⟩
   have HO9 := Lib.hid ho'
   have HG9 := Lib.hid (grown_grown (grown_ext_any HE1.out _) (grown_then ((Ext.refl w1).alloc (.cells (pkc p) 33)) hg'))
   clear ho' hg'
   go_wp2_with fail
   refine bodyPost_ret (results_tmp rfl _ _ _) rfl ?_
   exact ⟨_, rfl, by rw [HSL.out]; exact HO9.out, HG9.out⟩
 | true =>
  have HSL := Lib.hid (savL_del HR.out hh)
  rw [hk] at HSL
  have hlt : k < l.length := by
   unfold hasK at hh
   simp only [Bool.and_eq_true, decide_eq_true_eq] at hh
   rw [hk] at hh
   exact hh.1
  obtain ⟨g, rfl⟩ := own_addr HS.out.1 (by omega)
  have HGL := Lib.hid (HB.out g rfl)
  clear hh hk
  go_wp2_with fail
  rw [show ((k : Int) + 1) = ((k + 1 : Nat) : Int) from rfl]
  refine (delete_any g l.length c k l lo _ (HS.out.ext HE1.out) hlt (by omega)).mono ?_
  rintro e w2 ⟨m, c', rfl, hm, ho, hg⟩
  have HO := Lib.hid ho
  have HG := Lib.hid (grown_then HE1.out hg)
  have HKN := Lib.hid (Cs.kept HK1.out hg (some_ne (by have := HGL.out; omega)))
  have HDL := Lib.hid (show (l.take k ++ l.drop (k + 1)).length = m by rw [List.length_append, List.length_take, List.length_drop]; omega)
  have HLI := Lib.hid (show k ≤ (l.take k ++ l.drop (k + 1)).length by rw [HDL.out]; omega)
  have HLJ := Lib.hid (show (l.take k ++ l.drop (k + 1)).length ≤ 1000 by rw [HDL.out]; omega)
  have HLO := Lib.hid (Nat.le_trans (Nat.le_trans hlo HE1.out.size) hg.size)
  have HTK := Lib.hid (show (l.take k).length = k by rw [List.length_take]; omega)
  have HSZ := Lib.hid (show g < w2.heap.size by have := HGL.out; have := HG.out.size; omega)
  clear ho hg
  have HPV := Lib.hid (pkb_val HKN.out)
  have HPR := Lib.hid (pair_range HKN.out)
  by_cases hz : p.2 = 0
  ·have hzb : (p.2 == 0) = true := by simpa using hz
   rw [if_pos hz, List.nil_append] at HSL
   clear hz
   go_wp2_with (first
    | ((with_reducible refine wpList_load_wordIn ?_ (.tmp 20) ?_ w.heap.size 4 p.2 ?_ ?_ ?_); (exact rfl); (exact rfl); (exact rfl); (exact HPV.out))
    | ((with_reducible refine wpList_eql_word ?_ (.tmp 21) (.tmp 22) ?_ p.2 0 HP.out (by decide) ?_ ?_ ?_); (exact rfl); (exact rfl); (exact rfl); (exact rfl); rw [hzb]))
   refine bodyPost_ret (results_tmp rfl _ _ _) rfl ?_
   exact ⟨_, rfl, by rw [HSL.out]; exact HO.out, HG.out⟩
  ·have hzb : (p.2 == 0) = false := by simpa using hz
   rw [if_neg hz, List.singleton_append] at HSL
   clear hz
   go_wp2_with (first
    | ((with_reducible refine wpList_load_wordIn ?_ (.tmp 20) ?_ w.heap.size 4 p.2 ?_ ?_ ?_); (exact rfl); (exact rfl); (exact rfl); (exact HPV.out))
    | ((with_reducible refine wpList_eql_word ?_ (.tmp 21) (.tmp 22) ?_ p.2 0 HP.out (by decide) ?_ ?_ ?_); (exact rfl); (exact rfl); (exact rfl); (exact rfl); rw [hzb])
    | ((with_reducible refine wpList_load_pair ?_ (.tmp 3) ?_ w.heap.size 0 p ?_ ?_ ?_); (exact rfl); (exact rfl); (exact rfl); (exact HPR.out))
    | ((with_reducible refine wpList_build_one ?_ (.tmp 27) 35 33 ?_ Try.underlying35 _ 8 64 pkinfo3 (by decide) (by decide) (pkc p) rfl ?_ ?_); (exact rfl); (exact rfl); (exact rfl)))
   refine (insert_any _ k w2.heap.size (l.take k ++ l.drop (k + 1)) p lo _ (OwnK.ext (HO.out) ((Ext.refl w2).alloc (.cells (pkc p) 33))) HLI.out (by have := HLJ.out; omega) (Nat.le_trans HLO.out (by simp)) HHP.out (Cs.new _ _ _ _ rfl) (fun e => by have h9 : g = w2.heap.size := (by simpa [Value.ownBlock] using e); have := HSZ.out; omega)).mono ?_
   rintro e w9 ⟨v', rfl, ho', hg'⟩
   have HO9 := Lib.hid ho'
   have HG9 := Lib.hid (grown_grown HG.out (grown_then ((Ext.refl w2).alloc (.cells (pkc p) 33)) hg'))
   clear ho' hg'
   go_wp2_with fail
   refine bodyPost_ret (results_tmp rfl _ _ _) rfl ?_
   exact ⟨_, rfl, by rw [HSL.out]; have h9 := HO9.out; rw [List.take_left' HTK.out, List.drop_left' HTK.out] at h9; exact h9, HG9.out⟩
end Go.Proofs.Ytiojfpdjnblkhaa
namespace Go.Proofs.Ytiojfpdjnblkhaa
open Go.ChangeShapes Go.WideShapes Go.ChangeAt Go.RowKit Go.Shelf

set_option maxRecDepth 100000 in
theorem runOp_any (sv : Value) (l : List Ac) (o : Opn) (uo vo : Value) (w : World) (hs : Acs w sv l) (hl : l.length ≤ 1000) (hsz : ∀ q ∈ l, q.code.length ≤ 1000000 ∧ q.store.length ≤ 1000000) (hok : o.ok) (hu : Bs w uo o.ac.code) (hv : Pks w vo o.ac.store) :
  Calls Try.prog 12 #[.agg (opc o uo vo), .agg #[sv]] w (RetS w (runS l o)) :=
 run_any sv l o uo vo w hs hl hsz hok hu hv (fun hr => saved_all _ _ (accF_right hr o.a).1 (by have := (accF_right hr o.a).2.1; omega) ⟨hok.2.2.2.2.1, hok.2.2.2.2.2.1⟩)
end Go.Proofs.Ytiojfpdjnblkhaa
