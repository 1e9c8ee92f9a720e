/- Package journal: which worlds, which journals are the same. -/
import Derived.Test.YtnjpdchmdimaaaaGreatQJnj
namespace Go.Proofs.YtnjpdchmdimaaaaGreat
open Go.ChangeShapes Go.WideShapes Go.ChangeAt Go.RowKit Go.Shelf

set_option maxRecDepth 100000 in
set_option maxHeartbeats 4000000 in
theorem sameWo_any (u v z u' v' z' : Value) (a b : Wo) (w : World) (ha : WoR w u v z a) (hb : WoR w u' v' z' b) : Calls Tryz.prog 16 #[.agg #[u, v, z], .agg #[u', v', z']] w fun e w' => e = .returned (.bool (sameWo a b)) ∧ Ext w w' := by
 have HA := Lib.hid ha
 have HB := Lib.hid hb
 have HDF : Hid (sameWo a b = (eqL a.s b.s && (sameG a.g b.g && decide (a.n = b.n)))) := Lib.hid rfl
 obtain ⟨w0, hw0⟩ : ∃ w0, (w.alloc (.cells #[u, v, z] 30)).alloc (.cells #[u', v', z'] 30) = w0 := ⟨_, rfl⟩
 have HW0 := Lib.hid hw0
 have HC : Hid (Cs w0 w.heap.size 30 #[u, v, z]) := Lib.hid (by rw [← hw0]; exact Cs.alloc (Cs.new _ _ _ _ rfl) _)
 have HD : Hid (Cs w0 (w.heap.size + 1) 30 #[u', v', z']) := Lib.hid (by rw [← hw0]; exact Cs.new _ _ _ _ (by simp))
 have HE : Hid (Ext w w0) := Lib.hid (by rw [← hw0]; exact ((Ext.refl w).alloc _).alloc _)
 clear ha hb hw0
 have R1 := Lib.hid (show w0.rangeAt w.heap.size 0 [u] from rg_part (ds := [u]) 0 (Cs.rg HC.out) (fun j x hx => by match j with | 0 => exact hx))
 have R2 := Lib.hid (show w0.rangeAt (w.heap.size + 1) 0 [u'] from rg_part (ds := [u']) 0 (Cs.rg HD.out) (fun j x hx => by match j with | 0 => exact hx))
 go_enter Tryz.func16, Tryz.ntmps16
 go_upto_region 1 with fail
 rw [HW0.out]
 clear HW0
 go_wp2_with (first
  | ((with_reducible refine wpList_loadSt ?_ (.tmp 5) ?_ w.heap.size 0 u ?_ ?_ ?_); (exact rfl); (exact rfl); (exact rfl); (exact R1.out))
  | ((with_reducible refine wpList_loadSt ?_ (.tmp 7) ?_ (w.heap.size + 1) 0 u' ?_ ?_ ?_); (exact rfl); (exact rfl); (exact rfl); (exact R2.out)))
 refine (stateSame_any u u' a.s b.s _ (HA.out.1.ext HE.out) (HB.out.1.ext HE.out)).mono ?_
 rintro e w1 ⟨rfl, he⟩
 have HE1 := Lib.hid (HE.out.trans he)
 have HC1 := Lib.hid (Cs.ext HC.out he)
 have HD1 := Lib.hid (Cs.ext HD.out he)
 have R1 := Lib.hid (show w1.rangeAt w.heap.size 1 [v] from rg_part (ds := [v]) 1 (Cs.rg HC1.out) (fun j x hx => by match j with | 0 => exact hx))
 have R2 := Lib.hid (show w1.rangeAt (w.heap.size + 1) 1 [v'] from rg_part (ds := [v']) 1 (Cs.rg HD1.out) (fun j x hx => by match j with | 0 => exact hx))
 clear he HC HD HE
 cases hr : eqL a.s b.s with
 | false =>
  have HF := Lib.hid (show sameWo a b = false by rw [HDF.out, hr]; rfl)
  clear hr
  go_wp2_with fail
  refine bodyPost_ret (results_tmp rfl _ _ _) rfl ?_
  exact ⟨by rw [HF.out]; rfl, HE1.out⟩
 | true =>
  have HDF := Lib.hid (show sameWo a b = (sameG a.g b.g && decide (a.n = b.n)) by rw [HDF.out, hr]; rfl)
  clear hr
  go_wp2_with (first
   | ((with_reducible refine wpList_loadLd ?_ (.tmp 11) ?_ w.heap.size 1 v ?_ ?_ ?_); (exact rfl); (exact rfl); (exact rfl); (exact R1.out))
   | ((with_reducible refine wpList_loadLd ?_ (.tmp 13) ?_ (w.heap.size + 1) 1 v' ?_ ?_ ?_); (exact rfl); (exact rfl); (exact rfl); (exact R2.out)))
  refine (sameL_any v v' a.g b.g _ (HA.out.2.1.ext HE1.out) (HB.out.2.1.ext HE1.out)).mono ?_
  rintro e w2 ⟨rfl, he⟩
  have HE2 := Lib.hid (HE1.out.trans he)
  have c2 := (Cs.ext HC1.out he).cell 2 _ rfl
  have d2 := (Cs.ext HD1.out he).cell 2 _ rfl
  clear he HC1 HD1 R1 R2 HE1
  cases hr : sameG a.g b.g with
  | false =>
   have HF := Lib.hid (show sameWo a b = false by rw [HDF.out, hr]; rfl)
   clear hr
   go_wp2_with fail
   refine bodyPost_ret (results_tmp rfl _ _ _) rfl ?_
   exact ⟨by rw [HF.out]; rfl, HE2.out⟩
  | true =>
   have HF := Lib.hid (show sameWo a b = decide (a.n = b.n) by rw [HDF.out, hr]; rfl)
   obtain ⟨nb, hnb⟩ : ∃ x, decide (a.n = b.n) = x := ⟨_, rfl⟩
   have HN := Lib.hid (fun W (h : Ext w W) => show Calls Tryz.prog 49 #[z, z'] W (fun e w' => e = .returned (.bool nb) ∧ Ext W w') from hnb ▸ sameN_any z z' a.n b.n W (HA.out.2.2.ext h) (HB.out.2.2.ext h))
   rw [hnb] at HF
   clear hr hnb
   go_wp2_with fail
   refine (HN.out _ HE2.out).mono ?_
   rintro e w3 ⟨rfl, he⟩
   have HE3 := Lib.hid (HE2.out.trans he)
   clear he HN
   go_wp2_with fail
   refine bodyPost_ret (results_tmp rfl _ _ _) rfl ?_
   exact ⟨by rw [HF.out]; rfl, HE3.out⟩
set_option maxRecDepth 100000 in
set_option maxHeartbeats 4000000 in
theorem samePo1_any (u v z a s q u' v' z' a' s' q' : Value) (p r : Po) (w : World) (h1 : WoR w u v z p.w) (h2 : AxR w a s q p.x) (h3 : WoR w u' v' z' r.w) (h4 : AxR w a' s' q' r.x) : Calls Tryz.prog 45 #[.agg #[u, v, z, a, s, q], .agg #[u', v', z', a', s', q']] w fun e w' => e = .returned (.bool (samePo p r)) ∧ Ext w w' := by
 have H1 := Lib.hid h1
 have H2 := Lib.hid h2
 have H3 := Lib.hid h3
 have H4 := Lib.hid h4
 have HDF : Hid (samePo p r = (sameWo p.w r.w && sameX p.x r.x)) := Lib.hid rfl
 obtain ⟨w0, hw0⟩ : ∃ w0, (w.alloc (.cells #[u, v, z, a, s, q] 37)).alloc (.cells #[u', v', z', a', s', q'] 37) = w0 := ⟨_, rfl⟩
 have HW0 := Lib.hid hw0
 have HC : Hid (Cs w0 w.heap.size 37 #[u, v, z, a, s, q]) := Lib.hid (by rw [← hw0]; exact Cs.alloc (Cs.new _ _ _ _ rfl) _)
 have HD : Hid (Cs w0 (w.heap.size + 1) 37 #[u', v', z', a', s', q']) := Lib.hid (by rw [← hw0]; exact Cs.new _ _ _ _ (by simp))
 have HE : Hid (Ext w w0) := Lib.hid (by rw [← hw0]; exact ((Ext.refl w).alloc _).alloc _)
 clear h1 h2 h3 h4 hw0
 have R1 := Lib.hid (show w0.rangeAt w.heap.size 0 [u, v, z] from rg_part (ds := [u, v, z]) 0 (Cs.rg HC.out) (fun j x hx => by match j with | 0 => exact hx | 1 => exact hx | 2 => exact hx))
 have R2 := Lib.hid (show w0.rangeAt (w.heap.size + 1) 0 [u', v', z'] from rg_part (ds := [u', v', z']) 0 (Cs.rg HD.out) (fun j x hx => by match j with | 0 => exact hx | 1 => exact hx | 2 => exact hx))
 go_enter Tryz.func45, Tryz.ntmps45
 go_upto_region 1 with fail
 rw [HW0.out]
 clear HW0
 go_wp2_with (first
  | ((with_reducible refine wpList_loadWo ?_ (.tmp 5) ?_ w.heap.size 0 u v z ?_ ?_ ?_); (exact rfl); (exact rfl); (exact rfl); (exact R1.out))
  | ((with_reducible refine wpList_loadWo ?_ (.tmp 7) ?_ (w.heap.size + 1) 0 u' v' z' ?_ ?_ ?_); (exact rfl); (exact rfl); (exact rfl); (exact R2.out)))
 refine (sameWo_any u v z u' v' z' p.w r.w _ (H1.out.ext HE.out) (H3.out.ext HE.out)).mono ?_
 rintro e w1 ⟨rfl, he⟩
 have HE1 := Lib.hid (HE.out.trans he)
 have HC1 := Lib.hid (Cs.ext HC.out he)
 have HD1 := Lib.hid (Cs.ext HD.out he)
 have R1 := Lib.hid (show w1.rangeAt w.heap.size 3 [a, s, q] from rg_part (ds := [a, s, q]) 3 (Cs.rg HC1.out) (fun j x hx => by match j with | 0 => exact hx | 1 => exact hx | 2 => exact hx))
 have R2 := Lib.hid (show w1.rangeAt (w.heap.size + 1) 3 [a', s', q'] from rg_part (ds := [a', s', q']) 3 (Cs.rg HD1.out) (fun j x hx => by match j with | 0 => exact hx | 1 => exact hx | 2 => exact hx))
 clear he HC HD HE
 cases hr : sameWo p.w r.w with
 | false =>
  have HF := Lib.hid (show samePo p r = false by rw [HDF.out, hr]; rfl)
  clear hr
  go_wp2_with fail
  refine bodyPost_ret (results_tmp rfl _ _ _) rfl ?_
  exact ⟨by rw [HF.out]; rfl, HE1.out⟩
 | true =>
  have HF := Lib.hid (show samePo p r = sameX p.x r.x by rw [HDF.out, hr]; rfl)
  obtain ⟨nb, hnb⟩ : ∃ x, sameX p.x r.x = x := ⟨_, rfl⟩
  have HN := Lib.hid (fun W (h : Ext w W) => show Calls Tryz.prog 43 #[.agg #[a, s, q], .agg #[a', s', q']] W (fun e w' => e = .returned (.bool nb) ∧ Ext W w') from hnb ▸ sameX_any a s q a' s' q' p.x r.x W (H2.out.ext h) (H4.out.ext h))
  rw [hnb] at HF
  clear hr hnb
  go_wp2_with (first
   | ((with_reducible refine wpList_loadXk ?_ (.tmp 11) ?_ w.heap.size 3 a s q ?_ ?_ ?_); (exact rfl); (exact rfl); (exact rfl); (exact R1.out))
   | ((with_reducible refine wpList_loadXk ?_ (.tmp 13) ?_ (w.heap.size + 1) 3 a' s' q' ?_ ?_ ?_); (exact rfl); (exact rfl); (exact rfl); (exact R2.out)))
  refine (HN.out _ HE1.out).mono ?_
  rintro e w3 ⟨rfl, he⟩
  have HE3 := Lib.hid (HE1.out.trans he)
  clear he HN
  go_wp2_with fail
  refine bodyPost_ret (results_tmp rfl _ _ _) rfl ?_
  exact ⟨by rw [HF.out]; rfl, HE3.out⟩
def samePs (l m : List Po) : Bool := l.length == m.length && (List.range l.length).all fun i => samePo (l.getD i po0) (m.getD i po0)
theorem samePo_self (p : Po) : samePo p p = true := samePo_iff.2 rfl
theorem samePs_iff (l m : List Po) : samePs l m = true ↔ l = m := by
 unfold samePs
 rw [Bool.and_eq_true, beq_iff_eq, List.all_eq_true]
 constructor
 ·rintro ⟨h1, h2⟩
  apply List.ext_getElem h1
  intro i hi hj
  have := samePo_iff.1 (h2 i (List.mem_range.2 hi))
  rwa [List.getD_eq_getElem?_getD, List.getD_eq_getElem?_getD, List.getElem?_eq_getElem hi, List.getElem?_eq_getElem hj] at this
 ·rintro rfl
  exact ⟨rfl, fun i _ => samePo_self _⟩
theorem samePs_len {l m : List Po} (h : l.length ≠ m.length) : samePs l m = false := by unfold samePs; rw [beq_eq_false_iff_ne.2 h]; rfl
theorem samePs_at {l m : List Po} (i : Nat) (h : samePo (l.getD i po0) (m.getD i po0) = false) : samePs l m = false := by
 cases hs : samePs l m with
 | false => rfl
 | true =>
  rw [(samePs_iff l m).1 hs, samePo_self] at h
  cases h
theorem samePs_all {l m : List Po} (h : l.length = m.length) (ha : ∀ i, i < l.length → samePo (l.getD i po0) (m.getD i po0) = true) : samePs l m = true := by
 unfold samePs
 rw [Bool.and_eq_true, beq_iff_eq, List.all_eq_true]
 exact ⟨h, fun i hi => ha i (List.mem_range.1 hi)⟩
set_option maxRecDepth 100000 in
set_option maxHeartbeats 4000000 in
theorem equalPs_any (y1 y2 : Value) (l m : List Po) (w : World) (hs : Pos w y1 l) (ht : Pos w y2 m) :
  Calls Tryz.prog 44 #[y1, y2, .func (.func 45) #[] #[]] w fun e w' => e = .returned (.bool (samePs l m)) ∧ Ext w w' := by
 have HS := Lib.hid hs
 have HT := Lib.hid ht
 obtain ⟨A1, c1, rfl, h1, h2⟩ := hs.len
 obtain ⟨A2, c2, rfl, h3, h4⟩ := ht.len
 unfold maxLen at h2 h4
 clear hs ht
 go_enter Tryz.func44, Tryz.ntmps44
 by_cases hl : l.length = m.length
 ·have HLEN := Lib.hid hl
  rw [← hl] at HT h3 ⊢
  have e1 : ((l.length : Int) != (l.length : Int)) = false := by simp
  have e2 : (l.length != l.length) = false := by simp
  clear hl
  go_wp2_with fail
  go_loopw [17] (fun iv wr => ∃ k : Nat, k ≤ l.length ∧ iv = .int .i64 k ∧ Hid ((∀ i, i < k → samePo (l.getD i po0) (m.getD i po0) = true) ∧ Ext w wr)) (fun iv _ => l.length - (intOf iv).toNat)
  case atStart => exact ⟨0, by omega, rfl, Lib.hid ⟨fun i hi => absurd hi (by omega), Ext.refl _⟩⟩
  case round =>
   obtain ⟨k, hk, rfl, HJ⟩ := hrel
   by_cases hlt : k < l.length
   ·have hd : decide (k < l.length) = true := decide_eq_true hlt
    have hd2 : decide ((k : Int) < (l.length : Int)) = true := decide_eq_true (by omega)
    obtain ⟨b1, o1, u, v, z, a, s, q, rfl, hr1, hw1, hx1⟩ := (HS.out.ext HJ.out.2).at k hlt
    obtain ⟨b2, o2, u', v', z', a', s', q', rfl, hr2, hw2, hx2⟩ := (HT.out.ext HJ.out.2).at k (by rw [← HLEN.out]; exact hlt)
    have HR1 := Lib.hid hr1
    have HR2 := Lib.hid hr2
    have HP1 := Lib.hid (And.intro hw1 hx1)
    have HP2 := Lib.hid (And.intro hw2 hx2)
    have HO1 := Lib.hid (show (#[u, v, z, a, s, q] : Array Value).all (·.oneCell') = true by obtain ⟨y1, y2, y3⟩ := axr_one hx1; simp [acs_one hw1.1, hds_one hw1.2.1, nns_one hw1.2.2, y1, y2, y3])
    have HO2 := Lib.hid (show (#[u', v', z', a', s', q'] : Array Value).all (·.oneCell') = true by obtain ⟨y1, y2, y3⟩ := axr_one hx2; simp [acs_one hw2.1, hds_one hw2.2.1, nns_one hw2.2.2, y1, y2, y3])
    have HAT := Lib.hid (fun h => samePs_at (l := l) (m := m) k h)
    clear hr1 hr2 hw1 hx1 hw2 hx2
    generalize hpp : l.getD k po0 = p at *
    generalize hqq : m.getD k po0 = r at *
    have HPQ := Lib.hid (And.intro hpp hqq)
    clear hpp hqq
    go_upto_region 6 with (first
     | ((with_reducible refine wpList_loadPo ?_ (.tmp 20) ?_ b1 (o1 + k * 6) u v z a s q ?_ ?_ ?_); (exact rfl); (exact rfl); (exact rfl); (exact HR1.out))
     | ((with_reducible refine wpList_storePo ?_ ?_ (.tmp 8) (.tmp 21) ?_ wr.heap.size (.slice none 0 0) (.slice none 0 0) (.slice none 0 0) (.slice none 0 0) (.slice none 0 0) (.slice none 0 0) u v z a s q ?_ ?_ ?_ ?_ ?_); (exact rfl); (exact rfl); (exact rfl); (exact rfl); (exact rfl); (exact HO1.out); (exact Cs.new _ _ _ _ rfl); intro w4 k4 g4; have K4 := Lib.hid k4; have HX4 := Lib.hid (((Ext.refl wr).alloc (.cells #[.slice none 0 0, .slice none 0 0, .slice none 0 0, .slice none 0 0, .slice none 0 0, .slice none 0 0] 37)).grown g4 (Nat.le_refl _)); clear k4 g4))
    have HR2 := Lib.hid (show w4.rangeAt b2 (o2 + k * 6) [u', v', z', a', s', q'] from fun j x hx => HX4.out.cell (HR2.out j x hx))
    go_upto_region 7 with (first
     | ((with_reducible refine wpList_loadPo ?_ (.tmp 24) ?_ b2 (o2 + k * 6) u' v' z' a' s' q' ?_ ?_ ?_); (exact rfl); (exact rfl); (exact rfl); (exact HR2.out))
     | ((with_reducible refine wpList_storePo ?_ ?_ (.tmp 9) (.tmp 25) ?_ w4.heap.size (.slice none 0 0) (.slice none 0 0) (.slice none 0 0) (.slice none 0 0) (.slice none 0 0) (.slice none 0 0) u' v' z' a' s' q' ?_ ?_ ?_ ?_ ?_); (exact rfl); (exact rfl); (exact rfl); (exact rfl); (exact rfl); (exact HO2.out); (exact Cs.new _ _ _ _ rfl); intro w6 k6 g6; have K6 := Lib.hid k6; have HX6 := Lib.hid (((Ext.refl w4).alloc (.cells #[.slice none 0 0, .slice none 0 0, .slice none 0 0, .slice none 0 0, .slice none 0 0, .slice none 0 0] 37)).grown g6 (Nat.le_refl _)); clear k6 g6))
    have R1 := Lib.hid (show w6.rangeAt wr.heap.size 0 [u, v, z, a, s, q] from Cs.rg (Cs.ext K4.out HX6.out))
    have R2 := Lib.hid (show w6.rangeAt w4.heap.size 0 [u', v', z', a', s', q'] from Cs.rg K6.out)
    have HX46 := Lib.hid (HX4.out.trans HX6.out)
    have HE6 := Lib.hid (HJ.out.2.trans HX46.out)
    have HJA := Lib.hid HJ.out.1
    clear HJ K4 K6 HX4 HX6
    go_wp2_with (first
     | ((with_reducible refine wpList_loadPo ?_ (.tmp 8) ?_ wr.heap.size 0 u v z a s q ?_ ?_ ?_); (exact rfl); (exact rfl); (exact rfl); (exact R1.out))
     | ((with_reducible refine wpList_loadPo ?_ (.tmp 9) ?_ w4.heap.size 0 u' v' z' a' s' q' ?_ ?_ ?_); (exact rfl); (exact rfl); (exact rfl); (exact R2.out)))
    refine (samePo1_any u v z a s q u' v' z' a' s' q' p r _ (HP1.out.1.ext HX46.out) (HP1.out.2.ext HX46.out) (HP2.out.1.ext HX46.out) (HP2.out.2.ext HX46.out)).mono ?_
    rintro e w7 ⟨rfl, he⟩
    have HE7 := Lib.hid (HE6.out.trans he)
    clear he
    cases heq : samePo p r with
    | false =>
     have HF := Lib.hid (HAT.out heq)
     clear heq
     go_wp2_with fail
     refine bodyPost_ret (results_tmp rfl _ _ _) rfl ?_
     exact ⟨by rw [HF.out]; rfl, HE7.out⟩
    | true =>
     have HEQ := Lib.hid heq
     clear heq
     go_wp2_with fail
     refine ⟨⟨k + 1, by omega, by go_num, Lib.hid ⟨fun i hi => ?_, HE7.out⟩⟩, by simp [intOf]; omega⟩
     by_cases hik : i = k
     ·subst hik; rw [HPQ.out.1, HPQ.out.2]; exact HEQ.out
     ·exact HJA.out i (by omega)
   ·obtain rfl : k = l.length := by omega
    have hd : decide (l.length < l.length) = false := decide_eq_false (by omega)
    have hd2 : decide ((l.length : Int) < (l.length : Int)) = false := decide_eq_false (by omega)
    have HF := Lib.hid (samePs_all HLEN.out HJ.out.1)
    have HJE := Lib.hid HJ.out.2
    clear HJ
    go_wp2_with fail
    go_ret
    exact ⟨by rw [HF.out]; rfl, HJE.out⟩
 ·have e1 : ((l.length : Int) != (m.length : Int)) = true := by simp; omega
  have e2 : (l.length != m.length) = true := by simpa using hl
  have HF := Lib.hid (samePs_len hl)
  clear hl
  go_wp2_with fail
  go_ret
  exact ⟨by rw [HF.out]; rfl, Ext.refl _⟩
def sameJn (j k : Jn) : Bool := sameWo j.p.w k.p.w && (sameX j.p.x k.p.x && samePs j.m k.m)
theorem sameJn_iff {j k : Jn} : sameJn j k = true ↔ j = k := by
 cases j with | mk p m => cases k with | mk r n => cases p; cases r; unfold sameJn; rw [Bool.and_eq_true, Bool.and_eq_true, sameWo_iff, sameX_iff, samePs_iff]; simp [and_assoc]
set_option maxRecDepth 100000 in
set_option maxHeartbeats 4000000 in
theorem sameJ_any (u v z a s q m u' v' z' a' s' q' m' : Value) (j k : Jn) (w : World) (h1 : WoR w u v z j.p.w) (h2 : AxR w a s q j.p.x) (h5 : Pos w m j.m) (h3 : WoR w u' v' z' k.p.w) (h4 : AxR w a' s' q' k.p.x) (h6 : Pos w m' k.m) : Calls Tryz.prog 14 #[.agg #[u, v, z, a, s, q, m], .agg #[u', v', z', a', s', q', m']] w fun e w' => e = .returned (.bool (sameJn j k)) ∧ Ext w w' := by
 have H1 := Lib.hid h1
 have H2 := Lib.hid h2
 have H3 := Lib.hid h3
 have H4 := Lib.hid h4
 have H5 := Lib.hid h5
 have H6 := Lib.hid h6
 have HDF : Hid (sameJn j k = (sameWo j.p.w k.p.w && (sameX j.p.x k.p.x && samePs j.m k.m))) := Lib.hid rfl
 obtain ⟨w0, hw0⟩ : ∃ w0, (w.alloc (.cells #[u, v, z, a, s, q, m] 40)).alloc (.cells #[u', v', z', a', s', q', m'] 40) = w0 := ⟨_, rfl⟩
 have HW0 := Lib.hid hw0
 have HC : Hid (Cs w0 w.heap.size 40 #[u, v, z, a, s, q, m]) := Lib.hid (by rw [← hw0]; exact Cs.alloc (Cs.new _ _ _ _ rfl) _)
 have HD : Hid (Cs w0 (w.heap.size + 1) 40 #[u', v', z', a', s', q', m']) := Lib.hid (by rw [← hw0]; exact Cs.new _ _ _ _ (by simp))
 have HE : Hid (Ext w w0) := Lib.hid (by rw [← hw0]; exact ((Ext.refl w).alloc _).alloc _)
 clear h1 h2 h3 h4 h5 h6 hw0
 have R1 := Lib.hid (show w0.rangeAt w.heap.size 0 [u, v, z] from rg_part (ds := [u, v, z]) 0 (Cs.rg HC.out) (fun j x hx => by match j with | 0 => exact hx | 1 => exact hx | 2 => exact hx))
 have R2 := Lib.hid (show w0.rangeAt (w.heap.size + 1) 0 [u', v', z'] from rg_part (ds := [u', v', z']) 0 (Cs.rg HD.out) (fun j x hx => by match j with | 0 => exact hx | 1 => exact hx | 2 => exact hx))
 go_enter Tryz.func14, Tryz.ntmps14
 go_upto_region 1 with fail
 rw [HW0.out]
 clear HW0
 go_wp2_with (first
  | ((with_reducible refine wpList_loadWo ?_ (.tmp 6) ?_ w.heap.size 0 u v z ?_ ?_ ?_); (exact rfl); (exact rfl); (exact rfl); (exact R1.out))
  | ((with_reducible refine wpList_loadWo ?_ (.tmp 9) ?_ (w.heap.size + 1) 0 u' v' z' ?_ ?_ ?_); (exact rfl); (exact rfl); (exact rfl); (exact R2.out)))
 refine (sameWo_any u v z u' v' z' j.p.w k.p.w _ (H1.out.ext HE.out) (H3.out.ext HE.out)).mono ?_
 rintro e w1 ⟨rfl, he⟩
 have HE1 := Lib.hid (HE.out.trans he)
 have HC1 := Lib.hid (Cs.ext HC.out he)
 have HD1 := Lib.hid (Cs.ext HD.out he)
 have R1 := Lib.hid (show w1.rangeAt w.heap.size 3 [a, s, q] from rg_part (ds := [a, s, q]) 3 (Cs.rg HC1.out) (fun j x hx => by match j with | 0 => exact hx | 1 => exact hx | 2 => exact hx))
 have R2 := Lib.hid (show w1.rangeAt (w.heap.size + 1) 3 [a', s', q'] from rg_part (ds := [a', s', q']) 3 (Cs.rg HD1.out) (fun j x hx => by match j with | 0 => exact hx | 1 => exact hx | 2 => exact hx))
 clear he HC HD HE
 cases hr : sameWo j.p.w k.p.w with
 | false =>
  have HF := Lib.hid (show sameJn j k = false by rw [HDF.out, hr]; rfl)
  clear hr
  go_wp2_with fail
  refine bodyPost_ret (results_tmp rfl _ _ _) rfl ?_
  exact ⟨by rw [HF.out]; rfl, HE1.out⟩
 | true =>
  have HDF := Lib.hid (show sameJn j k = (sameX j.p.x k.p.x && samePs j.m k.m) by rw [HDF.out, hr]; rfl)
  clear hr
  go_wp2_with (first
   | ((with_reducible refine wpList_loadXk ?_ (.tmp 14) ?_ w.heap.size 3 a s q ?_ ?_ ?_); (exact rfl); (exact rfl); (exact rfl); (exact R1.out))
   | ((with_reducible refine wpList_loadXk ?_ (.tmp 17) ?_ (w.heap.size + 1) 3 a' s' q' ?_ ?_ ?_); (exact rfl); (exact rfl); (exact rfl); (exact R2.out)))
  refine (sameX_any a s q a' s' q' j.p.x k.p.x _ (H2.out.ext HE1.out) (H4.out.ext HE1.out)).mono ?_
  rintro e w2 ⟨rfl, he⟩
  have HE2 := Lib.hid (HE1.out.trans he)
  have c6 := (Cs.ext HC1.out he).cell 6 _ rfl
  have d6 := (Cs.ext HD1.out he).cell 6 _ rfl
  clear he R1 R2 HC1 HD1 HE1
  cases hr : sameX j.p.x k.p.x with
  | false =>
   have HF := Lib.hid (show sameJn j k = false by rw [HDF.out, hr]; rfl)
   clear hr
   go_wp2_with fail
   refine bodyPost_ret (results_tmp rfl _ _ _) rfl ?_
   exact ⟨by rw [HF.out]; rfl, HE2.out⟩
  | true =>
   have HF := Lib.hid (show sameJn j k = samePs j.m k.m by rw [HDF.out, hr]; rfl)
   obtain ⟨nb, hnb⟩ : ∃ x, samePs j.m k.m = x := ⟨_, rfl⟩
   have HN := Lib.hid (fun W (h : Ext w W) => show Calls Tryz.prog 44 #[m, m', .func (.func 45) #[] #[]] W (fun e w' => e = .returned (.bool nb) ∧ Ext W w') from hnb ▸ equalPs_any m m' j.m k.m W (H5.out.ext h) (H6.out.ext h))
   rw [hnb] at HF
   clear hr hnb
   go_wp2_with fail
   refine (HN.out _ HE2.out).mono ?_
   rintro e w3 ⟨rfl, he⟩
   have HE3 := Lib.hid (HE2.out.trans he)
   clear he HN
   go_wp2_with fail
   refine bodyPost_ret (results_tmp rfl _ _ _) rfl ?_
   exact ⟨by rw [HF.out]; rfl, HE3.out⟩
end Go.Proofs.YtnjpdchmdimaaaaGreat
