/- Package journal: changed. -/
import Derived.Test.YtnjpdchmdimaaaaGreatQJna
import Derived.Test.YtnjpdchmdimaaaaGreatQJni
namespace Go.Proofs.YtnjpdchmdimaaaaGreat
open Go.ChangeShapes Go.WideShapes Go.ChangeAt Go.RowKit Go.Shelf

set_option maxRecDepth 100000 in
set_option maxHeartbeats 4000000 in
theorem checkWo_any (u v z : Value) (o : Wo) (w : World) (ho : WoR w u v z o) (hs : SzW o) : Calls Tryz.prog 13 #[.agg #[u, v, z]] w fun e w' => e = .returned (.int .i64 (chkWo o)) ∧ Ext w w' := by
 have HO := Lib.hid ho
 have HS := Lib.hid (show o.s.length ≤ 100000 from hs)
 have HDF : Hid (chkWo o = if rightL o.s && (rightG o.g && rightN o.n) then 0 else 200) := Lib.hid rfl
 obtain ⟨w0, hw0⟩ : ∃ w0, w.alloc (.cells #[u, v, z] 30) = w0 := ⟨_, rfl⟩
 have HW0 := Lib.hid hw0
 have HC : Hid (Cs w0 w.heap.size 30 #[u, v, z]) := Lib.hid (by rw [← hw0]; exact Cs.new _ _ _ _ rfl)
 have HE : Hid (Ext w w0) := Lib.hid (by rw [← hw0]; exact (Ext.refl w).alloc _)
 clear ho hs hw0
 have R1 := Lib.hid (show w0.rangeAt w.heap.size 0 [u] from rg_part (ds := [u]) 0 (Cs.rg HC.out) (fun j x hx => by match j with | 0 => exact hx))
 go_enter Tryz.func13, Tryz.ntmps13
 go_upto_region 1 with fail
 rw [HW0.out]
 clear HW0
 go_wp2_with ((with_reducible refine wpList_loadSt ?_ (.tmp 3) ?_ w.heap.size 0 u ?_ ?_ ?_); (exact rfl); (exact rfl); (exact rfl); (exact R1.out))
 refine (stateCheck_any u o.s _ (HO.out.1.ext HE.out) HS.out).mono ?_
 rintro e w1 ⟨rfl, he⟩
 have HE1 := Lib.hid (HE.out.trans he)
 have R2 := Lib.hid (show w1.rangeAt w.heap.size 1 [v] from rg_part (ds := [v]) 1 (Cs.rg (Cs.ext HC.out he)) (fun j x hx => by match j with | 0 => exact hx))
 have HC1 := Lib.hid (Cs.ext HC.out he)
 clear he R1
 cases hr : rightL o.s with
 | false =>
  have HK : Hid (chkE o.s = 160) := Lib.hid (by unfold chkE; rw [hr]; rfl)
  have HF := Lib.hid (show chkWo o = 200 by rw [HDF.out, hr]; rfl)
  clear hr
  rw [HK.out]
  go_wp2_with fail
  refine bodyPost_ret (results_tmp rfl _ _ _) rfl ?_
  exact ⟨by rw [HF.out]; rfl, HE1.out⟩
 | true =>
  have HK : Hid (chkE o.s = 0) := Lib.hid (by unfold chkE; rw [hr]; rfl)
  have HDF := Lib.hid (show chkWo o = if rightG o.g && rightN o.n then 0 else 200 by rw [HDF.out, hr]; rfl)
  clear hr
  rw [HK.out]
  go_wp2_with ((with_reducible refine wpList_loadLd ?_ (.tmp 8) ?_ w.heap.size 1 v ?_ ?_ ?_); (exact rfl); (exact rfl); (exact rfl); (exact R2.out))
  refine (ledCheck_any v o.g _ (HO.out.2.1.ext HE1.out)).mono ?_
  rintro e w2 ⟨rfl, he⟩
  have HE2 := Lib.hid (HE1.out.trans he)
  have c2 := (Cs.ext HC1.out he).cell 2 _ rfl
  clear he R2
  cases hr : rightG o.g with
  | false =>
   have HK : Hid (chkG o.g = 170) := Lib.hid (by unfold chkG; rw [hr]; rfl)
   have HF := Lib.hid (show chkWo o = 200 by rw [HDF.out, hr]; rfl)
   clear hr
   rw [HK.out]
   go_wp2_with fail
   refine bodyPost_ret (results_tmp rfl _ _ _) rfl ?_
   exact ⟨by rw [HF.out]; rfl, HE2.out⟩
  | true =>
   have HK : Hid (chkG o.g = 0) := Lib.hid (by unfold chkG; rw [hr]; rfl)
   have HDF := Lib.hid (show chkWo o = if rightN o.n then 0 else 200 by rw [HDF.out, hr]; rfl)
   clear hr
   rw [HK.out]
   go_wp2_with fail
   refine (checkN_any z o.n _ (HO.out.2.2.ext HE2.out)).mono ?_
   rintro e w3 ⟨rfl, he⟩
   have HE3 := Lib.hid (HE2.out.trans he)
   clear he
   cases hr : rightN o.n with
   | false =>
    have HK : Hid (chkN o.n = 180) := Lib.hid (by unfold chkN; rw [hr]; rfl)
    have HF := Lib.hid (show chkWo o = 200 by rw [HDF.out, hr]; rfl)
    clear hr
    rw [HK.out]
    go_wp2_with fail
    refine bodyPost_ret (results_tmp rfl _ _ _) rfl ?_
    exact ⟨by rw [HF.out]; rfl, HE3.out⟩
   | true =>
    have HK : Hid (chkN o.n = 0) := Lib.hid (by unfold chkN; rw [hr]; rfl)
    have HF := Lib.hid (show chkWo o = 0 by rw [HDF.out, hr]; rfl)
    clear hr
    rw [HK.out]
    go_wp2_with fail
    refine bodyPost_ret (results_tmp rfl _ _ _) rfl ?_
    exact ⟨by rw [HF.out]; rfl, HE3.out⟩
set_option maxRecDepth 100000 in
set_option maxHeartbeats 4000000 in
theorem mayBeJ_any (u v z a s q : Value) (p : Po) (w : World) (ho : WoR w u v z p.w) (hx : AxR w a s q p.x) (hs : SzW p.w) : Calls Tryz.prog 39 #[.agg #[u, v, z], .agg #[a, s, q]] w fun e w' => e = .returned (.bool (rightPo p)) ∧ Ext w w' := by
 have HO := Lib.hid ho
 have HX := Lib.hid hx
 have HS := Lib.hid hs
 have HDF : Hid (rightPo p = (rightWo p.w && rightX p.x)) := Lib.hid rfl
 obtain ⟨w0, hw0⟩ : ∃ w0, (w.alloc (.cells #[u, v, z] 30)).alloc (.cells #[a, s, q] 35) = w0 := ⟨_, rfl⟩
 have HW0 := Lib.hid hw0
 have HC : Hid (Cs w0 w.heap.size 30 #[u, v, z]) := Lib.hid (by rw [← hw0]; exact Cs.alloc (Cs.new _ _ _ _ rfl) _)
 have HD : Hid (Cs w0 (w.heap.size + 1) 35 #[a, s, q]) := Lib.hid (by rw [← hw0]; exact Cs.new _ _ _ _ (by simp))
 have HE : Hid (Ext w w0) := Lib.hid (by rw [← hw0]; exact ((Ext.refl w).alloc _).alloc _)
 have R1 := Lib.hid (Cs.rg HC.out)
 clear ho hs hx hw0
 go_enter Tryz.func39, Tryz.ntmps39
 go_upto_region 1 with fail
 rw [HW0.out]
 clear HW0
 go_wp2_with ((with_reducible refine wpList_loadWo ?_ (.tmp 2) ?_ w.heap.size 0 u v z ?_ ?_ ?_); (exact rfl); (exact rfl); (exact rfl); (exact R1.out))
 refine (checkWo_any u v z p.w _ (HO.out.ext HE.out) HS.out).mono ?_
 rintro e w1 ⟨rfl, he⟩
 have HE1 := Lib.hid (HE.out.trans he)
 have HD1 := Lib.hid (Cs.ext HD.out he)
 clear he R1
 cases hr : rightWo p.w with
 | false =>
  have HK : Hid (chkWo p.w = 200) := Lib.hid (by unfold chkWo; rw [hr]; rfl)
  have HF := Lib.hid (show rightPo p = false by rw [HDF.out, hr]; rfl)
  clear hr
  rw [HK.out]
  go_wp2_with fail
  refine bodyPost_ret (results_tmp rfl _ _ _) rfl ?_
  exact ⟨by rw [HF.out]; rfl, HE1.out⟩
 | true =>
  have HK : Hid (chkWo p.w = 0) := Lib.hid (by unfold chkWo; rw [hr]; rfl)
  have HDF := Lib.hid (show rightPo p = rightX p.x by rw [HDF.out, hr]; rfl)
  clear hr
  rw [HK.out]
  go_wp2_with ((with_reducible refine wpList_loadX ?_ (.tmp 3) ?_ (w.heap.size + 1) a s q ?_ HD1.out ?_); (exact rfl); (exact rfl); (exact rfl))
  refine (checkX_any a s q p.x _ (HX.out.ext HE1.out)).mono ?_
  rintro e w2 ⟨rfl, he⟩
  have HE2 := Lib.hid (HE1.out.trans he)
  clear he
  cases hr : rightX p.x with
  | false =>
   have HK : Hid (chkX p.x = 190) := Lib.hid (by unfold chkX; rw [hr]; rfl)
   have HF := Lib.hid (show rightPo p = false by rw [HDF.out, hr])
   clear hr
   rw [HK.out]
   go_wp2_with fail
   refine bodyPost_ret (results_tmp rfl _ _ _) rfl ?_
   exact ⟨by rw [HF.out]; rfl, HE2.out⟩
  | true =>
   have HK : Hid (chkX p.x = 0) := Lib.hid (by unfold chkX; rw [hr]; rfl)
   have HF := Lib.hid (show rightPo p = true by rw [HDF.out, hr])
   clear hr
   rw [HK.out]
   go_wp2_with fail
   refine bodyPost_ret (results_tmp rfl _ _ _) rfl ?_
   exact ⟨by rw [HF.out]; rfl, HE2.out⟩
theorem chkJn_long {j : Jn} (h : ¬ j.m.length ≤ 16) : chkJn j = 200 := by unfold chkJn rightJn; rw [decide_eq_false h]; rfl
theorem chkJn_point {j : Jn} (h : rightPo j.p = false) : chkJn j = 200 := by unfold chkJn rightJn; rw [h]; cases decide (j.m.length ≤ 16) <;> rfl
theorem chkJn_mark {j : Jn} (i : Nat) (hi : i < j.m.length) (h : rightPo (j.m.getD i po0) = false) : chkJn j = 200 := by
 have : j.m.all rightPo = false := by
  cases ha : j.m.all rightPo with
  | false => rfl
  | true =>
   have := List.all_eq_true.1 ha (j.m.getD i po0) (by rw [List.getD_eq_getElem?_getD, List.getElem?_eq_getElem hi]; exact List.getElem_mem hi)
   rw [h] at this
   cases this
 unfold chkJn rightJn
 rw [this, Bool.and_false, Bool.and_false]
 rfl
theorem chkJn_all {j : Jn} (h : j.m.length ≤ 16) (hp : rightPo j.p = true) (ha : ∀ i, i < j.m.length → rightPo (j.m.getD i po0) = true) : chkJn j = 0 := by
 have : j.m.all rightPo = true := List.all_eq_true.2 fun p hm => by
  obtain ⟨i, hi, e⟩ := List.getElem_of_mem hm
  have := ha i hi
  rwa [List.getD_eq_getElem?_getD, List.getElem?_eq_getElem hi, Option.getD_some, e] at this
 unfold chkJn rightJn
 rw [decide_eq_true h, hp, this]
 rfl
theorem szJ_at {j : Jn} (h : SzJ j) (i : Nat) (hi : i < j.m.length) : SzW (j.m.getD i po0).w := h.2 _ (by rw [List.getD_eq_getElem?_getD, List.getElem?_eq_getElem hi]; exact List.getElem_mem hi)
set_option maxRecDepth 100000 in
set_option maxHeartbeats 4000000 in
theorem checkJ_any (u v z a s q m : Value) (j : Jn) (w : World) (ho : WoR w u v z j.p.w) (hx : AxR w a s q j.p.x) (hm : Pos w m j.m) (hs : SzJ j) : Calls Tryz.prog 12 #[.agg #[u, v, z, a, s, q, m]] w fun e w' => e = .returned (.int .i64 (chkJn j)) ∧ Ext w w' := by
 have HO := Lib.hid ho
 have HX := Lib.hid hx
 have HM := Lib.hid hm
 have HS := Lib.hid hs
 obtain ⟨A1, c1, rfl, h1, h2⟩ := hm.len
 unfold maxLen at h2
 obtain ⟨w0, hw0⟩ : ∃ w0, w.alloc (.cells #[u, v, z, a, s, q, .slice A1 j.m.length c1] 40) = w0 := ⟨_, rfl⟩
 have HW0 := Lib.hid hw0
 have HC : Hid (Cs w0 w.heap.size 40 #[u, v, z, a, s, q, .slice A1 j.m.length c1]) := Lib.hid (by rw [← hw0]; exact Cs.new _ _ _ _ rfl)
 have HE : Hid (Ext w w0) := Lib.hid (by rw [← hw0]; exact (Ext.refl w).alloc _)
 clear ho hs hx hm hw0
 have R1 := Lib.hid (show w0.rangeAt w.heap.size 0 [u, v, z] from rg_part (ds := [u, v, z]) 0 (Cs.rg HC.out) (fun j x hx => by match j with | 0 => exact hx | 1 => exact hx | 2 => exact hx))
 have R2 := Lib.hid (show w0.rangeAt w.heap.size 3 [a, s, q] from rg_part (ds := [a, s, q]) 3 (Cs.rg HC.out) (fun j x hx => by match j with | 0 => exact hx | 1 => exact hx | 2 => exact hx))
 have c6 := HC.out.cell 6 _ rfl
 go_enter Tryz.func12, Tryz.ntmps12
 go_upto_region 1 with fail
 rw [HW0.out]
 clear HW0
 by_cases hl : j.m.length ≤ 16
 case neg =>
  have d1 : decide (16 < j.m.length) = true := decide_eq_true (by omega)
  have d2 : decide ((16 : Int) < (j.m.length : Int)) = true := decide_eq_true (by omega)
  have HF := Lib.hid (chkJn_long hl)
  clear hl
  go_wp2_with fail
  refine bodyPost_ret (results_tmp rfl _ _ _) rfl ?_
  exact ⟨by rw [HF.out]; rfl, HE.out⟩
 have d1 : decide (16 < j.m.length) = false := decide_eq_false (by omega)
 have d2 : decide ((16 : Int) < (j.m.length : Int)) = false := decide_eq_false (by omega)
 go_wp2_with (first
  | ((with_reducible refine wpList_loadWo ?_ (.tmp 11) ?_ w.heap.size 0 u v z ?_ ?_ ?_); (exact rfl); (exact rfl); (exact rfl); (exact R1.out))
  | ((with_reducible refine wpList_loadXk ?_ (.tmp 14) ?_ w.heap.size 3 a s q ?_ ?_ ?_); (exact rfl); (exact rfl); (exact rfl); (exact R2.out)))
 refine (mayBeJ_any u v z a s q j.p _ (HO.out.ext HE.out) (HX.out.ext HE.out) HS.out.1).mono ?_
 rintro e w1 ⟨rfl, he⟩
 have HE1 := Lib.hid (HE.out.trans he)
 have c6 := (Cs.ext HC.out he).cell 6 _ rfl
 have HL := Lib.hid hl
 clear he R1 R2 HC HE hl
 cases hr : rightPo j.p with
 | false =>
  have HF := Lib.hid (chkJn_point hr)
  clear hr
  go_wp2_with fail
  refine bodyPost_ret (results_tmp rfl _ _ _) rfl ?_
  exact ⟨by rw [HF.out]; rfl, HE1.out⟩
 | true =>
  have HR := Lib.hid hr
  clear hr
  go_wp2_with fail
  clear d1 d2 c6
  go_loopw [22] (fun iv wr => ∃ k : Nat, k ≤ j.m.length ∧ iv = .int .i64 k ∧ Hid ((∀ i, i < k → rightPo (j.m.getD i po0) = true) ∧ Ext w wr)) (fun iv _ => j.m.length - (intOf iv).toNat)
  case atStart => exact ⟨0, by omega, rfl, Lib.hid ⟨fun i hi => absurd hi (by omega), HE1.out⟩⟩
  case round =>
   obtain ⟨k, hk, rfl, HJ⟩ := hrel
   clear HE1
   by_cases hlt : k < j.m.length
   ·have hd : decide (k < j.m.length) = true := decide_eq_true hlt
    have hd2 : decide ((k : Int) < (j.m.length : Int)) = true := decide_eq_true (by omega)
    obtain ⟨bb, oo, u', v', z', a', s', q', rfl, hrg, hw, hx⟩ := (HM.out.ext HJ.out.2).at k hlt
    have HRG := Lib.hid hrg
    have HWO := Lib.hid hw
    have HAX := Lib.hid hx
    have HSK := Lib.hid (szJ_at HS.out k hlt)
    have HNO := Lib.hid (fun h => chkJn_mark k hlt h)
    have HON := Lib.hid (show (#[u', v', z', a', s', q'] : Array Value).all (·.oneCell') = true by
     obtain ⟨y1, y2, y3⟩ := axr_one hx
     simp [acs_one hw.1, hds_one hw.2.1, nns_one hw.2.2, y1, y2, y3])
    clear hrg hw hx
    generalize hpp : j.m.getD k po0 = p at *
    have HPP := Lib.hid hpp
    clear hpp
    go_upto_region 6 with (first
     | ((with_reducible refine wpList_loadPo ?_ (.tmp 24) ?_ bb (oo + k * 6) u' v' z' a' s' q' ?_ ?_ ?_); (exact rfl); (exact rfl); (exact rfl); (exact HRG.out))
     | ((with_reducible refine wpList_storePo ?_ ?_ (.tmp 4) (.tmp 25) ?_ wr.heap.size (.slice none 0 0) (.slice none 0 0) (.slice none 0 0) (.slice none 0 0) (.slice none 0 0) (.slice none 0 0) u' v' z' a' s' q' ?_ ?_ ?_ ?_ ?_); (exact rfl); (exact rfl); (exact rfl); (exact rfl); (exact rfl); (exact HON.out); (exact Cs.new _ _ _ _ rfl); intro w3 k3 g3; have K3 := Lib.hid k3; have E3 := Lib.hid (((Ext.refl wr).alloc (.cells #[.slice none 0 0, .slice none 0 0, .slice none 0 0, .slice none 0 0, .slice none 0 0, .slice none 0 0] 37)).grown g3 (Nat.le_refl _)); clear k3 g3))
    have R1 := Lib.hid (show w3.rangeAt wr.heap.size 0 [u', v', z'] from rg_part (ds := [u', v', z']) 0 (Cs.rg K3.out) (fun j x hx => by match j with | 0 => exact hx | 1 => exact hx | 2 => exact hx))
    have R2 := Lib.hid (show w3.rangeAt wr.heap.size 3 [a', s', q'] from rg_part (ds := [a', s', q']) 3 (Cs.rg K3.out) (fun j x hx => by match j with | 0 => exact hx | 1 => exact hx | 2 => exact hx))
    go_wp2_with (first
     | ((with_reducible refine wpList_loadWo ?_ (.tmp 26) ?_ wr.heap.size 0 u' v' z' ?_ ?_ ?_); (exact rfl); (exact rfl); (exact rfl); (exact R1.out))
     | ((with_reducible refine wpList_loadXk ?_ (.tmp 28) ?_ wr.heap.size 3 a' s' q' ?_ ?_ ?_); (exact rfl); (exact rfl); (exact rfl); (exact R2.out)))
    refine (mayBeJ_any u' v' z' a' s' q' p _ (HWO.out.ext E3.out) (HAX.out.ext E3.out) HSK.out).mono ?_
    rintro e w4 ⟨rfl, he⟩
    have HE4 := Lib.hid (HJ.out.2.trans (E3.out.trans he))
    have HJA := Lib.hid HJ.out.1
    clear he R1 R2 K3 E3 HJ
    cases hr : rightPo p with
    | false =>
     have HF := Lib.hid (HNO.out hr)
     clear hr
     go_wp2_with fail
     refine bodyPost_ret (results_tmp rfl _ _ _) rfl ?_
     exact ⟨by rw [HF.out]; rfl, HE4.out⟩
    | true =>
     have HT := Lib.hid hr
     clear hr
     go_wp2_with fail
     refine ⟨⟨k + 1, by omega, by go_num, Lib.hid ⟨fun i hi => ?_, HE4.out⟩⟩, by simp [intOf]; omega⟩
     by_cases hik : i = k
     ·subst hik; rw [HPP.out]; exact HT.out
     ·exact HJA.out i (by omega)
   ·obtain rfl : k = j.m.length := by omega
    have hd : decide (j.m.length < j.m.length) = false := decide_eq_false (by omega)
    have hd2 : decide ((j.m.length : Int) < (j.m.length : Int)) = false := decide_eq_false (by omega)
    have HF := Lib.hid (chkJn_all HL.out HR.out HJ.out.1)
    have HE5 := Lib.hid HJ.out.2
    clear HJ
    go_wp2_with fail
    refine bodyPost_ret (results_tmp rfl _ _ _) rfl ?_
    exact ⟨by rw [HF.out]; rfl, HE5.out⟩
end Go.Proofs.YtnjpdchmdimaaaaGreat
namespace Go.Proofs.YtnjpdchmdimaaaaGreat
open Go.ChangeShapes Go.WideShapes Go.ChangeAt Go.RowKit Go.Shelf

def jchg (j : Jn) (er : Int) (y : Jn) : Jn × Int := if rightJn j then (if er = 0 then (y, 0) else (jn0, er)) else (jn0, 200)
theorem RetJn.nil (lo : Nat) (W : World) : RetJn lo W (.agg #[.slice none 0 0, .slice none 0 0, .slice none 0 0, .slice none 0 0, .slice none 0 0, .slice none 0 0, .slice none 0 0]) jn0 :=
 ⟨_, _, _, _, _, _, _, rfl, ⟨_, _, _, rfl, RowO.nil _ _ _ _ _ _, OwnH.nil _ _, OwnN.nil _ _⟩, ⟨_, _, _, rfl, OwnA.nil _ _, OwnS.nil _ _, OwnP.nil _ _⟩, RowO.nil _ _ _ _ _ _⟩
set_option maxRecDepth 100000 in
theorem results_jnt {fn : Func} {x q : Tmp} (h : fn.results = #[.cell x 40, .tmp q]) (tmps : Array Value) (w : World) (g : Nat) (a b c d e f m : Value) (hp : tmps.getD x undef = .pointer (some ⟨g, 0, none⟩)) (hg : Cs w g 40 #[a, b, c, d, e, f, m]) : (results fn tmps).run Tryz.prog w = .ok (.tuple #[.agg #[a, b, c, d, e, f, m], tmps.getD q undef]) w := by
 have hp' : tmps[x]?.getD undef = .pointer (some ⟨g, 0, none⟩) := by simpa using hp
 simp [results, h, hp', asAddr, run_loadVar_row w g 40 40 #[a, b, c, d, e, f, m] (0, 0) _ hg Tryz.underlying40 rfl infoJn]
theorem one7 : (#[.slice none 0 0, .slice none 0 0, .slice none 0 0, .slice none 0 0, .slice none 0 0, .slice none 0 0, .slice none 0 0] : Array Value).all (·.oneCell') = true := by
 simp only [List.all_toArray, List.all_cons, List.all_nil, Bool.and_true]
 rfl
theorem retJn_shp {lo : Nat} {W : World} {v : Value} {j : Jn} (h : RetJn lo W v j) : ∃ a b c d e f m, v = .agg #[a, b, c, d, e, f, m] ∧ RetJn lo W (.agg #[a, b, c, d, e, f, m]) j := by
 obtain ⟨a, b, c, d, e, f, m, q, h⟩ := h
 exact ⟨a, b, c, d, e, f, m, q, _, _, _, _, _, _, _, rfl, h⟩
set_option maxRecDepth 100000 in
set_option maxHeartbeats 8000000 in
theorem jchanged_any (xu xv xz xa xs xq xm : Value) (j : Jn) (F : FuncId) (cap : Array Value) (er : Int) (y : Jn) (w : World) (hx : WoR w xu xv xz j.p.w ∧ AxR w xa xs xq j.p.x ∧ Pos w xm j.m) (hz : SzJ j) (hy : rightJn j = true → er = 0 → SzJn y)
  (hF : ∀ (args : Array Value) (u : World), (callFunc F args).run Tryz.prog u = .ok (.enter F args) u)
  (hC : rightJn j = true → ∀ W g, Ext w W → w.heap.size ≤ g → Cs W g 40 #[xu, xv, xz, xa, xs, xq, xm] → Calls Tryz.prog F (#[.pointer (some ⟨g, 0, none⟩)] ++ cap) W fun e w' => e = .returned (.int .i64 er) ∧ Below g W w' ∧ (er = 0 → ∃ cs, Cs w' g 40 cs ∧ JnR w' cs y)) :
  Calls Tryz.prog 53 #[.agg #[xu, xv, xz, xa, xs, xq, xm], .func (.func F) #[] cap] w fun e w' => ∃ v', e = .returned (.tuple #[v', .int .i64 (jchg j er y).2]) ∧ RetJn w.heap.size w' v' (jchg j er y).1 ∧ Ext w w' := by
 have HX := Lib.hid hx
 have HZ := Lib.hid hz
 have HY := Lib.hid hy
 have HC := Lib.hid hC
 have HFF := Lib.hid hF
 have HDEF : Hid (jchg j er y = if rightJn j then (if er = 0 then (y, 0) else (jn0, er)) else (jn0, 200)) := Lib.hid rfl
 have HON : Hid ((#[xu, xv, xz, xa, xs, xq, xm] : Array Value).all (·.oneCell') = true) := Lib.hid (by
  obtain ⟨y1, y2, y3⟩ := axr_one hx.2.1
  have y4 := acs_one hx.1.1
  have y5 := hds_one hx.1.2.1
  have y6 := nns_one hx.1.2.2
  have y7 := pos_one hx.2.2
  simp [y1, y2, y3, y4, y5, y6, y7])
 obtain ⟨w0, hw0⟩ : ∃ w0, (w.alloc (.cells #[xu, xv, xz, xa, xs, xq, xm] 40)).alloc (.cells #[.slice none 0 0, .slice none 0 0, .slice none 0 0, .slice none 0 0, .slice none 0 0, .slice none 0 0, .slice none 0 0] 40) = w0 := ⟨_, rfl⟩
 have HC0 : Hid (Cs w0 w.heap.size 40 #[xu, xv, xz, xa, xs, xq, xm]) := Lib.hid (by rw [← hw0]; exact Cs.alloc (Cs.new _ _ _ _ rfl) _)
 have HR0 : Hid (Cs w0 (w.heap.size + 1) 40 #[.slice none 0 0, .slice none 0 0, .slice none 0 0, .slice none 0 0, .slice none 0 0, .slice none 0 0, .slice none 0 0]) := Lib.hid (by rw [← hw0]; exact Cs.new _ _ _ _ (by simp))
 have HE0 : Hid (Ext w w0) := Lib.hid (by rw [← hw0]; exact ((Ext.refl w).alloc _).alloc _)
 have HG0 := Lib.hid HR0.out.lt
 have HW0 := Lib.hid hw0
 have HO1 := HON.out
 clear hx hw0 hz hC hF hy
 go_enter Tryz.func53, Tryz.ntmps53
 go_upto_region 1 with fail
 rw [HW0.out]
 clear HW0 HO1
 have HRG := Lib.hid (Cs.rg HC0.out)
 go_wp2_with ((with_reducible refine wpList_loadJn ?_ (.tmp 2) ?_ w.heap.size 0 xu xv xz xa xs xq xm ?_ HRG.out ?_); (exact rfl); (exact rfl); (exact rfl))
 refine (checkJ_any _ _ _ _ _ _ _ j _ (HX.out.1.ext HE0.out) (HX.out.2.1.ext HE0.out) (HX.out.2.2.ext HE0.out) HZ.out).mono ?_
 rintro e w1 ⟨rfl, he⟩
 have HE1 := Lib.hid (HE0.out.trans he)
 have HC1 := Lib.hid (Cs.ext HC0.out he)
 have HR1 := Lib.hid (Cs.ext HR0.out he)
 have HG1 := Lib.hid (Nat.lt_of_lt_of_le HG0.out he.size)
 clear he HC0 HR0 HRG
 cases hr : rightJn j with
 | false =>
  have HK : Hid (chkJn j = 200) := Lib.hid (by unfold chkJn; rw [hr]; rfl)
  have HF := Lib.hid (show jchg j er y = (jn0, 200) by rw [HDEF.out, hr]; rfl)
  clear hr
  rw [HK.out]
  go_wp2_with ((with_reducible refine wpList_storeJn ?_ ?_ (.tmp 4) (.tmp 11) ?_ (w.heap.size + 1) (.slice none 0 0) (.slice none 0 0) (.slice none 0 0) (.slice none 0 0) (.slice none 0 0) (.slice none 0 0) (.slice none 0 0) (.slice none 0 0) (.slice none 0 0) (.slice none 0 0) (.slice none 0 0) (.slice none 0 0) (.slice none 0 0) (.slice none 0 0) ?_ ?_ one7 HR1.out ?_); (exact rfl); (exact rfl); (exact rfl); (exact rfl); (exact rfl); intro w2 k2 g2; have K2 := Lib.hid k2; have G2 := Lib.hid g2; clear k2 g2)
  refine bodyPost_ret (results_jnt Tryz.results53 _ _ (w.heap.size + 1) _ _ _ _ _ _ _ rfl K2.out) rfl ?_
  rw [HF.out]
  exact ⟨_, rfl, RetJn.nil _ _, HE1.out.grown G2.out (by omega)⟩
 | true =>
  have HK : Hid (chkJn j = 0) := Lib.hid (by unfold chkJn; rw [hr]; rfl)
  have HDEF := Lib.hid (show jchg j er y = if er = 0 then (y, 0) else (jn0, er) by rw [HDEF.out, hr]; rfl)
  have HC := Lib.hid (HC.out hr)
  have HY := Lib.hid (HY.out hr)
  clear hr
  rw [HK.out]
  clear HK
  have HRG := Lib.hid (Cs.rg HC1.out)
  go_wp2_with (first
   | ((with_reducible refine wpList_loadJn ?_ (.tmp 2) ?_ w.heap.size 0 xu xv xz xa xs xq xm ?_ HRG.out ?_); (exact rfl); (exact rfl); (exact rfl))
   | ((with_reducible refine wpList_storeJn ?_ ?_ (.tmp 6) (.tmp 12) ?_ w1.heap.size (.slice none 0 0) (.slice none 0 0) (.slice none 0 0) (.slice none 0 0) (.slice none 0 0) (.slice none 0 0) (.slice none 0 0) xu xv xz xa xs xq xm ?_ ?_ HON.out ?_ ?_); (exact rfl); (exact rfl); (exact rfl); (exact rfl); (exact rfl); (exact (Cs.new _ _ _ _ rfl)); intro w2 k2 g2; have K2 := Lib.hid k2; have G2 := Lib.hid g2; clear k2 g2))
  have HX2 := Lib.hid (((Ext.refl w1).alloc (.cells #[.slice none 0 0, .slice none 0 0, .slice none 0 0, .slice none 0 0, .slice none 0 0, .slice none 0 0, .slice none 0 0] 40)).grown G2.out (Nat.le_refl _))
  have HE2 := Lib.hid (HE1.out.trans HX2.out)
  have HR2 := Lib.hid (Cs.ext HR1.out HX2.out)
  rw [HFF.out, Oper.upon_enter]
  refine (HC.out _ w1.heap.size HE2.out HE1.out.size K2.out).mono ?_
  rintro e w3 ⟨rfl, hb, hj⟩
  have HR3 : Hid (Cs w3 (w.heap.size + 1) 40 #[.slice none 0 0, .slice none 0 0, .slice none 0 0, .slice none 0 0, .slice none 0 0, .slice none 0 0, .slice none 0 0]) := Lib.hid ((Below.block hb _ HG1.out).trans HR2.out)
  have HE3 := Lib.hid (HE2.out.below hb HE1.out.size)
  have HJ := Lib.hid hj
  clear hb hj HR1 HR2 HX2 G2 K2 HC1 HRG
  by_cases h0 : er = 0
  ·have f0 : (er == 0) = true := by rw [beq_iff_eq]; exact h0
   have f1 : (er != 0) = false := by rw [bne, f0]; rfl
   have HF := Lib.hid (show jchg j er y = (y, 0) by rw [HDEF.out, if_pos h0])
   obtain ⟨cs, hcs, a, b, c, d, e, f, m, rfl, ho, hx, hm⟩ := HJ.out h0
   have HCS := Lib.hid (Cs.rg hcs)
   have HA := Lib.hid (And.intro ho (And.intro hx hm))
   have HY := Lib.hid (HY.out h0)
   clear h0 hcs ho hx hm HJ
   go_wp2_with ((with_reducible refine wpList_loadJn ?_ (.tmp 6) ?_ w1.heap.size 0 a b c d e f m ?_ HCS.out ?_); (exact rfl); (exact rfl); (exact rfl))
   refine (ownJn_any _ _ _ _ _ _ _ y _ HA.out HY.out).mono ?_
   rintro e4 w4 ⟨v4, rfl, ho, he⟩
   obtain ⟨a1, b1, c1, d1, e1, f1', m1, rfl, ho⟩ := retJn_shp ho
   have HO4 := Lib.hid ho
   have HE4 := Lib.hid (HE3.out.trans he)
   have HR4 := Lib.hid (Cs.ext HR3.out he)
   have HL4 := Lib.hid (show w.heap.size + 1 < w3.heap.size from HR3.out.lt)
   clear ho he HR3
   go_wp2_with ((with_reducible refine wpList_storeJn ?_ ?_ (.tmp 4) (.tmp 20) ?_ (w.heap.size + 1) (.slice none 0 0) (.slice none 0 0) (.slice none 0 0) (.slice none 0 0) (.slice none 0 0) (.slice none 0 0) (.slice none 0 0) a1 b1 c1 d1 e1 f1' m1 ?_ ?_ HO4.out.one HR4.out ?_); (exact rfl); (exact rfl); (exact rfl); (exact rfl); (exact rfl); intro w5 k5 g5; have K5 := Lib.hid k5; have G5 := Lib.hid g5; clear k5 g5)
   refine bodyPost_ret (results_jnt Tryz.results53 _ _ (w.heap.size + 1) _ _ _ _ _ _ _ rfl K5.out) rfl ?_
   rw [HF.out]
   exact ⟨_, rfl, (HO4.out.old G5.out HL4.out).low HE3.out.size, HE4.out.grown G5.out (by omega)⟩
  ·have f0 : (er == 0) = false := by rw [beq_eq_false_iff_ne]; exact h0
   have f1 : (er != 0) = true := by rw [bne, f0]; rfl
   have HF := Lib.hid (show jchg j er y = (jn0, er) by rw [HDEF.out, if_neg h0])
   clear h0
   go_wp2_with ((with_reducible refine wpList_storeJn ?_ ?_ (.tmp 4) (.tmp 17) ?_ (w.heap.size + 1) (.slice none 0 0) (.slice none 0 0) (.slice none 0 0) (.slice none 0 0) (.slice none 0 0) (.slice none 0 0) (.slice none 0 0) (.slice none 0 0) (.slice none 0 0) (.slice none 0 0) (.slice none 0 0) (.slice none 0 0) (.slice none 0 0) (.slice none 0 0) ?_ ?_ one7 HR3.out ?_); (exact rfl); (exact rfl); (exact rfl); (exact rfl); (exact rfl); intro w4 k4 g4; have K4 := Lib.hid k4; have G4 := Lib.hid g4; clear k4 g4)
   refine bodyPost_ret (results_jnt Tryz.results53 _ _ (w.heap.size + 1) _ _ _ _ _ _ _ rfl K4.out) rfl ?_
   rw [HF.out]
   exact ⟨_, rfl, RetJn.nil _ _, HE3.out.grown G4.out (by omega)⟩
end Go.Proofs.YtnjpdchmdimaaaaGreat
