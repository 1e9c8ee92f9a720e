/- Package journal: the laws' world, walked. -/
import Derived.Test.YtnjpdchmdimaaaaGreatQJnw
namespace Go.Proofs.YtnjpdchmdimaaaaGreat
open Go.ChangeShapes Go.WideShapes Go.ChangeAt Go.RowKit Go.Shelf

set_option maxRecDepth 100000 in
theorem infoLB9 : (Tryz.prog.info? 76).map (·.size) = some 1 := by kernel_rfl
set_option maxRecDepth 100000 in
theorem infoLK9 : (Tryz.prog.info? 77).map (·.size) = some 1 := by kernel_rfl
set_option maxRecDepth 100000 in
set_option maxHeartbeats 8000000 in
theorem worldO_any (va vs vp : Value) (o : Wo) (w : World) (hx : WoR w va vs vp o) :
  Calls Tryz.prog 21 #[.agg #[va, vs, vp]] w fun e w' => ∃ v', e = .returned v' ∧ RetWo w.heap.size w' v' (cutO o) ∧ Ext w w' := by
 obtain ⟨A1, c1, rfl, q1, q2⟩ := hx.1.len
 obtain ⟨A2, c2, rfl, q3, q4⟩ := hx.2.1.len
 obtain ⟨A3, c3, rfl, q5, q6⟩ := hx.2.2.len
 have HX1 := Lib.hid (show Acs w (.slice A1 (o.s.take 45).length c1) (o.s.take 45) from Sl.cutJ hx.1 45)
 have HX2 := Lib.hid (show Hds w (.slice A2 (o.g.take 40).length c2) (o.g.take 40) from Sl.cutJ hx.2.1 40)
 have HX3 := Lib.hid (show Nns w (.slice A3 (o.n.take 70).length c3) (o.n.take 70) from Sl.cutJ hx.2.2 70)
 have HM1 := Lib.hid (show min (o.s.length : Int) 45 = ((o.s.take 45).length : Int) ∧ (o.s.take 45).length ≤ c1 from ⟨cut_min _ 45, by rw [List.length_take]; omega⟩)
 have HM2 := Lib.hid (show min (o.g.length : Int) 40 = ((o.g.take 40).length : Int) ∧ (o.g.take 40).length ≤ c2 from ⟨cut_min _ 40, by rw [List.length_take]; omega⟩)
 have HM3 := Lib.hid (show min (o.n.length : Int) 70 = ((o.n.take 70).length : Int) ∧ (o.n.take 70).length ≤ c3 from ⟨cut_min _ 70, by rw [List.length_take]; omega⟩)
 have HL1 := Lib.hid (show (o.s.take 45).length ≤ 100000 by rw [List.length_take]; omega)
 have HL2 := Lib.hid (show (o.g.take 40).length ≤ 100000 by rw [List.length_take]; omega)
 have HL3 := Lib.hid (show (o.n.take 70).length ≤ 100000 by rw [List.length_take]; omega)
 have HCU : Hid (cutO o = ⟨(o.s.take 45).map cutA, o.g.take 40, o.n.take 70⟩) := Lib.hid rfl
 generalize o.s.take 45 = ls at *
 generalize o.g.take 40 = lg at *
 generalize o.n.take 70 = ln at *
 obtain ⟨w0, hw0⟩ : ∃ w0, (w.alloc (.cells #[.slice A1 o.s.length c1, .slice A2 o.g.length c2, .slice A3 o.n.length c3] 30)).alloc (.cells #[.slice none 0 0, .slice none 0 0, .slice none 0 0] 30) = w0 := ⟨_, rfl⟩
 have HC0 : Hid (Cs w0 w.heap.size 30 #[.slice A1 o.s.length c1, .slice A2 o.g.length c2, .slice A3 o.n.length c3]) := Lib.hid (by rw [← hw0]; exact Cs.alloc (Cs.new _ _ _ _ rfl) _)
 have HR0 : Hid (Cs w0 (w.heap.size + 1) 30 #[.slice none 0 0, .slice none 0 0, .slice none 0 0]) := Lib.hid (by rw [← hw0]; exact Cs.new _ _ _ _ (by simp))
 have HE0 : Hid (Ext w w0) := Lib.hid (by rw [← hw0]; exact ((Ext.refl w).alloc _).alloc _)
 have HG2 : Hid (w.heap.size < w0.heap.size ∧ w.heap.size + 1 < w0.heap.size) := Lib.hid ⟨HC0.out.lt, HR0.out.lt⟩
 have HW0 := Lib.hid hw0
 obtain ⟨css0, kl, ks, kr, kd⟩ := Sl.css (by decide) HX1.out
 have HKR := Lib.hid kr
 have HK3 := Lib.hid (And.intro kl (And.intro ks kd))
 have HKO := Lib.hid (show ∀ u ∈ css0.flatten, u.oneCell' = true from fun u hu => by
  obtain ⟨cs, hc, hu⟩ := List.mem_flatten.1 hu
  obtain ⟨i, hi, e⟩ := List.getElem_of_mem hc
  exact acR_one (kd i cs _ (by rw [← e]; exact List.getElem?_eq_getElem hi) (List.getElem?_eq_getElem (by omega))) u hu)
 clear hx hw0 q1 q2 q3 q4 q5 q6 kl ks kr kd
 go_enter Tryz.func21, Tryz.ntmps21
 go_upto_region 1 with fail
 rw [HW0.out]
 clear HW0
 have hc := HC0.out.cell 0 _ rfl
 have hm := HM1.out.1
 have hm2 := HM1.out.2
 go_wp2_with fail
 clear hc hm hm2
 refine (jcloneAc_any _ ls.length css0.flatten _ (HKR.out.ext HE0.out) HKO.out HL1.out).mono ?_
 rintro e w1 ⟨v1, rfl, ho, he⟩
 obtain ⟨_, B1, d1, rfl, _, _, _⟩ := Rs.of_own ho
 have HO := Lib.hid ho
 have HE1 := Lib.hid he
 clear ho he
 go_upto_region 2 with ((with_reducible refine wpList_store_one ?_ ?_ 22 (.tmp 16) (.tmp 14) ?_ w.heap.size 0 30 #[.slice A1 o.s.length c1, .slice A2 o.g.length c2, .slice A3 o.n.length c3] (.slice B1 ls.length d1) ?_ ?_ ?_ ?_ ?_ ?_ ?_ ?_); (exact rfl); (exact rfl); (exact rfl); (exact rfl); (exact rfl); (exact rfl); (exact (Cs.ext HC0.out HE1.out)); (exact infoLAc); (exact (of_decide_eq_true rfl)); (exact rfl); intro w2 k2 g2; have K2 : Hid (Cs w2 w.heap.size 30 #[.slice B1 ls.length d1, .slice A2 o.g.length c2, .slice A3 o.n.length c3]) := Lib.hid k2; have G2 := Lib.hid g2; clear k2 g2)
 have HO2 := Lib.hid (own_low HO.out G2.out HG2.out.1)
 have HE2 : Hid (Ext w w2) := Lib.hid ((HE0.out.trans HE1.out).grown G2.out (Nat.le_refl _))
 have HR2 := Lib.hid (Cs.kept (Cs.ext HR0.out HE1.out) G2.out (fun e => absurd (Option.some.inj e) (by omega)))
 have HS2 := Lib.hid (show w0.heap.size ≤ w2.heap.size from Nat.le_trans HE1.out.size G2.out.size)
 clear HO G2 HE1 HR0 HC0
 have hc := K2.out.cell 0 _ rfl
 go_upto_region 3 with fail
 clear hc
 rcases Nat.eq_zero_or_pos ls.length with h0 | h0
 ·have HRO : Hid (RowO 79 8 AcR No w0.heap.size w2 (.slice B1 ls.length d1) (ls.map cutA)) := Lib.hid (by
   have e := List.eq_nil_of_length_eq_zero h0
   have e2 : css0 = [] := List.eq_nil_of_length_eq_zero (by rw [HK3.out.1, h0])
   have := HO2.out
   rw [e2, h0] at this
   rw [h0, e]
   exact RowO.of_empty this)
  have hd : decide (0 < ls.length) = false := decide_eq_false (by omega)
  have hd2 : decide ((0 : Int) < (ls.length : Int)) = false := decide_eq_false (by omega)
  clear h0
  go_loopw [21] (fun iv wr => iv = .int .i64 (0 : Nat) ∧ w2 = wr) (fun iv _ => 1 - (intOf iv).toNat)
  case atStart => exact ⟨rfl, rfl⟩
  case round =>
   obtain ⟨rfl, rfl⟩ := hrel
   have hc := K2.out.cell 1 _ rfl
   have hm := HM2.out.1
   have hm2 := HM2.out.2
   go_wp2_with fail
   clear hc hm hm2
   refine (cloneH_any _ lg _ (HX2.out.ext HE2.out) HL2.out).mono ?_
   rintro e w3 ⟨v3, rfl, ho, he⟩
   obtain ⟨B2, d2, rfl, _⟩ := ho.sl
   have HO := Lib.hid ho
   have HE3 := Lib.hid he
   clear ho he
   go_upto_region 9 with ((with_reducible refine wpList_store_one ?_ ?_ 25 (.tmp 71) (.tmp 69) ?_ w.heap.size 1 30 #[.slice B1 ls.length d1, .slice A2 o.g.length c2, .slice A3 o.n.length c3] (.slice B2 lg.length d2) ?_ ?_ ?_ ?_ ?_ ?_ ?_ ?_); (exact rfl); (exact rfl); (exact rfl); (exact rfl); (exact rfl); (exact rfl); (exact (Cs.ext K2.out HE3.out)); (exact infoLHd); (exact (of_decide_eq_true rfl)); (exact rfl); intro w4 k4 g4; have K4 : Hid (Cs w4 w.heap.size 30 #[.slice B1 ls.length d1, .slice B2 lg.length d2, .slice A3 o.n.length c3]) := Lib.hid k4; have G4 := Lib.hid g4; clear k4 g4)
   have HO4 := Lib.hid (rowO_old (HRO.out.ext HE3.out) G4.out HG2.out.1)
   have HH4 : Hid (OwnH w4 w0.heap.size (.slice B2 lg.length d2) lg) := Lib.hid (by have h := HO.out.mono HS2.out; exact ⟨own_low h.1 G4.out HG2.out.1, h.2⟩)
   have HE4 : Hid (Ext w w4) := Lib.hid ((HE2.out.trans HE3.out).grown G4.out (Nat.le_refl _))
   have HR4 := Lib.hid (Cs.kept (Cs.ext HR2.out HE3.out) G4.out (fun e => absurd (Option.some.inj e) (by omega)))
   have HS4 := Lib.hid (show w0.heap.size ≤ w4.heap.size from Nat.le_trans HS2.out (Nat.le_trans HE3.out.size G4.out.size))
   clear HO G4 HE3
   have hc := K4.out.cell 2 _ rfl
   have hm := HM3.out.1
   have hm2 := HM3.out.2
   go_wp2_with fail
   clear hc hm hm2
   refine (cloneN_any _ ln _ (HX3.out.ext HE4.out) HL3.out).mono ?_
   rintro e w5 ⟨v5, rfl, ho, he⟩
   obtain ⟨B3, d3, rfl, _⟩ := ho.sl
   have HO := Lib.hid ho
   have HE5 := Lib.hid he
   clear ho he
   go_upto_region 10 with ((with_reducible refine wpList_store_one ?_ ?_ 28 (.tmp 80) (.tmp 79) ?_ w.heap.size 2 30 #[.slice B1 ls.length d1, .slice B2 lg.length d2, .slice A3 o.n.length c3] (.slice B3 ln.length d3) ?_ ?_ ?_ ?_ ?_ ?_ ?_ ?_); (exact rfl); (exact rfl); (exact rfl); (exact rfl); (exact rfl); (exact rfl); (exact (Cs.ext K4.out HE5.out)); (exact infoLNn); (exact (of_decide_eq_true rfl)); (exact rfl); intro w6 k6 g6; have K6 : Hid (Cs w6 w.heap.size 30 #[.slice B1 ls.length d1, .slice B2 lg.length d2, .slice B3 ln.length d3]) := Lib.hid k6; have G6 := Lib.hid g6; clear k6 g6)
   have HN6 : Hid (OwnN w6 w0.heap.size (.slice B3 ln.length d3) ln) := Lib.hid (by have h := HO.out.mono HS4.out; exact ⟨own_low h.1 G6.out HG2.out.1, h.2⟩)
   have HA6 : Hid (RetWo w0.heap.size w6 (.agg #[.slice B1 ls.length d1, .slice B2 lg.length d2, .slice B3 ln.length d3]) ⟨ls.map cutA, lg, ln⟩) := Lib.hid ⟨_, _, _, rfl, rowO_old (HO4.out.ext HE5.out) G6.out HG2.out.1, (by have h := HH4.out.ext HE5.out; exact ⟨own_low h.1 G6.out HG2.out.1, h.2⟩), HN6.out⟩
   have HE6 : Hid (Ext w w6) := Lib.hid ((HE4.out.trans HE5.out).grown G6.out (Nat.le_refl _))
   have HR6 := Lib.hid (Cs.kept (Cs.ext HR4.out HE5.out) G6.out (fun e => absurd (Option.some.inj e) (by omega)))
   clear HO HO4 HH4 HN6 G6 HE4 HE5 HR4 HS4 K4
   have HRG := Lib.hid (Cs.rg K6.out)
   go_wp2_with (first
    | ((with_reducible refine wpList_loadWo ?_ (.tmp 1) ?_ w.heap.size 0 (.slice B1 ls.length d1) (.slice B2 lg.length d2) (.slice B3 ln.length d3) ?_ HRG.out ?_); (exact rfl); (exact rfl); (exact rfl))
    | ((with_reducible refine wpList_storeWo ?_ ?_ (.tmp 2) (.tmp 81) ?_ (w.heap.size + 1) (.slice none 0 0) (.slice none 0 0) (.slice none 0 0) (.slice B1 ls.length d1) (.slice B2 lg.length d2) (.slice B3 ln.length d3) ?_ ?_ HA6.out.one HR6.out ?_); (exact rfl); (exact rfl); (exact rfl); (exact rfl); (exact rfl); intro w7 k7 g7; have K7 := Lib.hid k7; have G7 := Lib.hid g7; clear k7 g7))
   refine bodyPost_ret (results_woo Tryz.results21 _ _ (w.heap.size + 1) _ _ _ rfl K7.out) rfl ?_
   rw [HCU.out]
   exact ⟨_, rfl, (HA6.out.old G7.out HG2.out.2).low HE0.out.size, HE6.out.grown G7.out (Nat.le_succ _)⟩
 ·obtain ⟨b, cap, cur, hv1, hb1, hb2, hb3, hb4, hb5, hb6⟩ : ∃ g cap cur, Value.slice B1 ls.length d1 = .slice (some ⟨g, 0, none⟩) ls.length cap ∧ w0.heap.size ≤ g ∧ w2.heap[g]? = some (.cells cur 79 (0, 0)) ∧ ls.length ≤ cap ∧ cap ≤ maxLen ∧ cur.size = cap * 8 ∧ cur.toList.take (ls.length * 8) = css0.flatten := by
   rcases HO2.out.2 with ⟨_, h⟩ | h
   ·omega
   ·exact h
  injection hv1 with e1 _ e3
  subst e1 e3
  have HB := Lib.hid hb1
  have HCAP := Lib.hid (And.intro hb3 hb4)
  have hrest : cur = (css0.flatten ++ cur.toList.drop (ls.length * 8)).toArray := by
   rw [← hb6, List.take_append_drop]
  obtain ⟨rest, hre⟩ : ∃ r, cur.toList.drop (ls.length * 8) = r := ⟨_, rfl⟩
  have HRS := Lib.hid (show ls.length * 8 + rest.length = d1 * 8 by have h8 : cur.toList.length = d1 * 8 := (Array.length_toList (xs := cur)).trans hb5; rw [← hre, List.length_drop, h8]; have := Nat.mul_le_mul_right 8 hb3; omega)
  rw [hre] at hrest
  have HJ0 : Hid (EaJ 79 8 AcR w b w0.heap.size css0 rest (ls.map cutA) 0 w2 ∧ Cs w2 w.heap.size 30 #[.slice (some ⟨b, 0, none⟩) ls.length d1, .slice A2 o.g.length c2, .slice A3 o.n.length c3] ∧ Cs w2 (w.heap.size + 1) 30 #[.slice none 0 0, .slice none 0 0, .slice none 0 0]) := Lib.hid ⟨⟨css0, by rw [List.length_map]; exact HK3.out.1, HK3.out.2.1, by rw [← hrest]; exact hb2, fun i cs x hi => absurd hi (by omega), fun i _ => rfl, HE2.out⟩, K2.out, HR2.out⟩
  unfold maxLen at hb4
  have HNE : Hid (w.heap.size ≠ b ∧ (w.heap.size + 1) ≠ b ∧ w.heap.size ≤ b) := Lib.hid (by have := HG2.out; exact ⟨by omega, by omega, by omega⟩)
  clear hb1 hb2 hb5 hb6 hrest hre h0 HO2
  go_loopw [21] (fun iv wr => ∃ k : Nat, k ≤ ls.length ∧ iv = .int .i64 (k : Nat) ∧ Hid (EaJ 79 8 AcR w b w0.heap.size css0 rest (ls.map cutA) k wr ∧ Cs wr w.heap.size 30 #[.slice (some ⟨b, 0, none⟩) ls.length d1, .slice A2 o.g.length c2, .slice A3 o.n.length c3] ∧ Cs wr (w.heap.size + 1) 30 #[.slice none 0 0, .slice none 0 0, .slice none 0 0])) (fun iv _ => ls.length - (intOf iv).toNat)
  case atStart => exact ⟨0, by omega, rfl, HJ0⟩
  case round =>
   obtain ⟨k, hk, rfl, HJK⟩ := hrel
   clear HJ0
   by_cases hlt : k < ls.length
   ·have hd : decide (k < ls.length) = true := decide_eq_true hlt
    have hd2 : decide ((k : Int) < (ls.length : Int)) = true := decide_eq_true (by omega)
    obtain ⟨⟨css, h1, h2, h3, h4, h5, h6⟩, h7, h8⟩ := HJK.out
    have h1' : css.length = ls.length := by rw [h1, List.length_map]
    obtain ⟨cs0, hcs0⟩ : ∃ cs, css[k]? = some cs := ⟨_, List.getElem?_eq_getElem (show k < css.length by omega)⟩
    obtain ⟨hok, u, va, rfl, hu, hv⟩ := HK3.out.2.2 k cs0 _ (by rw [← h5 k (Nat.le_refl _)]; exact hcs0) (ac_getD hlt)
    have hxl : (ls.map cutA)[k]? = some (cutA (ls.getD k acz)) := by rw [List.getElem?_map, ac_getD hlt]; rfl
    generalize ls.getD k acz = x at *
    obtain ⟨Av, cv, rfl, hcv, _⟩ := hv.len
    have hbu := hu
    obtain ⟨Au, cu, rfl, hcu, _, _⟩ := hu
    have HBC : Hid (Bs w (.slice Au (x.code.take 300).length cu) (x.code.take 300)) := Lib.hid (Bs.takeMin hbu 300 _ (by rw [List.length_take]; omega))
    have HBS : Hid (Pks w (.slice Av (x.store.take 40).length cv) (x.store.take 40)) := Lib.hid (Sl.cutJ hv 40)
    have HMC := Lib.hid (show min (x.code.length : Int) 300 = ((x.code.take 300).length : Int) ∧ (x.code.take 300).length ≤ cu from ⟨cut_min _ 300, by rw [List.length_take]; omega⟩)
    have HMS := Lib.hid (show min (x.store.length : Int) 40 = ((x.store.take 40).length : Int) ∧ (x.store.take 40).length ≤ cv from ⟨cut_min _ 40, by rw [List.length_take]; omega⟩)
    have HLC := Lib.hid (show (x.code.take 300).length ≤ 100000 ∧ (x.store.take 40).length ≤ 100000 from ⟨by rw [List.length_take]; omega, by rw [List.length_take]; omega⟩)
    have HXC : Hid ((cutA x).code = x.code.take 300 ∧ (cutA x).store = x.store.take 40) := Lib.hid ⟨rfl, rfl⟩
    generalize x.code.take 300 = xc at *
    generalize x.store.take 40 = xs at *
    have HCL := Lib.hid (And.intro h2 (show k < css.length by omega))
    have HRX := Lib.hid (fun (W : World) (u v : Value) (h : Cs W b 79 (wcc css k rest x u v)) => ea_range (s := 8) (css := css.set k (acc x u v).toList) (rest := rest) h (wcc_len h2) (wcc_at (show k < css.length by omega)))
    have HWS := Lib.hid (fun (u v : Value) => wcc_size (k := k) (rest := rest) (x := x) (u := u) (v := v) h2 (show k < css.length by omega))
    have HJ : Hid (WdS w b w.heap.size (w.heap.size + 1) w0.heap.size k #[.slice (some ⟨b, 0, none⟩) ls.length d1, .slice A2 o.g.length c2, .slice A3 o.n.length c3] css (ls.map cutA) (wcc css k rest x (.slice Au x.code.length cu) (.slice Av x.store.length cv)) wr) := Lib.hid ⟨by rw [wcc_same hcs0]; exact h3, h4, h7, h8, h6⟩
    have HNX := Lib.hid (fun (W : World) (u v : Value) (h : WdM w b w.heap.size (w.heap.size + 1) w0.heap.size k #[.slice (some ⟨b, 0, none⟩) ls.length d1, .slice A2 o.g.length c2, .slice A3 o.n.length c3] css (ls.map cutA) (wcc css k rest x u v) u v (cutA x).code (cutA x).store W) => h.next h1 h2 h5 (by rw [List.length_map]; exact hlt) hxl hok (Nat.le_succ_of_le HB.out))
    have hc := h7.cell 0 _ rfl
    clear h1 h2 h3 h4 h5 h6 h7 h8 hcs0 hok hv hxl hbu HJK hcu hcv h1'
    go_upto_region 6 with fail
    clear hc
    refine wp_named fun a0 ha0 => ?_
    obtain ⟨fr, hfr⟩ : ∃ fr : (Nat → Value) → Act, ∀ V, fr V = ((((((((((((((((((((((((((((((a0.put (some 29) (V 0)).put (some 30) (V 1)).put (some 31) (V 2)).put (some 32) (V 3)).put (some 33) (V 4)).put (some 34) (V 5)).put (some 35) (V 6)).put (some 36) (V 7)).put (some 37) (V 8)).put (some 38) (V 9)).put (some 39) (V 10)).put (some 40) (V 11)).put (some 41) (V 12)).put (some 42) (V 13)).put (some 43) (V 14)).put (some 44) (V 15)).put (some 45) (V 16)).put (some 46) (V 17)).put (some 47) (V 18)).put (some 48) (V 19)).put (some 49) (V 20)).put (some 50) (V 21)).put (some 51) (V 22)).put (some 52) (V 23)).put (some 53) (V 24)).put (some 54) (V 25)).put (some 55) (V 26)).put (some 56) (V 27)).put (some 57) (V 29)).put (some 58) (V 30)) := ⟨_, fun _ => rfl⟩
    rw [ha0] at hfr
    simp only [Act.put, List.setIfInBounds_toArray, List.set_cons_zero, List.set_cons_succ] at hfr
    have HFR := Lib.hid hfr
    clear hfr
    refine wp_region_inv (by kernel_rfl) (by kernel_rfl) (fun L A W => ∃ V : Nat → Value, A = fr V ∧ Vals (fun j => ([some (.pointer (some ⟨b, k * 8, none⟩)), some (.pointer (some ⟨b, k * 8, none⟩)), some (.pointer (some ⟨b, k * 8, none⟩)), some (.pointer (some ⟨b, k * 8, none⟩)), some (.pointer (some ⟨b, k * 8 + 6, none⟩)), some (.slice Au x.code.length cu), some (.pointer (some ⟨b, k * 8, none⟩)), some (.pointer (some ⟨b, k * 8, none⟩)), some (.pointer (some ⟨b, k * 8 + 6, none⟩)), some (.slice Au x.code.length cu), some (.int .i64 (x.code.length : Nat)), some (.int .i64 (xc.length : Nat)), some (.slice Au xc.length cu), none, some (.pointer (some ⟨b, k * 8, none⟩)), some (.pointer (some ⟨b, k * 8, none⟩)), some (.pointer (some ⟨b, k * 8 + 7, none⟩)), some (.slice Av x.store.length cv), some (.pointer (some ⟨b, k * 8, none⟩)), some (.pointer (some ⟨b, k * 8, none⟩)), some (.pointer (some ⟨b, k * 8 + 7, none⟩)), some (.slice Av x.store.length cv), some (.int .i64 (x.store.length : Nat)), some (.int .i64 (xs.length : Nat)), some (.slice Av xs.length cv), none, some (.pointer (some ⟨b, k * 8, none⟩)), some (.pointer (some ⟨b, k * 8 + 6, none⟩)), none, some (.pointer (some ⟨b, k * 8, none⟩)), some (.pointer (some ⟨b, k * 8 + 7, none⟩)), none] : List (Option Value)).getD j none) L V ∧ (L 28 = false → WdS w b w.heap.size (w.heap.size + 1) w0.heap.size k #[.slice (some ⟨b, 0, none⟩) ls.length d1, .slice A2 o.g.length c2, .slice A3 o.n.length c3] css (ls.map cutA) (wcc css k rest x (.slice Au x.code.length cu) (.slice Av x.store.length cv)) W) ∧ (L 28 = true → L 31 = false → WdM w b w.heap.size (w.heap.size + 1) w0.heap.size k #[.slice (some ⟨b, 0, none⟩) ls.length d1, .slice A2 o.g.length c2, .slice A3 o.n.length c3] css (ls.map cutA) (wcc css k rest x (V 13) (.slice Av x.store.length cv)) (V 13) (V 25) xc xs W) ∧ (L 31 = true → WdM w b w.heap.size (w.heap.size + 1) w0.heap.size k #[.slice (some ⟨b, 0, none⟩) ls.length d1, .slice A2 o.g.length c2, .slice A3 o.n.length c3] css (ls.map cutA) (wcc css k rest x (V 13) (V 25)) (V 13) (V 25) xc xs W) ∧ (L 28 = false → L 13 = true → JbS (b + 1) W (V 13) xc) ∧ (L 25 = true → JkS (b + 1) W (V 25) xs)) ?_ ⟨?_, ?_, ?_, ?_, ?_, ?_, ?_, ?_, ?_, ?_, ?_, ?_, ?_, ?_, ?_, ?_, ?_, ?_, ?_, ?_, ?_, ?_, ?_, ?_, ?_, ?_, ?_, ?_, ?_, ?_, ?_, ?_, trivial⟩ ?_
    ·refine ⟨fun j => a0.tmps.getD (([29, 30, 31, 32, 33, 34, 35, 36, 37, 38, 39, 40, 41, 42, 43, 44, 45, 46, 47, 48, 49, 50, 51, 52, 53, 54, 55, 56, 0, 57, 58, 0] : List Nat).getD j 0) undef, ?_, Vals.no _ _ _ (far_none _ _ rfl), fun _ => HJ.out.ext (Ext.refl _).drew, fun h0 h1 => absurd h0 (by decide), fun h0 => absurd h0 (by decide), fun h0 h1 => absurd h1 (by decide), fun h0 => absurd h0 (by decide)⟩
     rw [HFR.out, ha0]
     rfl
    all_goals clear ha0
    ·rintro L A W K hL hC hW ⟨V, rfl, HV, s0, s1, s2, f13, f25⟩ hK
     have H := Lib.hid (show ∀ W', Ext W W' → K (fr (upd V 0 (.pointer (some ⟨b, k * 8, none⟩)))) W' from fun W' he => hK _ _ ⟨_, rfl, HV.us 0 _ rfl, fun h0 => WdS.ext (s0 (mnf h0 rfl)) he, fun h0 h1 => WdM.ext (s1 (more_ne h0 rfl) (mnf h1 rfl)) he, fun h0 => WdM.ext (s2 (more_ne h0 rfl)) he, fun h0 h1 => JbS.ext (f13 (mnf h0 rfl) (more_ne h1 rfl)) he, fun h0 => JkS.ext (f25 (more_ne h0 rfl)) he⟩)
     clear hK hC hW hL HV s0 s1 s2 f13 f25
     rw [HFR.out]
     go_wp2_with fail
     show K _ _; have := H.out _ (Ext.refl _); rw [HFR.out] at this
     exact this
    ·rintro L A W K hL hC hW ⟨V, rfl, HV, s0, s1, s2, f13, f25⟩ hK
     have H := Lib.hid (show ∀ W', Ext W W' → K (fr (upd V 1 (.pointer (some ⟨b, k * 8, none⟩)))) W' from fun W' he => hK _ _ ⟨_, rfl, HV.us 1 _ rfl, fun h0 => WdS.ext (s0 (mnf h0 rfl)) he, fun h0 h1 => WdM.ext (s1 (more_ne h0 rfl) (mnf h1 rfl)) he, fun h0 => mtf (hC.no (hC.no (hC.no hL 29 _ rfl rfl) 30 _ rfl rfl) 31 _ rfl rfl) (more_ne h0 rfl), fun h0 h1 => JbS.ext (f13 (mnf h0 rfl) (more_ne h1 rfl)) he, fun h0 => JkS.ext (f25 (more_ne h0 rfl)) he⟩)
     clear hK hC hW hL HV s0 s1 s2 f13 f25
     rw [HFR.out]
     go_wp2_with fail
     show K _ _; have := H.out _ (Ext.refl _); rw [HFR.out] at this
     exact this
    ·rintro L A W K hL hC hW ⟨V, rfl, HV, s0, s1, s2, f13, f25⟩ hK
     have H := Lib.hid (show ∀ W', Ext W W' → K (fr (upd V 2 (.pointer (some ⟨b, k * 8, none⟩)))) W' from fun W' he => hK _ _ ⟨_, rfl, HV.us 2 _ rfl, fun h0 => WdS.ext (s0 (mnf h0 rfl)) he, fun h0 h1 => mtf (hC.no (hC.no (hC.no (hC.no (hC.no (hC.no hL 3 _ rfl rfl) 4 _ rfl rfl) 5 _ rfl rfl) 12 _ rfl rfl) 13 _ rfl rfl) 28 _ rfl rfl) (more_ne h0 rfl), fun h0 => mtf (hC.no (hC.no (hC.no (hC.no (hC.no (hC.no (hC.no hL 3 _ rfl rfl) 4 _ rfl rfl) 5 _ rfl rfl) 12 _ rfl rfl) 13 _ rfl rfl) 28 _ rfl rfl) 31 _ rfl rfl) (more_ne h0 rfl), fun h0 h1 => JbS.ext (f13 (mnf h0 rfl) (more_ne h1 rfl)) he, fun h0 => JkS.ext (f25 (more_ne h0 rfl)) he⟩)
     clear hK hC hW hL HV s0 s1 s2 f13 f25
     rw [HFR.out]
     go_wp2_with fail
     show K _ _; have := H.out _ (Ext.refl _); rw [HFR.out] at this
     exact this
    ·rintro L A W K hL hC hW ⟨V, rfl, HV, s0, s1, s2, f13, f25⟩ hK
     have e2 := HV 2 _ rfl (hW 2 rfl)
     have H := Lib.hid (show ∀ W', Ext W W' → K (fr (upd V 3 (.pointer (some ⟨b, k * 8, none⟩)))) W' from fun W' he => hK _ _ ⟨_, rfl, HV.us 3 _ rfl, fun h0 => WdS.ext (s0 (mnf h0 rfl)) he, fun h0 h1 => WdM.ext (s1 (more_ne h0 rfl) (mnf h1 rfl)) he, fun h0 => WdM.ext (s2 (more_ne h0 rfl)) he, fun h0 h1 => JbS.ext (f13 (mnf h0 rfl) (more_ne h1 rfl)) he, fun h0 => JkS.ext (f25 (more_ne h0 rfl)) he⟩)
     have HU := Lib.hid (show (upd V 3 (.pointer (some ⟨b, k * 8, none⟩))) 2 = .pointer (some ⟨b, k * 8, none⟩) from e2)
     clear hK hC hW hL HV s0 s1 s2 f13 f25
     rw [HFR.out, e2]
     clear e2
     go_wp2_with fail
     show K _ _; have := H.out _ (Ext.refl _); rw [HFR.out] at this
     obtain u2 := HU.out
     rw [u2] at this
     exact this
    ·rintro L A W K hL hC hW ⟨V, rfl, HV, s0, s1, s2, f13, f25⟩ hK
     have e3 := HV 3 _ rfl (hW 3 rfl)
     have H := Lib.hid (show ∀ W', Ext W W' → K (fr (upd V 4 (.pointer (some ⟨b, k * 8 + 6, none⟩)))) W' from fun W' he => hK _ _ ⟨_, rfl, HV.us 4 _ rfl, fun h0 => WdS.ext (s0 (mnf h0 rfl)) he, fun h0 h1 => WdM.ext (s1 (more_ne h0 rfl) (mnf h1 rfl)) he, fun h0 => WdM.ext (s2 (more_ne h0 rfl)) he, fun h0 h1 => JbS.ext (f13 (mnf h0 rfl) (more_ne h1 rfl)) he, fun h0 => JkS.ext (f25 (more_ne h0 rfl)) he⟩)
     have HU := Lib.hid (show (upd V 4 (.pointer (some ⟨b, k * 8 + 6, none⟩))) 3 = .pointer (some ⟨b, k * 8, none⟩) from e3)
     clear hK hC hW hL HV s0 s1 s2 f13 f25
     rw [HFR.out, e3]
     clear e3
     go_wp2_with fail
     show K _ _; have := H.out _ (Ext.refl _); rw [HFR.out] at this
     obtain u3 := HU.out
     rw [u3] at this
     exact this
    ·rintro L A W K hL hC hW ⟨V, rfl, HV, s0, s1, s2, f13, f25⟩ hK
     have e4 := HV 4 _ rfl (hW 4 rfl)
     have hB := s0 (hC.no (hC.no (hC.no hL 12 _ rfl rfl) 13 _ rfl rfl) 28 _ rfl rfl)
     have H := Lib.hid (show ∀ W', Ext W W' → K (fr (upd V 5 (.slice Au x.code.length cu))) W' from fun W' he => hK _ _ ⟨_, rfl, HV.us 5 _ rfl, fun h0 => WdS.ext (s0 (mnf h0 rfl)) he, fun h0 h1 => WdM.ext (s1 (more_ne h0 rfl) (mnf h1 rfl)) he, fun h0 => WdM.ext (s2 (more_ne h0 rfl)) he, fun h0 h1 => JbS.ext (f13 (mnf h0 rfl) (more_ne h1 rfl)) he, fun h0 => JkS.ext (f25 (more_ne h0 rfl)) he⟩)
     have HU := Lib.hid (show (upd V 5 (.slice Au x.code.length cu)) 4 = .pointer (some ⟨b, k * 8 + 6, none⟩) from e4)
     clear hK hC hW hL HV s0 s1 s2 f13 f25
     rw [HFR.out, e4]
     clear e4
     have hcl := HRX.out W (.slice Au x.code.length cu) (.slice Av x.store.length cv) hB.1 6 _ rfl
     clear hB
     go_wp2_with fail
     show K _ _; have := H.out _ (Ext.refl _); rw [HFR.out] at this
     obtain u4 := HU.out
     rw [u4] at this
     exact this
    ·rintro L A W K hL hC hW ⟨V, rfl, HV, s0, s1, s2, f13, f25⟩ hK
     have H := Lib.hid (show ∀ W', Ext W W' → K (fr (upd V 6 (.pointer (some ⟨b, k * 8, none⟩)))) W' from fun W' he => hK _ _ ⟨_, rfl, HV.us 6 _ rfl, fun h0 => WdS.ext (s0 (mnf h0 rfl)) he, fun h0 h1 => WdM.ext (s1 (more_ne h0 rfl) (mnf h1 rfl)) he, fun h0 => WdM.ext (s2 (more_ne h0 rfl)) he, fun h0 h1 => JbS.ext (f13 (mnf h0 rfl) (more_ne h1 rfl)) he, fun h0 => JkS.ext (f25 (more_ne h0 rfl)) he⟩)
     clear hK hC hW hL HV s0 s1 s2 f13 f25
     rw [HFR.out]
     go_wp2_with fail
     show K _ _; have := H.out _ (Ext.refl _); rw [HFR.out] at this
     exact this
    ·rintro L A W K hL hC hW ⟨V, rfl, HV, s0, s1, s2, f13, f25⟩ hK
     have e6 := HV 6 _ rfl (hW 6 rfl)
     have H := Lib.hid (show ∀ W', Ext W W' → K (fr (upd V 7 (.pointer (some ⟨b, k * 8, none⟩)))) W' from fun W' he => hK _ _ ⟨_, rfl, HV.us 7 _ rfl, fun h0 => WdS.ext (s0 (mnf h0 rfl)) he, fun h0 h1 => WdM.ext (s1 (more_ne h0 rfl) (mnf h1 rfl)) he, fun h0 => WdM.ext (s2 (more_ne h0 rfl)) he, fun h0 h1 => JbS.ext (f13 (mnf h0 rfl) (more_ne h1 rfl)) he, fun h0 => JkS.ext (f25 (more_ne h0 rfl)) he⟩)
     have HU := Lib.hid (show (upd V 7 (.pointer (some ⟨b, k * 8, none⟩))) 6 = .pointer (some ⟨b, k * 8, none⟩) from e6)
     clear hK hC hW hL HV s0 s1 s2 f13 f25
     rw [HFR.out, e6]
     clear e6
     go_wp2_with fail
     show K _ _; have := H.out _ (Ext.refl _); rw [HFR.out] at this
     obtain u6 := HU.out
     rw [u6] at this
     exact this
    ·rintro L A W K hL hC hW ⟨V, rfl, HV, s0, s1, s2, f13, f25⟩ hK
     have e7 := HV 7 _ rfl (hW 7 rfl)
     have H := Lib.hid (show ∀ W', Ext W W' → K (fr (upd V 8 (.pointer (some ⟨b, k * 8 + 6, none⟩)))) W' from fun W' he => hK _ _ ⟨_, rfl, HV.us 8 _ rfl, fun h0 => WdS.ext (s0 (mnf h0 rfl)) he, fun h0 h1 => WdM.ext (s1 (more_ne h0 rfl) (mnf h1 rfl)) he, fun h0 => WdM.ext (s2 (more_ne h0 rfl)) he, fun h0 h1 => JbS.ext (f13 (mnf h0 rfl) (more_ne h1 rfl)) he, fun h0 => JkS.ext (f25 (more_ne h0 rfl)) he⟩)
     have HU := Lib.hid (show (upd V 8 (.pointer (some ⟨b, k * 8 + 6, none⟩))) 7 = .pointer (some ⟨b, k * 8, none⟩) from e7)
     clear hK hC hW hL HV s0 s1 s2 f13 f25
     rw [HFR.out, e7]
     clear e7
     go_wp2_with fail
     show K _ _; have := H.out _ (Ext.refl _); rw [HFR.out] at this
     obtain u7 := HU.out
     rw [u7] at this
     exact this
    ·rintro L A W K hL hC hW ⟨V, rfl, HV, s0, s1, s2, f13, f25⟩ hK
     have e8 := HV 8 _ rfl (hW 8 rfl)
     have hB := s0 (hC.no (hC.no (hC.no (hC.no (hC.no hL 10 _ rfl rfl) 11 _ rfl rfl) 12 _ rfl rfl) 13 _ rfl rfl) 28 _ rfl rfl)
     have H := Lib.hid (show ∀ W', Ext W W' → K (fr (upd V 9 (.slice Au x.code.length cu))) W' from fun W' he => hK _ _ ⟨_, rfl, HV.us 9 _ rfl, fun h0 => WdS.ext (s0 (mnf h0 rfl)) he, fun h0 h1 => WdM.ext (s1 (more_ne h0 rfl) (mnf h1 rfl)) he, fun h0 => WdM.ext (s2 (more_ne h0 rfl)) he, fun h0 h1 => JbS.ext (f13 (mnf h0 rfl) (more_ne h1 rfl)) he, fun h0 => JkS.ext (f25 (more_ne h0 rfl)) he⟩)
     have HU := Lib.hid (show (upd V 9 (.slice Au x.code.length cu)) 8 = .pointer (some ⟨b, k * 8 + 6, none⟩) from e8)
     clear hK hC hW hL HV s0 s1 s2 f13 f25
     rw [HFR.out, e8]
     clear e8
     have hcl := HRX.out W (.slice Au x.code.length cu) (.slice Av x.store.length cv) hB.1 6 _ rfl
     clear hB
     go_wp2_with fail
     show K _ _; have := H.out _ (Ext.refl _); rw [HFR.out] at this
     obtain u8 := HU.out
     rw [u8] at this
     exact this
    ·rintro L A W K hL hC hW ⟨V, rfl, HV, s0, s1, s2, f13, f25⟩ hK
     have e9 := HV 9 _ rfl (hW 9 rfl)
     have H := Lib.hid (show ∀ W', Ext W W' → K (fr (upd V 10 (.int .i64 (x.code.length : Nat)))) W' from fun W' he => hK _ _ ⟨_, rfl, HV.us 10 _ rfl, fun h0 => WdS.ext (s0 (mnf h0 rfl)) he, fun h0 h1 => WdM.ext (s1 (more_ne h0 rfl) (mnf h1 rfl)) he, fun h0 => WdM.ext (s2 (more_ne h0 rfl)) he, fun h0 h1 => JbS.ext (f13 (mnf h0 rfl) (more_ne h1 rfl)) he, fun h0 => JkS.ext (f25 (more_ne h0 rfl)) he⟩)
     have HU := Lib.hid (show (upd V 10 (.int .i64 (x.code.length : Nat))) 9 = .slice Au x.code.length cu from e9)
     clear hK hC hW hL HV s0 s1 s2 f13 f25
     rw [HFR.out, e9]
     clear e9
     go_wp2_with fail
     show K _ _; have := H.out _ (Ext.refl _); rw [HFR.out] at this
     obtain u9 := HU.out
     rw [u9] at this
     exact this
    ·rintro L A W K hL hC hW ⟨V, rfl, HV, s0, s1, s2, f13, f25⟩ hK
     have e10 := HV 10 _ rfl (hW 10 rfl)
     have hB := s0 (hC.no (hC.no (hC.no hL 12 _ rfl rfl) 13 _ rfl rfl) 28 _ rfl rfl)
     have H := Lib.hid (show ∀ W', Ext W W' → K (fr (upd V 11 (.int .i64 (xc.length : Nat)))) W' from fun W' he => hK _ _ ⟨_, rfl, HV.us 11 _ rfl, fun h0 => WdS.ext (s0 (mnf h0 rfl)) he, fun h0 h1 => WdM.ext (s1 (more_ne h0 rfl) (mnf h1 rfl)) he, fun h0 => WdM.ext (s2 (more_ne h0 rfl)) he, fun h0 h1 => JbS.ext (f13 (mnf h0 rfl) (more_ne h1 rfl)) he, fun h0 => JkS.ext (f25 (more_ne h0 rfl)) he⟩)
     have HU := Lib.hid (show (upd V 11 (.int .i64 (xc.length : Nat))) 10 = .int .i64 (x.code.length : Nat) from e10)
     clear hK hC hW hL HV s0 s1 s2 f13 f25
     rw [HFR.out, e10]
     clear e10
     have hm := HMC.out.1
     clear hB
     go_wp2_with fail
     show K _ _; have := H.out _ (Ext.refl _); rw [HFR.out] at this
     obtain u10 := HU.out
     rw [u10] at this
     exact this
    ·rintro L A W K hL hC hW ⟨V, rfl, HV, s0, s1, s2, f13, f25⟩ hK
     have e5 := HV 5 _ rfl (hW 5 rfl)
     have e11 := HV 11 _ rfl (hW 11 rfl)
     have hB := s0 (hC.no (hC.no hL 13 _ rfl rfl) 28 _ rfl rfl)
     have H := Lib.hid (show ∀ W', Ext W W' → K (fr (upd V 12 (.slice Au xc.length cu))) W' from fun W' he => hK _ _ ⟨_, rfl, HV.us 12 _ rfl, fun h0 => WdS.ext (s0 (mnf h0 rfl)) he, fun h0 h1 => WdM.ext (s1 (more_ne h0 rfl) (mnf h1 rfl)) he, fun h0 => WdM.ext (s2 (more_ne h0 rfl)) he, fun h0 h1 => JbS.ext (f13 (mnf h0 rfl) (more_ne h1 rfl)) he, fun h0 => JkS.ext (f25 (more_ne h0 rfl)) he⟩)
     have HU := Lib.hid (show (upd V 12 (.slice Au xc.length cu)) 5 = .slice Au x.code.length cu ∧ (upd V 12 (.slice Au xc.length cu)) 11 = .int .i64 (xc.length : Nat) from ⟨e5, e11⟩)
     clear hK hC hW hL HV s0 s1 s2 f13 f25
     rw [HFR.out, e5, e11]
     clear e5 e11
     have hm := HMC.out.2
     clear hB
     go_wp2_with fail
     show K _ _; have := H.out _ (Ext.refl _); rw [HFR.out] at this
     obtain ⟨u5, u11⟩ := HU.out
     rw [u5, u11] at this
     exact this
    ·rintro L A W K hL hC hW ⟨V, rfl, HV, s0, s1, s2, f13, f25⟩ hK
     have e12 := HV 12 _ rfl (hW 12 rfl)
     have hB := s0 (hC.no hL 28 _ rfl rfl)
     have H := Lib.hid (show ∀ v W', Ext W W' → (JbS (b + 1) W' v xc) → K (fr (upd V 13 v)) W' from fun v W' he hp => hK _ _ ⟨_, rfl, HV.un 13 _ rfl, fun h0 => WdS.ext (s0 (mnf h0 rfl)) he, fun h0 h1 => mtf (hC.no hL 28 _ rfl rfl) (more_ne h0 rfl), fun h0 => mtf (hC.no (hC.no hL 28 _ rfl rfl) 31 _ rfl rfl) (more_ne h0 rfl), fun h0 h1 => hp, fun h0 => JkS.ext (f25 (more_ne h0 rfl)) he⟩)
     have HU := Lib.hid (show ∀ v, (upd V 13 v) 12 = .slice Au xc.length cu from fun v => e12)
     clear hK hC hW hL HV s0 s1 s2 f13 f25
     rw [HFR.out, e12]
     clear e12
     have HB := Lib.hid hB.2.2.2.2
     have HSZ := Lib.hid hB.1.lt
     clear hB
     go_wp2_with fail
     refine (jcloneB_any _ xc.length (xc.map bv) _ (bs_rsJ (HBC.out.ext HB.out)) (bv_oneJ _) HLC.out.1).mono ?_
     rintro e wx ⟨vx, rfl, ho, he⟩
     have := H.out _ _ he (own_shp (own_mono ho (Nat.succ_le_of_lt HSZ.out)))
     clear H
     go_wp2_with fail
     show K _ _
     rw [HFR.out] at this
     obtain u12 := HU.out _
     rw [u12] at this
     exact this
    ·rintro L A W K hL hC hW ⟨V, rfl, HV, s0, s1, s2, f13, f25⟩ hK
     have H := Lib.hid (show ∀ W', Ext W W' → K (fr (upd V 14 (.pointer (some ⟨b, k * 8, none⟩)))) W' from fun W' he => hK _ _ ⟨_, rfl, HV.us 14 _ rfl, fun h0 => WdS.ext (s0 (mnf h0 rfl)) he, fun h0 h1 => WdM.ext (s1 (more_ne h0 rfl) (mnf h1 rfl)) he, fun h0 => WdM.ext (s2 (more_ne h0 rfl)) he, fun h0 h1 => JbS.ext (f13 (mnf h0 rfl) (more_ne h1 rfl)) he, fun h0 => JkS.ext (f25 (more_ne h0 rfl)) he⟩)
     clear hK hC hW hL HV s0 s1 s2 f13 f25
     rw [HFR.out]
     go_wp2_with fail
     show K _ _; have := H.out _ (Ext.refl _); rw [HFR.out] at this
     exact this
    ·rintro L A W K hL hC hW ⟨V, rfl, HV, s0, s1, s2, f13, f25⟩ hK
     have e14 := HV 14 _ rfl (hW 14 rfl)
     have H := Lib.hid (show ∀ W', Ext W W' → K (fr (upd V 15 (.pointer (some ⟨b, k * 8, none⟩)))) W' from fun W' he => hK _ _ ⟨_, rfl, HV.us 15 _ rfl, fun h0 => WdS.ext (s0 (mnf h0 rfl)) he, fun h0 h1 => WdM.ext (s1 (more_ne h0 rfl) (mnf h1 rfl)) he, fun h0 => WdM.ext (s2 (more_ne h0 rfl)) he, fun h0 h1 => JbS.ext (f13 (mnf h0 rfl) (more_ne h1 rfl)) he, fun h0 => JkS.ext (f25 (more_ne h0 rfl)) he⟩)
     have HU := Lib.hid (show (upd V 15 (.pointer (some ⟨b, k * 8, none⟩))) 14 = .pointer (some ⟨b, k * 8, none⟩) from e14)
     clear hK hC hW hL HV s0 s1 s2 f13 f25
     rw [HFR.out, e14]
     clear e14
     go_wp2_with fail
     show K _ _; have := H.out _ (Ext.refl _); rw [HFR.out] at this
     obtain u14 := HU.out
     rw [u14] at this
     exact this
    ·rintro L A W K hL hC hW ⟨V, rfl, HV, s0, s1, s2, f13, f25⟩ hK
     have e15 := HV 15 _ rfl (hW 15 rfl)
     have H := Lib.hid (show ∀ W', Ext W W' → K (fr (upd V 16 (.pointer (some ⟨b, k * 8 + 7, none⟩)))) W' from fun W' he => hK _ _ ⟨_, rfl, HV.us 16 _ rfl, fun h0 => WdS.ext (s0 (mnf h0 rfl)) he, fun h0 h1 => WdM.ext (s1 (more_ne h0 rfl) (mnf h1 rfl)) he, fun h0 => WdM.ext (s2 (more_ne h0 rfl)) he, fun h0 h1 => JbS.ext (f13 (mnf h0 rfl) (more_ne h1 rfl)) he, fun h0 => JkS.ext (f25 (more_ne h0 rfl)) he⟩)
     have HU := Lib.hid (show (upd V 16 (.pointer (some ⟨b, k * 8 + 7, none⟩))) 15 = .pointer (some ⟨b, k * 8, none⟩) from e15)
     clear hK hC hW hL HV s0 s1 s2 f13 f25
     rw [HFR.out, e15]
     clear e15
     go_wp2_with fail
     show K _ _; have := H.out _ (Ext.refl _); rw [HFR.out] at this
     obtain u15 := HU.out
     rw [u15] at this
     exact this
    ·rintro L A W K hL hC hW ⟨V, rfl, HV, s0, s1, s2, f13, f25⟩ hK
     have e16 := HV 16 _ rfl (hW 16 rfl)
     have hB := s0 (hC.no (hC.no (hC.no hL 24 _ rfl rfl) 25 _ rfl rfl) 28 _ rfl rfl)
     have H := Lib.hid (show ∀ W', Ext W W' → K (fr (upd V 17 (.slice Av x.store.length cv))) W' from fun W' he => hK _ _ ⟨_, rfl, HV.us 17 _ rfl, fun h0 => WdS.ext (s0 (mnf h0 rfl)) he, fun h0 h1 => WdM.ext (s1 (more_ne h0 rfl) (mnf h1 rfl)) he, fun h0 => WdM.ext (s2 (more_ne h0 rfl)) he, fun h0 h1 => JbS.ext (f13 (mnf h0 rfl) (more_ne h1 rfl)) he, fun h0 => JkS.ext (f25 (more_ne h0 rfl)) he⟩)
     have HU := Lib.hid (show (upd V 17 (.slice Av x.store.length cv)) 16 = .pointer (some ⟨b, k * 8 + 7, none⟩) from e16)
     clear hK hC hW hL HV s0 s1 s2 f13 f25
     rw [HFR.out, e16]
     clear e16
     have hcl := HRX.out W (.slice Au x.code.length cu) (.slice Av x.store.length cv) hB.1 7 _ rfl
     clear hB
     go_wp2_with fail
     show K _ _; have := H.out _ (Ext.refl _); rw [HFR.out] at this
     obtain u16 := HU.out
     rw [u16] at this
     exact this
    ·rintro L A W K hL hC hW ⟨V, rfl, HV, s0, s1, s2, f13, f25⟩ hK
     have H := Lib.hid (show ∀ W', Ext W W' → K (fr (upd V 18 (.pointer (some ⟨b, k * 8, none⟩)))) W' from fun W' he => hK _ _ ⟨_, rfl, HV.us 18 _ rfl, fun h0 => WdS.ext (s0 (mnf h0 rfl)) he, fun h0 h1 => WdM.ext (s1 (more_ne h0 rfl) (mnf h1 rfl)) he, fun h0 => WdM.ext (s2 (more_ne h0 rfl)) he, fun h0 h1 => JbS.ext (f13 (mnf h0 rfl) (more_ne h1 rfl)) he, fun h0 => JkS.ext (f25 (more_ne h0 rfl)) he⟩)
     clear hK hC hW hL HV s0 s1 s2 f13 f25
     rw [HFR.out]
     go_wp2_with fail
     show K _ _; have := H.out _ (Ext.refl _); rw [HFR.out] at this
     exact this
    ·rintro L A W K hL hC hW ⟨V, rfl, HV, s0, s1, s2, f13, f25⟩ hK
     have e18 := HV 18 _ rfl (hW 18 rfl)
     have H := Lib.hid (show ∀ W', Ext W W' → K (fr (upd V 19 (.pointer (some ⟨b, k * 8, none⟩)))) W' from fun W' he => hK _ _ ⟨_, rfl, HV.us 19 _ rfl, fun h0 => WdS.ext (s0 (mnf h0 rfl)) he, fun h0 h1 => WdM.ext (s1 (more_ne h0 rfl) (mnf h1 rfl)) he, fun h0 => WdM.ext (s2 (more_ne h0 rfl)) he, fun h0 h1 => JbS.ext (f13 (mnf h0 rfl) (more_ne h1 rfl)) he, fun h0 => JkS.ext (f25 (more_ne h0 rfl)) he⟩)
     have HU := Lib.hid (show (upd V 19 (.pointer (some ⟨b, k * 8, none⟩))) 18 = .pointer (some ⟨b, k * 8, none⟩) from e18)
     clear hK hC hW hL HV s0 s1 s2 f13 f25
     rw [HFR.out, e18]
     clear e18
     go_wp2_with fail
     show K _ _; have := H.out _ (Ext.refl _); rw [HFR.out] at this
     obtain u18 := HU.out
     rw [u18] at this
     exact this
    ·rintro L A W K hL hC hW ⟨V, rfl, HV, s0, s1, s2, f13, f25⟩ hK
     have e19 := HV 19 _ rfl (hW 19 rfl)
     have H := Lib.hid (show ∀ W', Ext W W' → K (fr (upd V 20 (.pointer (some ⟨b, k * 8 + 7, none⟩)))) W' from fun W' he => hK _ _ ⟨_, rfl, HV.us 20 _ rfl, fun h0 => WdS.ext (s0 (mnf h0 rfl)) he, fun h0 h1 => WdM.ext (s1 (more_ne h0 rfl) (mnf h1 rfl)) he, fun h0 => WdM.ext (s2 (more_ne h0 rfl)) he, fun h0 h1 => JbS.ext (f13 (mnf h0 rfl) (more_ne h1 rfl)) he, fun h0 => JkS.ext (f25 (more_ne h0 rfl)) he⟩)
     have HU := Lib.hid (show (upd V 20 (.pointer (some ⟨b, k * 8 + 7, none⟩))) 19 = .pointer (some ⟨b, k * 8, none⟩) from e19)
     clear hK hC hW hL HV s0 s1 s2 f13 f25
     rw [HFR.out, e19]
     clear e19
     go_wp2_with fail
     show K _ _; have := H.out _ (Ext.refl _); rw [HFR.out] at this
     obtain u19 := HU.out
     rw [u19] at this
     exact this
    ·rintro L A W K hL hC hW ⟨V, rfl, HV, s0, s1, s2, f13, f25⟩ hK
     have e20 := HV 20 _ rfl (hW 20 rfl)
     have hB := s0 (hC.no (hC.no (hC.no (hC.no (hC.no hL 22 _ rfl rfl) 23 _ rfl rfl) 24 _ rfl rfl) 25 _ rfl rfl) 28 _ rfl rfl)
     have H := Lib.hid (show ∀ W', Ext W W' → K (fr (upd V 21 (.slice Av x.store.length cv))) W' from fun W' he => hK _ _ ⟨_, rfl, HV.us 21 _ rfl, fun h0 => WdS.ext (s0 (mnf h0 rfl)) he, fun h0 h1 => WdM.ext (s1 (more_ne h0 rfl) (mnf h1 rfl)) he, fun h0 => WdM.ext (s2 (more_ne h0 rfl)) he, fun h0 h1 => JbS.ext (f13 (mnf h0 rfl) (more_ne h1 rfl)) he, fun h0 => JkS.ext (f25 (more_ne h0 rfl)) he⟩)
     have HU := Lib.hid (show (upd V 21 (.slice Av x.store.length cv)) 20 = .pointer (some ⟨b, k * 8 + 7, none⟩) from e20)
     clear hK hC hW hL HV s0 s1 s2 f13 f25
     rw [HFR.out, e20]
     clear e20
     have hcl := HRX.out W (.slice Au x.code.length cu) (.slice Av x.store.length cv) hB.1 7 _ rfl
     clear hB
     go_wp2_with fail
     show K _ _; have := H.out _ (Ext.refl _); rw [HFR.out] at this
     obtain u20 := HU.out
     rw [u20] at this
     exact this
    ·rintro L A W K hL hC hW ⟨V, rfl, HV, s0, s1, s2, f13, f25⟩ hK
     have e21 := HV 21 _ rfl (hW 21 rfl)
     have H := Lib.hid (show ∀ W', Ext W W' → K (fr (upd V 22 (.int .i64 (x.store.length : Nat)))) W' from fun W' he => hK _ _ ⟨_, rfl, HV.us 22 _ rfl, fun h0 => WdS.ext (s0 (mnf h0 rfl)) he, fun h0 h1 => WdM.ext (s1 (more_ne h0 rfl) (mnf h1 rfl)) he, fun h0 => WdM.ext (s2 (more_ne h0 rfl)) he, fun h0 h1 => JbS.ext (f13 (mnf h0 rfl) (more_ne h1 rfl)) he, fun h0 => JkS.ext (f25 (more_ne h0 rfl)) he⟩)
     have HU := Lib.hid (show (upd V 22 (.int .i64 (x.store.length : Nat))) 21 = .slice Av x.store.length cv from e21)
     clear hK hC hW hL HV s0 s1 s2 f13 f25
     rw [HFR.out, e21]
     clear e21
     go_wp2_with fail
     show K _ _; have := H.out _ (Ext.refl _); rw [HFR.out] at this
     obtain u21 := HU.out
     rw [u21] at this
     exact this
    ·rintro L A W K hL hC hW ⟨V, rfl, HV, s0, s1, s2, f13, f25⟩ hK
     have e22 := HV 22 _ rfl (hW 22 rfl)
     have hB := s0 (hC.no (hC.no (hC.no hL 24 _ rfl rfl) 25 _ rfl rfl) 28 _ rfl rfl)
     have H := Lib.hid (show ∀ W', Ext W W' → K (fr (upd V 23 (.int .i64 (xs.length : Nat)))) W' from fun W' he => hK _ _ ⟨_, rfl, HV.us 23 _ rfl, fun h0 => WdS.ext (s0 (mnf h0 rfl)) he, fun h0 h1 => WdM.ext (s1 (more_ne h0 rfl) (mnf h1 rfl)) he, fun h0 => WdM.ext (s2 (more_ne h0 rfl)) he, fun h0 h1 => JbS.ext (f13 (mnf h0 rfl) (more_ne h1 rfl)) he, fun h0 => JkS.ext (f25 (more_ne h0 rfl)) he⟩)
     have HU := Lib.hid (show (upd V 23 (.int .i64 (xs.length : Nat))) 22 = .int .i64 (x.store.length : Nat) from e22)
     clear hK hC hW hL HV s0 s1 s2 f13 f25
     rw [HFR.out, e22]
     clear e22
     have hm := HMS.out.1
     clear hB
     go_wp2_with fail
     show K _ _; have := H.out _ (Ext.refl _); rw [HFR.out] at this
     obtain u22 := HU.out
     rw [u22] at this
     exact this
    ·rintro L A W K hL hC hW ⟨V, rfl, HV, s0, s1, s2, f13, f25⟩ hK
     have e17 := HV 17 _ rfl (hW 17 rfl)
     have e23 := HV 23 _ rfl (hW 23 rfl)
     have hB := s0 (hC.no (hC.no hL 25 _ rfl rfl) 28 _ rfl rfl)
     have H := Lib.hid (show ∀ W', Ext W W' → K (fr (upd V 24 (.slice Av xs.length cv))) W' from fun W' he => hK _ _ ⟨_, rfl, HV.us 24 _ rfl, fun h0 => WdS.ext (s0 (mnf h0 rfl)) he, fun h0 h1 => WdM.ext (s1 (more_ne h0 rfl) (mnf h1 rfl)) he, fun h0 => WdM.ext (s2 (more_ne h0 rfl)) he, fun h0 h1 => JbS.ext (f13 (mnf h0 rfl) (more_ne h1 rfl)) he, fun h0 => JkS.ext (f25 (more_ne h0 rfl)) he⟩)
     have HU := Lib.hid (show (upd V 24 (.slice Av xs.length cv)) 17 = .slice Av x.store.length cv ∧ (upd V 24 (.slice Av xs.length cv)) 23 = .int .i64 (xs.length : Nat) from ⟨e17, e23⟩)
     clear hK hC hW hL HV s0 s1 s2 f13 f25
     rw [HFR.out, e17, e23]
     clear e17 e23
     have hm := HMS.out.2
     clear hB
     go_wp2_with fail
     show K _ _; have := H.out _ (Ext.refl _); rw [HFR.out] at this
     obtain ⟨u17, u23⟩ := HU.out
     rw [u17, u23] at this
     exact this
    ·rintro L A W K hL hC hW ⟨V, rfl, HV, s0, s1, s2, f13, f25⟩ hK
     have e24 := HV 24 _ rfl (hW 24 rfl)
     have hB := s0 (hC.no hL 28 _ rfl rfl)
     have H := Lib.hid (show ∀ v W', Ext W W' → (JkS (b + 1) W' v xs) → K (fr (upd V 25 v)) W' from fun v W' he hp => hK _ _ ⟨_, rfl, HV.un 25 _ rfl, fun h0 => WdS.ext (s0 (mnf h0 rfl)) he, fun h0 h1 => mtf (hC.no hL 28 _ rfl rfl) (more_ne h0 rfl), fun h0 => mtf (hC.no hL 31 _ rfl rfl) (more_ne h0 rfl), fun h0 h1 => JbS.ext (f13 (mnf h0 rfl) (more_ne h1 rfl)) he, fun h0 => hp⟩)
     have HU := Lib.hid (show ∀ v, (upd V 25 v) 24 = .slice Av xs.length cv from fun v => e24)
     clear hK hC hW hL HV s0 s1 s2 f13 f25
     rw [HFR.out, e24]
     clear e24
     have HB := Lib.hid hB.2.2.2.2
     have HSZ := Lib.hid hB.1.lt
     clear hB
     go_wp2_with fail
     refine (jcloneK_any _ xs.length (pkf xs) _ ((HBS.out.ext HB.out).rs) (pkf_one xs) HLC.out.2).mono ?_
     rintro e wx ⟨vx, rfl, ho, he⟩
     have := H.out _ _ he (ownK_shp ⟨own_mono ho (Nat.succ_le_of_lt HSZ.out), HBS.out.words⟩)
     clear H
     go_wp2_with fail
     show K _ _
     rw [HFR.out] at this
     obtain u24 := HU.out _
     rw [u24] at this
     exact this
    ·rintro L A W K hL hC hW ⟨V, rfl, HV, s0, s1, s2, f13, f25⟩ hK
     have e0 := HV 0 _ rfl (hW 0 rfl)
     have H := Lib.hid (show ∀ W', Ext W W' → K (fr (upd V 26 (.pointer (some ⟨b, k * 8, none⟩)))) W' from fun W' he => hK _ _ ⟨_, rfl, HV.us 26 _ rfl, fun h0 => WdS.ext (s0 (mnf h0 rfl)) he, fun h0 h1 => WdM.ext (s1 (more_ne h0 rfl) (mnf h1 rfl)) he, fun h0 => WdM.ext (s2 (more_ne h0 rfl)) he, fun h0 h1 => JbS.ext (f13 (mnf h0 rfl) (more_ne h1 rfl)) he, fun h0 => JkS.ext (f25 (more_ne h0 rfl)) he⟩)
     have HU := Lib.hid (show (upd V 26 (.pointer (some ⟨b, k * 8, none⟩))) 0 = .pointer (some ⟨b, k * 8, none⟩) from e0)
     clear hK hC hW hL HV s0 s1 s2 f13 f25
     rw [HFR.out, e0]
     clear e0
     go_wp2_with fail
     show K _ _; have := H.out _ (Ext.refl _); rw [HFR.out] at this
     obtain u0 := HU.out
     rw [u0] at this
     exact this
    ·rintro L A W K hL hC hW ⟨V, rfl, HV, s0, s1, s2, f13, f25⟩ hK
     have e26 := HV 26 _ rfl (hW 26 rfl)
     have H := Lib.hid (show ∀ W', Ext W W' → K (fr (upd V 27 (.pointer (some ⟨b, k * 8 + 6, none⟩)))) W' from fun W' he => hK _ _ ⟨_, rfl, HV.us 27 _ rfl, fun h0 => WdS.ext (s0 (mnf h0 rfl)) he, fun h0 h1 => WdM.ext (s1 (more_ne h0 rfl) (mnf h1 rfl)) he, fun h0 => WdM.ext (s2 (more_ne h0 rfl)) he, fun h0 h1 => JbS.ext (f13 (mnf h0 rfl) (more_ne h1 rfl)) he, fun h0 => JkS.ext (f25 (more_ne h0 rfl)) he⟩)
     have HU := Lib.hid (show (upd V 27 (.pointer (some ⟨b, k * 8 + 6, none⟩))) 26 = .pointer (some ⟨b, k * 8, none⟩) from e26)
     clear hK hC hW hL HV s0 s1 s2 f13 f25
     rw [HFR.out, e26]
     clear e26
     go_wp2_with fail
     show K _ _; have := H.out _ (Ext.refl _); rw [HFR.out] at this
     obtain u26 := HU.out
     rw [u26] at this
     exact this
    ·rintro L A W K hL hC hW ⟨V, rfl, HV, s0, s1, s2, f13, f25⟩ hK
     have e27 := HV 27 _ rfl (hW 27 rfl)
     have hB := s0 hL
     have q13 := f13 hL (hW 13 rfl)
     obtain ⟨A13, c13, e13, z13⟩ := q13
     have q25 := f25 (hW 25 rfl)
     obtain ⟨B25, d25, e25, z25⟩ := q25
     have H := Lib.hid (show ∀ W', (WdM w b w.heap.size (w.heap.size + 1) w0.heap.size k #[.slice (some ⟨b, 0, none⟩) ls.length d1, .slice A2 o.g.length c2, .slice A3 o.n.length c3] css (ls.map cutA) (wcc css k rest x (V 13) (.slice Av x.store.length cv)) (V 13) (V 25) xc xs W') → K (fr (V)) W' from fun W' hA => hK _ _ ⟨V, rfl, HV.st 28 rfl, fun h0 => msf h0, fun h0 h1 => hA, fun h0 => mtf (hC.no hL 31 _ rfl rfl) (more_ne h0 rfl), fun h0 h1 => msf h0, fun h0 => hA.2.2⟩)
     have HU := Lib.hid (show (V) 27 = .pointer (some ⟨b, k * 8 + 6, none⟩) ∧ (V) 13 = .slice A13 xc.length c13 ∧ (V) 25 = .slice B25 xs.length d25 from ⟨e27, e13, e25⟩)
     clear hK hC hW hL HV s0 s1 s2 f13 f25
     rw [HFR.out, e27, e13, e25]
     clear e27 e13 e25
     have HB := Lib.hid hB
     have Z1 := Lib.hid z13
     have Z2 := Lib.hid z25
     clear hB z13 z25
     refine wpList_store_one rfl rfl 76 (.tmp 56) (.tmp 42) rfl b (k * 8 + 6) 79 (wcc css k rest x (.slice Au x.code.length cu) (.slice Av x.store.length cv)) (.slice A13 xc.length c13) rfl rfl rfl HB.out.1 infoLB9 (Nat.le_trans (Nat.le_succ _) (HWS.out _ _)) rfl ?_
     intro w' kk gg
     have HA := Lib.hid (show WdM w b w.heap.size (w.heap.size + 1) w0.heap.size k #[.slice (some ⟨b, 0, none⟩) ls.length d1, .slice A2 o.g.length c2, .slice A3 o.n.length c3] css (ls.map cutA) (wcc css k rest x (V 13) (.slice Av x.store.length cv)) (V 13) (V 25) xc xs w' from by rw [HU.out.2.1]; exact ⟨HB.out.put (by have h := kk; rw [wcc_six HCL.out.1 HCL.out.2] at h; exact h) gg HNE.out.1 HNE.out.2.1 HNE.out.2.2, JbS.putJ ⟨_, _, rfl, Z1.out⟩ gg, by rw [HU.out.2.2]; exact JkS.putJ ⟨_, _, rfl, Z2.out⟩ gg⟩)
     clear kk gg
     show K _ _; have := H.out _ HA.out; rw [HFR.out] at this
     obtain ⟨u27, u13, u25⟩ := HU.out
     rw [u27, u13, u25] at this
     exact this
    ·rintro L A W K hL hC hW ⟨V, rfl, HV, s0, s1, s2, f13, f25⟩ hK
     have e1 := HV 1 _ rfl (hW 1 rfl)
     have H := Lib.hid (show ∀ W', Ext W W' → K (fr (upd V 29 (.pointer (some ⟨b, k * 8, none⟩)))) W' from fun W' he => hK _ _ ⟨_, rfl, HV.us 29 _ rfl, fun h0 => WdS.ext (s0 (mnf h0 rfl)) he, fun h0 h1 => WdM.ext (s1 (more_ne h0 rfl) (mnf h1 rfl)) he, fun h0 => WdM.ext (s2 (more_ne h0 rfl)) he, fun h0 h1 => JbS.ext (f13 (mnf h0 rfl) (more_ne h1 rfl)) he, fun h0 => JkS.ext (f25 (more_ne h0 rfl)) he⟩)
     have HU := Lib.hid (show (upd V 29 (.pointer (some ⟨b, k * 8, none⟩))) 1 = .pointer (some ⟨b, k * 8, none⟩) from e1)
     clear hK hC hW hL HV s0 s1 s2 f13 f25
     rw [HFR.out, e1]
     clear e1
     go_wp2_with fail
     show K _ _; have := H.out _ (Ext.refl _); rw [HFR.out] at this
     obtain u1 := HU.out
     rw [u1] at this
     exact this
    ·rintro L A W K hL hC hW ⟨V, rfl, HV, s0, s1, s2, f13, f25⟩ hK
     have e29 := HV 29 _ rfl (hW 29 rfl)
     have H := Lib.hid (show ∀ W', Ext W W' → K (fr (upd V 30 (.pointer (some ⟨b, k * 8 + 7, none⟩)))) W' from fun W' he => hK _ _ ⟨_, rfl, HV.us 30 _ rfl, fun h0 => WdS.ext (s0 (mnf h0 rfl)) he, fun h0 h1 => WdM.ext (s1 (more_ne h0 rfl) (mnf h1 rfl)) he, fun h0 => WdM.ext (s2 (more_ne h0 rfl)) he, fun h0 h1 => JbS.ext (f13 (mnf h0 rfl) (more_ne h1 rfl)) he, fun h0 => JkS.ext (f25 (more_ne h0 rfl)) he⟩)
     have HU := Lib.hid (show (upd V 30 (.pointer (some ⟨b, k * 8 + 7, none⟩))) 29 = .pointer (some ⟨b, k * 8, none⟩) from e29)
     clear hK hC hW hL HV s0 s1 s2 f13 f25
     rw [HFR.out, e29]
     clear e29
     go_wp2_with fail
     show K _ _; have := H.out _ (Ext.refl _); rw [HFR.out] at this
     obtain u29 := HU.out
     rw [u29] at this
     exact this
    ·rintro L A W K hL hC hW ⟨V, rfl, HV, s0, s1, s2, f13, f25⟩ hK
     have e30 := HV 30 _ rfl (hW 30 rfl)
     have hB := s1 (hW 28 rfl) hL
     have q25 := f25 (hW 25 rfl)
     obtain ⟨B25, d25, e25, z25⟩ := q25
     have H := Lib.hid (show ∀ W', (WdM w b w.heap.size (w.heap.size + 1) w0.heap.size k #[.slice (some ⟨b, 0, none⟩) ls.length d1, .slice A2 o.g.length c2, .slice A3 o.n.length c3] css (ls.map cutA) (wcc css k rest x (V 13) (V 25)) (V 13) (V 25) xc xs W') → K (fr (V)) W' from fun W' hA => hK _ _ ⟨V, rfl, HV.st 31 rfl, fun h0 => mtf (mnf h0 rfl) (hW 28 rfl), fun h0 h1 => msf h1, fun h0 => hA, fun h0 h1 => mtf (mnf h0 rfl) (hW 28 rfl), fun h0 => hA.2.2⟩)
     have HU := Lib.hid (show (V) 30 = .pointer (some ⟨b, k * 8 + 7, none⟩) ∧ (V) 25 = .slice B25 xs.length d25 from ⟨e30, e25⟩)
     clear hK hC hW hL HV s0 s1 s2 f13 f25
     rw [HFR.out, e30, e25]
     clear e30 e25
     have HB := Lib.hid hB
     clear hB z25
     refine wpList_store_one rfl rfl 77 (.tmp 58) (.tmp 54) rfl b (k * 8 + 7) 79 (wcc css k rest x (V 13) (.slice Av x.store.length cv)) (.slice B25 xs.length d25) rfl rfl rfl HB.out.1.1 infoLK9 (HWS.out _ _) rfl ?_
     intro w' kk gg
     have HA := Lib.hid (show WdM w b w.heap.size (w.heap.size + 1) w0.heap.size k #[.slice (some ⟨b, 0, none⟩) ls.length d1, .slice A2 o.g.length c2, .slice A3 o.n.length c3] css (ls.map cutA) (wcc css k rest x (V 13) (V 25)) (V 13) (V 25) xc xs w' from by rw [HU.out.2]; exact ⟨HB.out.1.put (by have h := kk; rw [wcc_seven HCL.out.1 HCL.out.2] at h; exact h) gg HNE.out.1 HNE.out.2.1 HNE.out.2.2, HB.out.2.1.putJ gg, by have h := HB.out.2.2; rw [HU.out.2] at h; exact h.putJ gg⟩)
     clear kk gg
     show K _ _; have := H.out _ HA.out; rw [HFR.out] at this
     obtain ⟨u30, u25⟩ := HU.out
     rw [u30, u25] at this
     exact this
    ·rintro L A W hL ⟨V, rfl, HV, s0, s1, s2, f13, f25⟩
     have e0 := HV 0 _ rfl (hL 0 (by simp))
     have e1 := HV 1 _ rfl (hL 1 (by simp))
     have e2 := HV 2 _ rfl (hL 2 (by simp))
     have e3 := HV 3 _ rfl (hL 3 (by simp))
     have e4 := HV 4 _ rfl (hL 4 (by simp))
     have e5 := HV 5 _ rfl (hL 5 (by simp))
     have e6 := HV 6 _ rfl (hL 6 (by simp))
     have e7 := HV 7 _ rfl (hL 7 (by simp))
     have e8 := HV 8 _ rfl (hL 8 (by simp))
     have e9 := HV 9 _ rfl (hL 9 (by simp))
     have e10 := HV 10 _ rfl (hL 10 (by simp))
     have e11 := HV 11 _ rfl (hL 11 (by simp))
     have e12 := HV 12 _ rfl (hL 12 (by simp))
     have e14 := HV 14 _ rfl (hL 14 (by simp))
     have e15 := HV 15 _ rfl (hL 15 (by simp))
     have e16 := HV 16 _ rfl (hL 16 (by simp))
     have e17 := HV 17 _ rfl (hL 17 (by simp))
     have e18 := HV 18 _ rfl (hL 18 (by simp))
     have e19 := HV 19 _ rfl (hL 19 (by simp))
     have e20 := HV 20 _ rfl (hL 20 (by simp))
     have e21 := HV 21 _ rfl (hL 21 (by simp))
     have e22 := HV 22 _ rfl (hL 22 (by simp))
     have e23 := HV 23 _ rfl (hL 23 (by simp))
     have e24 := HV 24 _ rfl (hL 24 (by simp))
     have e26 := HV 26 _ rfl (hL 26 (by simp))
     have e27 := HV 27 _ rfl (hL 27 (by simp))
     have e29 := HV 29 _ rfl (hL 29 (by simp))
     have e30 := HV 30 _ rfl (hL 30 (by simp))
     have hA := s2 (hL 31 (by simp))
     have p54 := f25 (hL 25 (by simp))
     rw [HFR.out, e0, e1, e2, e3, e4, e5, e6, e7, e8, e9, e10, e11, e12, e14, e15, e16, e17, e18, e19, e20, e21, e22, e23, e24, e26, e27, e29, e30]
     clear hL HV HFR e0 e1 e2 e3 e4 e5 e6 e7 e8 e9 e10 e11 e12 e14 e15 e16 e17 e18 e19 e20 e21 e22 e23 e24 e26 e27 e29 e30 s0 s1 s2 f13 f25
     have HA := Lib.hid hA
     clear hA
     go_wp2_with fail
     exact ⟨⟨k + 1, by omega, by go_num, Lib.hid ⟨HNX.out _ _ _ (by rw [HXC.out.1, HXC.out.2]; exact HA.out), HA.out.1.2.2.1, HA.out.1.2.2.2.1⟩⟩, by simp [intOf]; omega⟩
   ·obtain rfl : k = ls.length := by omega
    have hd : decide (ls.length < ls.length) = false := decide_eq_false (by omega)
    have hd2 : decide ((ls.length : Int) < (ls.length : Int)) = false := decide_eq_false (by omega)
    have HRO : Hid (RowO 79 8 AcR No w0.heap.size wr (.slice (some ⟨b, 0, none⟩) ls.length d1) (ls.map cutA)) := Lib.hid (by
     have h := HJK.out.1
     have e : (ls.map cutA).length = ls.length := List.length_map ..
     rw [← e] at h ⊢
     exact EaJ.row h HB.out (by rw [e]; exact HCAP.out.1) HCAP.out.2 (by rw [e]; exact HRS.out))
    have HE2 : Hid (Ext w wr) := Lib.hid (by obtain ⟨_, _, _, _, _, _, h⟩ := HJK.out.1; exact h)
    have K2 := Lib.hid HJK.out.2.1
    have HR2 := Lib.hid HJK.out.2.2
    have HS2 : Hid (w0.heap.size ≤ wr.heap.size) := Lib.hid (Nat.le_trans HB.out (by obtain ⟨_, _, _, h, _⟩ := HJK.out.1; exact Nat.le_of_lt h.lt))
    clear HJK
    have hc := K2.out.cell 1 _ rfl
    have hm := HM2.out.1
    have hm2 := HM2.out.2
    go_wp2_with fail
    clear hc hm hm2
    refine (cloneH_any _ lg _ (HX2.out.ext HE2.out) HL2.out).mono ?_
    rintro e w3 ⟨v3, rfl, ho, he⟩
    obtain ⟨B2, d2, rfl, _⟩ := ho.sl
    have HO := Lib.hid ho
    have HE3 := Lib.hid he
    clear ho he
    go_upto_region 9 with ((with_reducible refine wpList_store_one ?_ ?_ 25 (.tmp 71) (.tmp 69) ?_ w.heap.size 1 30 #[.slice (some ⟨b, 0, none⟩) ls.length d1, .slice A2 o.g.length c2, .slice A3 o.n.length c3] (.slice B2 lg.length d2) ?_ ?_ ?_ ?_ ?_ ?_ ?_ ?_); (exact rfl); (exact rfl); (exact rfl); (exact rfl); (exact rfl); (exact rfl); (exact (Cs.ext K2.out HE3.out)); (exact infoLHd); (exact (of_decide_eq_true rfl)); (exact rfl); intro w4 k4 g4; have K4 : Hid (Cs w4 w.heap.size 30 #[.slice (some ⟨b, 0, none⟩) ls.length d1, .slice B2 lg.length d2, .slice A3 o.n.length c3]) := Lib.hid k4; have G4 := Lib.hid g4; clear k4 g4)
    have HO4 := Lib.hid (rowO_old (HRO.out.ext HE3.out) G4.out HG2.out.1)
    have HH4 : Hid (OwnH w4 w0.heap.size (.slice B2 lg.length d2) lg) := Lib.hid (by have h := HO.out.mono HS2.out; exact ⟨own_low h.1 G4.out HG2.out.1, h.2⟩)
    have HE4 : Hid (Ext w w4) := Lib.hid ((HE2.out.trans HE3.out).grown G4.out (Nat.le_refl _))
    have HR4 := Lib.hid (Cs.kept (Cs.ext HR2.out HE3.out) G4.out (fun e => absurd (Option.some.inj e) (by omega)))
    have HS4 := Lib.hid (show w0.heap.size ≤ w4.heap.size from Nat.le_trans HS2.out (Nat.le_trans HE3.out.size G4.out.size))
    clear HO G4 HE3
    have hc := K4.out.cell 2 _ rfl
    have hm := HM3.out.1
    have hm2 := HM3.out.2
    go_wp2_with fail
    clear hc hm hm2
    refine (cloneN_any _ ln _ (HX3.out.ext HE4.out) HL3.out).mono ?_
    rintro e w5 ⟨v5, rfl, ho, he⟩
    obtain ⟨B3, d3, rfl, _⟩ := ho.sl
    have HO := Lib.hid ho
    have HE5 := Lib.hid he
    clear ho he
    go_upto_region 10 with ((with_reducible refine wpList_store_one ?_ ?_ 28 (.tmp 80) (.tmp 79) ?_ w.heap.size 2 30 #[.slice (some ⟨b, 0, none⟩) ls.length d1, .slice B2 lg.length d2, .slice A3 o.n.length c3] (.slice B3 ln.length d3) ?_ ?_ ?_ ?_ ?_ ?_ ?_ ?_); (exact rfl); (exact rfl); (exact rfl); (exact rfl); (exact rfl); (exact rfl); (exact (Cs.ext K4.out HE5.out)); (exact infoLNn); (exact (of_decide_eq_true rfl)); (exact rfl); intro w6 k6 g6; have K6 : Hid (Cs w6 w.heap.size 30 #[.slice (some ⟨b, 0, none⟩) ls.length d1, .slice B2 lg.length d2, .slice B3 ln.length d3]) := Lib.hid k6; have G6 := Lib.hid g6; clear k6 g6)
    have HN6 : Hid (OwnN w6 w0.heap.size (.slice B3 ln.length d3) ln) := Lib.hid (by have h := HO.out.mono HS4.out; exact ⟨own_low h.1 G6.out HG2.out.1, h.2⟩)
    have HA6 : Hid (RetWo w0.heap.size w6 (.agg #[.slice (some ⟨b, 0, none⟩) ls.length d1, .slice B2 lg.length d2, .slice B3 ln.length d3]) ⟨ls.map cutA, lg, ln⟩) := Lib.hid ⟨_, _, _, rfl, rowO_old (HO4.out.ext HE5.out) G6.out HG2.out.1, (by have h := HH4.out.ext HE5.out; exact ⟨own_low h.1 G6.out HG2.out.1, h.2⟩), HN6.out⟩
    have HE6 : Hid (Ext w w6) := Lib.hid ((HE4.out.trans HE5.out).grown G6.out (Nat.le_refl _))
    have HR6 := Lib.hid (Cs.kept (Cs.ext HR4.out HE5.out) G6.out (fun e => absurd (Option.some.inj e) (by omega)))
    clear HO HO4 HH4 HN6 G6 HE4 HE5 HR4 HS4 K4
    have HRG := Lib.hid (Cs.rg K6.out)
    go_wp2_with (first
     | ((with_reducible refine wpList_loadWo ?_ (.tmp 1) ?_ w.heap.size 0 (.slice (some ⟨b, 0, none⟩) ls.length d1) (.slice B2 lg.length d2) (.slice B3 ln.length d3) ?_ HRG.out ?_); (exact rfl); (exact rfl); (exact rfl))
     | ((with_reducible refine wpList_storeWo ?_ ?_ (.tmp 2) (.tmp 81) ?_ (w.heap.size + 1) (.slice none 0 0) (.slice none 0 0) (.slice none 0 0) (.slice (some ⟨b, 0, none⟩) ls.length d1) (.slice B2 lg.length d2) (.slice B3 ln.length d3) ?_ ?_ HA6.out.one HR6.out ?_); (exact rfl); (exact rfl); (exact rfl); (exact rfl); (exact rfl); intro w7 k7 g7; have K7 := Lib.hid k7; have G7 := Lib.hid g7; clear k7 g7))
    refine bodyPost_ret (results_woo Tryz.results21 _ _ (w.heap.size + 1) _ _ _ rfl K7.out) rfl ?_
    rw [HCU.out]
    exact ⟨_, rfl, (HA6.out.old G7.out HG2.out.2).low HE0.out.size, HE6.out.grown G7.out (Nat.le_succ _)⟩
end Go.Proofs.YtnjpdchmdimaaaaGreat
