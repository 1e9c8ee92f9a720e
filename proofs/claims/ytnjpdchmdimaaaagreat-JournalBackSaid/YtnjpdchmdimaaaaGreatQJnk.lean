/- Package journal: Lay, Touch. -/
import Derived.Test.YtnjpdchmdimaaaaGreatQJnj
namespace Go.Proofs.YtnjpdchmdimaaaaGreat
open Go.ChangeShapes Go.WideShapes Go.ChangeAt Go.RowKit Go.Shelf

theorem jright_sz {a : Ac} (h : a.rightB = true) : a.store.length ≤ 24 ∧ a.code.length ≤ 200 := by
 unfold Ac.rightB at h
 simp only [Bool.and_eq_true, decide_eq_true_eq] at h
 exact ⟨h.2.2.1, h.2.1⟩
theorem jchS_right {s : Option (Nat × Nat)} {p : Ac} {r : Nat × Nat} (h : chS s p = some r) : p.rightB = true := by
 unfold chS at h
 cases s with
 | none => cases h
 | some s =>
  obtain ⟨f, t⟩ := s
  dsimp only at h
  split at h
  ·cases h
  ·split at h
   ·cases h
   ·split at h
    ·cases h
    ·rename_i h1 h2 h3
     simpa using h3
theorem jchL_right : ∀ (l : List Ac) (s : Option (Nat × Nat)) (r : Nat × Nat), l.foldl chS s = some r → ∀ p ∈ l, p.rightB = true
 | [], _, _, _, p, hp => nomatch hp
 | q :: l, s, r, h, p, hp => by
  rw [List.foldl_cons] at h
  cases hc : chS s q with
  | none => rw [hc, chS_none] at h; cases h
  | some s' =>
   rcases List.mem_cons.1 hp with rfl | hp
   ·exact jchS_right hc
   ·exact jchL_right l _ r h p hp
theorem jrightL_all {l : List Ac} (h : rightL l = true) : ∀ p ∈ l, p.rightB = true := by
 unfold rightL at h
 simp only [Bool.and_eq_true] at h
 obtain ⟨r, hr⟩ := Option.isSome_iff_exists.1 h.1
 exact jchL_right l _ r hr
theorem szO_of {o : Wo} (hs : SzW o) (hr : rightWo o = true) : SzO o := by
 unfold rightWo at hr
 simp only [Bool.and_eq_true] at hr
 refine ⟨Nat.le_trans hs (by omega), fun a ha => ?_, ?_, ?_⟩
 ·have := jright_sz (jrightL_all hr.1 a ha)
  exact ⟨by omega, by omega⟩
 ·have := (rightG_parts hr.2.1).1
  omega
 ·by_cases h : o.n.length ≤ 48
  ·omega
  ·rw [rightN_long h] at hr; exact absurd hr.2.2 (by simp)
theorem szX_of {x : Ax} (hr : rightX x = true) : SzX x := by
 have h := rightX_facts hr
 have h1 := rsB_len h.1
 have h2 := rsB_len h.2.1
 have h3 := rsB_len h.2.2.1
 exact ⟨by omega, by omega, by omega⟩
theorem rightJn_parts {j : Jn} (hr : rightJn j = true) : j.m.length ≤ 16 ∧ rightWo j.p.w = true ∧ rightX j.p.x = true ∧ ∀ p ∈ j.m, rightWo p.w = true ∧ rightX p.x = true := by
 unfold rightJn rightPo at hr
 simp only [Bool.and_eq_true, decide_eq_true_eq, List.all_eq_true] at hr
 exact ⟨hr.1, hr.2.1.1, hr.2.1.2, hr.2.2⟩
theorem szJn_of {j : Jn} (hs : SzJ j) (hr : rightJn j = true) : SzJn j := by
 obtain ⟨h1, h2, h3, h4⟩ := rightJn_parts hr
 exact ⟨⟨szO_of hs.1 h2, szX_of h3⟩, by omega, fun p hp => ⟨szO_of (hs.2 p hp) (h4 p hp).1, szX_of (h4 p hp).2⟩⟩
theorem below_put {g : Nat} {W W2 W3 : World} (hl : g < W.heap.size) (hg : W.grownBy W2 (some g)) (he : Ext W2 W3) : Below g W W3 :=
 Below.trans (below_grown (Nat.le_of_lt hl) hg (fun _ e => Nat.le_of_eq (Option.some.inj e))) (Below.mono he (Nat.le_trans (Nat.le_of_lt hl) hg.size))
def layJ (j : Jn) (o : Wo) : Jn × Int := jchg j (chkWo o) ⟨⟨o, j.p.x⟩, j.m⟩
def tchE (x : Ax) : Int := if rightX x then 0 else 200
def tchJ (j : Jn) (x : Ax) : Jn × Int := jchg j (tchE x) ⟨⟨j.p.w, x⟩, j.m⟩
theorem layJ_sz {j : Jn} {o : Wo} (hs : SzJ j) (ho : SzW o) (hr : rightJn j = true) (h : chkWo o = 0) : SzJn ⟨⟨o, j.p.x⟩, j.m⟩ := by
 have hj := szJn_of hs hr
 have h2 : rightWo o = true := by
  cases hq : rightWo o with
  | true => rfl
  | false => unfold chkWo at h; rw [hq] at h; cases h
 exact ⟨⟨szO_of ho h2, hj.1.2⟩, hj.2⟩
theorem tchJ_sz {j : Jn} {x : Ax} (hs : SzJ j) (hr : rightJn j = true) (h : tchE x = 0) : SzJn ⟨⟨j.p.w, x⟩, j.m⟩ := by
 have hj := szJn_of hs hr
 have h2 : rightX x = true := by
  cases hq : rightX x with
  | true => rfl
  | false => unfold tchE at h; rw [hq] at h; cases h
 exact ⟨⟨hj.1.1, szX_of h2⟩, hj.2⟩
set_option maxRecDepth 100000 in
set_option maxHeartbeats 8000000 in
theorem lay1_any (g gw : Nat) (xu xv xz xa xs xq xm u v z : Value) (j : Jn) (o : Wo) (w W : World) (hE : Ext w W) (hg : w.heap.size ≤ g) (hn : gw ≠ g) (hc : Cs W g 40 #[xu, xv, xz, xa, xs, xq, xm]) (hw : Cs W gw 30 #[u, v, z]) (hx : AxR w xa xs xq j.p.x) (hm : Pos w xm j.m) (ho : WoR w u v z o) (hz : SzW o) :
  Calls Tryz.prog 74 #[.pointer (some ⟨g, 0, none⟩), .pointer (some ⟨gw, 0, none⟩)] W fun e w' => e = .returned (.int .i64 (chkWo o)) ∧ Below g W w' ∧ ∃ cs, Cs w' g 40 cs ∧ JnR w' cs ⟨⟨o, j.p.x⟩, j.m⟩ := by
 have HX := Lib.hid hx
 have HM := Lib.hid hm
 have HO := Lib.hid ho
 have HE := Lib.hid hE
 have HZ := Lib.hid hz
 have HL := Lib.hid hc.lt
 have HC := Lib.hid hc
 have HW := Lib.hid hw
 have HON := Lib.hid (show (#[u, v, z] : Array Value).all (·.oneCell') = true from (by simp [acs_one ho.1, hds_one ho.2.1, nns_one ho.2.2]))
 have HRG := Lib.hid (Cs.rg hw)
 clear hx hm ho hE hc hw hz
 go_enter Tryz.func74, Tryz.ntmps74
 go_upto_region 2 with (first
  | ((with_reducible refine wpList_loadWo ?_ (.tmp 1) ?_ gw 0 u v z ?_ HRG.out ?_); (exact rfl); (exact rfl); (exact rfl))
  | ((with_reducible refine wpList_store_in ?_ ?_ 30 (.tmp 8) (.tmp 5) ?_ g 0 40 #[xu, xv, xz, xa, xs, xq, xm] #[u, v, z] ?_ ?_ ?_ ?_ ?_ ?_ ?_); (exact rfl); (exact rfl); (exact rfl); (exact rfl); (exact rfl); (exact HC.out); (exact infoWo); (exact (of_decide_eq_true rfl)); (exact HON.out); intro w2 k2 g2; have K2 : Hid (Cs w2 g 40 #[u, v, z, xa, xs, xq, xm]) := Lib.hid k2; have G2 := Lib.hid g2; clear k2 g2))
 have HE2 := Lib.hid (HE.out.grown G2.out hg)
 have HRG2 := Lib.hid (Cs.rg (Cs.kept HW.out G2.out (fun e => hn (Option.some.inj e))))
 go_wp2_with ((with_reducible refine wpList_loadWo ?_ (.tmp 1) ?_ gw 0 u v z ?_ HRG2.out ?_); (exact rfl); (exact rfl); (exact rfl))
 refine (checkWo_any _ _ _ o _ (HO.out.ext HE2.out) HZ.out).mono ?_
 rintro e w3 ⟨rfl, he⟩
 have HE3 := Lib.hid (HE2.out.trans he)
 go_wp2_with fail
 go_ret
 exact ⟨rfl, below_put HL.out G2.out he, _, Cs.ext K2.out he, ⟨_, _, _, _, _, _, _, rfl, HO.out.ext HE3.out, HX.out.ext HE3.out, HM.out.ext HE3.out⟩⟩

set_option maxRecDepth 100000 in
set_option maxHeartbeats 8000000 in
theorem layJ_any (xu xv xz xa xs xq xm u v z : Value) (j : Jn) (o : Wo) (w : World) (hx : WoR w xu xv xz j.p.w ∧ AxR w xa xs xq j.p.x ∧ Pos w xm j.m) (hz : SzJ j) (ho : WoR w u v z o) (hs : SzW o) :
  Calls Tryz.prog 30 #[.agg #[xu, xv, xz, xa, xs, xq, xm], .agg #[u, v, z]] w fun e w' => ∃ v', e = .returned (.tuple #[v', .int .i64 (layJ j o).2]) ∧ RetJn w.heap.size w' v' (layJ j o).1 ∧ Ext w w' := by
 have HX := Lib.hid hx
 have HZ := Lib.hid hz
 have HO := Lib.hid ho
 have HSO := Lib.hid hs
 have HON : Hid ((#[xu, xv, xz, xa, xs, xq, xm] : Array Value).all (·.oneCell') = true) := Lib.hid (by
  obtain ⟨y1, y2, y3⟩ := axr_one hx.2.1
  have y4 := acs_one hx.1.1
  have y5 := hds_one hx.1.2.1
  have y6 := nns_one hx.1.2.2
  have y7 := pos_one hx.2.2
  simp [y1, y2, y3, y4, y5, y6, y7])
 have HON2 := Lib.hid (show (#[u, v, z] : Array Value).all (·.oneCell') = true from (by simp [acs_one ho.1, hds_one ho.2.1, nns_one ho.2.2]))
 obtain ⟨w0, hw0⟩ : ∃ w0, ((w.alloc (.cells #[xu, xv, xz, xa, xs, xq, xm] 40)).alloc (.cells #[u, v, z] 30)).alloc (.cells #[.slice none 0 0, .slice none 0 0, .slice none 0 0, .slice none 0 0, .slice none 0 0, .slice none 0 0, .slice none 0 0] 40) = w0 := ⟨_, rfl⟩
 have HC0 : Hid (Cs w0 w.heap.size 40 #[xu, xv, xz, xa, xs, xq, xm]) := Lib.hid (by rw [← hw0]; exact Cs.alloc (Cs.alloc (Cs.new _ _ _ _ rfl) _) _)
 have HQ0 : Hid (Cs w0 (w.heap.size + 1) 30 #[u, v, z]) := Lib.hid (by rw [← hw0]; exact Cs.alloc (Cs.new _ _ _ _ (by simp)) _)
 have HR0 : Hid (Cs w0 (w.heap.size + 1 + 1) 40 #[.slice none 0 0, .slice none 0 0, .slice none 0 0, .slice none 0 0, .slice none 0 0, .slice none 0 0, .slice none 0 0]) := Lib.hid (by rw [← hw0]; exact Cs.new _ _ _ _ (by simp))
 have HE0 : Hid (Ext w w0) := Lib.hid (by rw [← hw0]; exact (((Ext.refl w).alloc _).alloc _).alloc _)
 have HL0 := Lib.hid (show w.heap.size + 1 + 1 < w0.heap.size from HR0.out.lt)
 have HW0 := Lib.hid hw0
 have HDF : Hid (layJ j o = jchg j (chkWo o) ⟨⟨o, j.p.x⟩, j.m⟩) := Lib.hid rfl
 have HO1 := HON.out
 have HO2 := HON2.out
 clear hx hw0 hz ho hs
 go_enter Tryz.func30, Tryz.ntmps30
 go_upto_region 1 with fail
 rw [HW0.out]
 clear HW0 HO1 HO2
 have HRG := Lib.hid (Cs.rg HC0.out)
 go_wp2_with ((with_reducible refine wpList_loadJn ?_ (.tmp 2) ?_ w.heap.size 0 xu xv xz xa xs xq xm ?_ HRG.out ?_); (exact rfl); (exact rfl); (exact rfl))
 refine (jchanged_any _ _ _ _ _ _ _ j 74 _ (chkWo o) ⟨⟨o, j.p.x⟩, j.m⟩ _ ⟨HX.out.1.ext HE0.out, HX.out.2.1.ext HE0.out, HX.out.2.2.ext HE0.out⟩ HZ.out (fun hr h => layJ_sz HZ.out HSO.out hr h) (enters_of Tryz.func74 (by kernel_rfl) rfl) ?_).mono ?_
 ·intro hr W g hW hg hc
  refine (lay1_any g (w.heap.size + 1) _ _ _ _ _ _ _ u v z j o w0 W hW hg (by have := HL0.out; omega) hc (Cs.ext HQ0.out hW) (HX.out.2.1.ext HE0.out) (HX.out.2.2.ext HE0.out) (HO.out.ext HE0.out) HSO.out).mono ?_
  rintro e w' ⟨rfl, h1, h2⟩
  exact ⟨rfl, h1, fun _ => h2⟩
 rintro e w1 ⟨v1, rfl, ho, he⟩
 rw [← HDF.out]
 rw [← HDF.out] at ho
 obtain ⟨a1, b1, c1, d1, e1, f1', m1, rfl, ho⟩ := retJn_shp ho
 have HE1 := Lib.hid (HE0.out.trans he)
 have HR1 := Lib.hid (Cs.ext HR0.out he)
 have HA1 := Lib.hid ho
 clear he ho HC0 HQ0 HR0 HRG
 go_wp2_with ((with_reducible refine wpList_storeJn ?_ ?_ (.tmp 4) (.tmp 9) ?_ (w.heap.size + 1 + 1) (.slice none 0 0) (.slice none 0 0) (.slice none 0 0) (.slice none 0 0) (.slice none 0 0) (.slice none 0 0) (.slice none 0 0) a1 b1 c1 d1 e1 f1' m1 ?_ ?_ HA1.out.one HR1.out ?_); (exact rfl); (exact rfl); (exact rfl); (exact rfl); (exact rfl); intro w3 k3 g3; have K3 := Lib.hid k3; have G3 := Lib.hid g3; clear k3 g3)
 refine bodyPost_ret (results_jnt Tryz.results30 _ _ (w.heap.size + 1 + 1) _ _ _ _ _ _ _ rfl K3.out) rfl ?_
 exact ⟨_, rfl, (HA1.out.old G3.out HL0.out).low HE0.out.size, HE1.out.grown G3.out (by omega)⟩
set_option maxRecDepth 100000 in
set_option maxHeartbeats 8000000 in
theorem tch1_any (g gw : Nat) (xu xv xz xa xs xq xm u v z : Value) (j : Jn) (x : Ax) (w W : World) (hE : Ext w W) (hg : w.heap.size ≤ g) (hn : gw ≠ g) (hc : Cs W g 40 #[xu, xv, xz, xa, xs, xq, xm]) (hw : Cs W gw 35 #[u, v, z]) (hx : WoR w xu xv xz j.p.w) (hm : Pos w xm j.m) (ho : AxR w u v z x)  :
  Calls Tryz.prog 75 #[.pointer (some ⟨g, 0, none⟩), .pointer (some ⟨gw, 0, none⟩)] W fun e w' => e = .returned (.int .i64 (tchE x)) ∧ Below g W w' ∧ (tchE x = 0 → ∃ cs, Cs w' g 40 cs ∧ JnR w' cs ⟨⟨j.p.w, x⟩, j.m⟩) := by
 have HX := Lib.hid hx
 have HM := Lib.hid hm
 have HO := Lib.hid ho
 have HE := Lib.hid hE
 have HL := Lib.hid hc.lt
 have HC := Lib.hid hc
 have HW := Lib.hid hw
 have HON := Lib.hid (show (#[u, v, z] : Array Value).all (·.oneCell') = true from (by obtain ⟨y1, y2, y3⟩ := axr_one ho; simp [y1, y2, y3]))
 have HRG := Lib.hid (Cs.rg hw)
 clear hx hm ho hE hc hw
 go_enter Tryz.func75, Tryz.ntmps75
 go_upto_region 2 with (first
  | ((with_reducible refine wpList_loadXk ?_ (.tmp 1) ?_ gw 0 u v z ?_ HRG.out ?_); (exact rfl); (exact rfl); (exact rfl))
  | ((with_reducible refine wpList_store_in ?_ ?_ 35 (.tmp 8) (.tmp 5) ?_ g 3 40 #[xu, xv, xz, xa, xs, xq, xm] #[u, v, z] ?_ ?_ ?_ ?_ ?_ ?_ ?_); (exact rfl); (exact rfl); (exact rfl); (exact rfl); (exact rfl); (exact HC.out); (exact infoXk); (exact (of_decide_eq_true rfl)); (exact HON.out); intro w2 k2 g2; have K2 : Hid (Cs w2 g 40 #[xu, xv, xz, u, v, z, xm]) := Lib.hid k2; have G2 := Lib.hid g2; clear k2 g2))
 have HE2 := Lib.hid (HE.out.grown G2.out hg)
 have HRG2 := Lib.hid (Cs.rg (Cs.kept HW.out G2.out (fun e => hn (Option.some.inj e))))
 go_wp2_with ((with_reducible refine wpList_loadXk ?_ (.tmp 1) ?_ gw 0 u v z ?_ HRG2.out ?_); (exact rfl); (exact rfl); (exact rfl))
 refine (checkX_any _ _ _ x _ ⟨HO.out.1.ext HE2.out, HO.out.2.1.ext HE2.out, HO.out.2.2.ext HE2.out⟩).mono ?_
 rintro e w3 ⟨rfl, he⟩
 have HE3 := Lib.hid (HE2.out.trans he)
 have HK : Hid (tchE x = if rightX x then 0 else 200) := Lib.hid rfl
 have HEE := Lib.hid he
 cases hr : rightX x with
 | true =>
  have h1 : chkX x = 0 := by unfold chkX; rw [hr]; rfl
  have HT := Lib.hid (show tchE x = 0 by rw [HK.out, hr]; rfl)
  rw [h1]
  clear h1 hr
  go_wp2_with fail
  go_ret
  exact ⟨by rw [HT.out]; rfl, below_put HL.out G2.out HEE.out, fun _ => ⟨_, Cs.ext K2.out HEE.out, ⟨_, _, _, _, _, _, _, rfl, HX.out.ext HE3.out, HO.out.ext HE3.out, HM.out.ext HE3.out⟩⟩⟩
 | false =>
  have h1 : chkX x = 190 := by unfold chkX; rw [hr]; rfl
  have HT := Lib.hid (show tchE x = 200 by rw [HK.out, hr]; rfl)
  rw [h1]
  clear h1 hr
  go_wp2_with fail
  go_ret
  exact ⟨by rw [HT.out]; rfl, below_put HL.out G2.out HEE.out, fun h => absurd h (by rw [HT.out]; decide)⟩

set_option maxRecDepth 100000 in
set_option maxHeartbeats 8000000 in
theorem tchJ_any (xu xv xz xa xs xq xm u v z : Value) (j : Jn) (x : Ax) (w : World) (hx : WoR w xu xv xz j.p.w ∧ AxR w xa xs xq j.p.x ∧ Pos w xm j.m) (hz : SzJ j) (ho : AxR w u v z x)  :
  Calls Tryz.prog 31 #[.agg #[xu, xv, xz, xa, xs, xq, xm], .agg #[u, v, z]] w fun e w' => ∃ v', e = .returned (.tuple #[v', .int .i64 (tchJ j x).2]) ∧ RetJn w.heap.size w' v' (tchJ j x).1 ∧ Ext w w' := by
 have HX := Lib.hid hx
 have HZ := Lib.hid hz
 have HO := Lib.hid ho
 have HON : Hid ((#[xu, xv, xz, xa, xs, xq, xm] : Array Value).all (·.oneCell') = true) := Lib.hid (by
  obtain ⟨y1, y2, y3⟩ := axr_one hx.2.1
  have y4 := acs_one hx.1.1
  have y5 := hds_one hx.1.2.1
  have y6 := nns_one hx.1.2.2
  have y7 := pos_one hx.2.2
  simp [y1, y2, y3, y4, y5, y6, y7])
 have HON2 := Lib.hid (show (#[u, v, z] : Array Value).all (·.oneCell') = true from (by obtain ⟨y1, y2, y3⟩ := axr_one ho; simp [y1, y2, y3]))
 obtain ⟨w0, hw0⟩ : ∃ w0, ((w.alloc (.cells #[xu, xv, xz, xa, xs, xq, xm] 40)).alloc (.cells #[u, v, z] 35)).alloc (.cells #[.slice none 0 0, .slice none 0 0, .slice none 0 0, .slice none 0 0, .slice none 0 0, .slice none 0 0, .slice none 0 0] 40) = w0 := ⟨_, rfl⟩
 have HC0 : Hid (Cs w0 w.heap.size 40 #[xu, xv, xz, xa, xs, xq, xm]) := Lib.hid (by rw [← hw0]; exact Cs.alloc (Cs.alloc (Cs.new _ _ _ _ rfl) _) _)
 have HQ0 : Hid (Cs w0 (w.heap.size + 1) 35 #[u, v, z]) := Lib.hid (by rw [← hw0]; exact Cs.alloc (Cs.new _ _ _ _ (by simp)) _)
 have HR0 : Hid (Cs w0 (w.heap.size + 1 + 1) 40 #[.slice none 0 0, .slice none 0 0, .slice none 0 0, .slice none 0 0, .slice none 0 0, .slice none 0 0, .slice none 0 0]) := Lib.hid (by rw [← hw0]; exact Cs.new _ _ _ _ (by simp))
 have HE0 : Hid (Ext w w0) := Lib.hid (by rw [← hw0]; exact (((Ext.refl w).alloc _).alloc _).alloc _)
 have HL0 := Lib.hid (show w.heap.size + 1 + 1 < w0.heap.size from HR0.out.lt)
 have HW0 := Lib.hid hw0
 have HDF : Hid (tchJ j x = jchg j (tchE x) ⟨⟨j.p.w, x⟩, j.m⟩) := Lib.hid rfl
 have HO1 := HON.out
 have HO2 := HON2.out
 clear hx hw0 hz ho
 go_enter Tryz.func31, Tryz.ntmps31
 go_upto_region 1 with fail
 rw [HW0.out]
 clear HW0 HO1 HO2
 have HRG := Lib.hid (Cs.rg HC0.out)
 go_wp2_with ((with_reducible refine wpList_loadJn ?_ (.tmp 2) ?_ w.heap.size 0 xu xv xz xa xs xq xm ?_ HRG.out ?_); (exact rfl); (exact rfl); (exact rfl))
 refine (jchanged_any _ _ _ _ _ _ _ j 75 _ (tchE x) ⟨⟨j.p.w, x⟩, j.m⟩ _ ⟨HX.out.1.ext HE0.out, HX.out.2.1.ext HE0.out, HX.out.2.2.ext HE0.out⟩ HZ.out (fun hr h => tchJ_sz HZ.out hr h) (enters_of Tryz.func75 (by kernel_rfl) rfl) ?_).mono ?_
 ·intro hr W g hW hg hc
  refine (tch1_any g (w.heap.size + 1) _ _ _ _ _ _ _ u v z j x w0 W hW hg (by have := HL0.out; omega) hc (Cs.ext HQ0.out hW) (HX.out.1.ext HE0.out) (HX.out.2.2.ext HE0.out) (HO.out.ext HE0.out)).mono ?_
  rintro e w' ⟨rfl, h1, h2⟩
  exact ⟨rfl, h1, h2⟩
 rintro e w1 ⟨v1, rfl, ho, he⟩
 rw [← HDF.out]
 rw [← HDF.out] at ho
 obtain ⟨a1, b1, c1, d1, e1, f1', m1, rfl, ho⟩ := retJn_shp ho
 have HE1 := Lib.hid (HE0.out.trans he)
 have HR1 := Lib.hid (Cs.ext HR0.out he)
 have HA1 := Lib.hid ho
 clear he ho HC0 HQ0 HR0 HRG
 go_wp2_with ((with_reducible refine wpList_storeJn ?_ ?_ (.tmp 4) (.tmp 9) ?_ (w.heap.size + 1 + 1) (.slice none 0 0) (.slice none 0 0) (.slice none 0 0) (.slice none 0 0) (.slice none 0 0) (.slice none 0 0) (.slice none 0 0) a1 b1 c1 d1 e1 f1' m1 ?_ ?_ HA1.out.one HR1.out ?_); (exact rfl); (exact rfl); (exact rfl); (exact rfl); (exact rfl); intro w3 k3 g3; have K3 := Lib.hid k3; have G3 := Lib.hid g3; clear k3 g3)
 refine bodyPost_ret (results_jnt Tryz.results31 _ _ (w.heap.size + 1 + 1) _ _ _ _ _ _ _ rfl K3.out) rfl ?_
 exact ⟨_, rfl, (HA1.out.old G3.out HL0.out).low HE0.out.size, HE1.out.grown G3.out (by omega)⟩
end Go.Proofs.YtnjpdchmdimaaaaGreat
