/- AccessNews: of whatever addresses a new access is as the document says; the order of spots. -/
import Derived.Test.YtjampleddeidaaaAec
import Derived.Test.YtjampleddeidaaaAei
import Derived.Test.YtjampleddeidaaaAer
import Derived.Test.YtjampleddeidaaaAds
namespace Go.Proofs.Ytjampleddeidaaa
open Go.ChangeShapes Go.WideShapes Go.ChangeAt Go.RowKit Go.Shelf

set_option maxRecDepth 100000 in
theorem refSortedX_any (v : Value) (l : List Pe) (w : World) (hs : XA w v l) (hl : l.length ≤ 1000000) : Calls Try.prog 41 #[v] w fun e w' => ∃ v', e = .returned v' ∧ OwnA w' w.heap.size v' (srX l) ∧ Ext w w' := by
  refine (refSorted_any v (l.map adI) w hs.az (by rw [List.length_map]; exact hl)).mono ?_
  rintro e w' ⟨v', r, rfl, hr, ho, he⟩
  have hr2 := hr.unique (srX_SR hs.oks2)
  subst hr2
  refine ⟨v', rfl, ⟨?_, fun p hp => hs.oks2 p ((mem_srX hs.oks2 p).1 hp)⟩, he⟩
  have := ho
  unfold AzO at this
  rw [List.length_map, ← fA_az] at this
  exact this
def snX (l : List Pe) : Ax := ⟨srX l, [], []⟩
set_option maxRecDepth 100000 in
set_option maxHeartbeats 4000000 in
theorem refNewX_any (v : Value) (l : List Pe) (w : World) (hs : XA w v l) (hl : l.length ≤ 1000000) : Calls Try.prog 20 #[v] w fun e w' => ∃ v', e = .returned (.tuple #[v', .bool (decide ((srX l).length ≤ 400))]) ∧ RetX w.heap.size w' v' (snX l) ∧ Ext w w' := by
  obtain ⟨w0, hw0⟩ : ∃ w0, w.alloc (.cells #[.slice none 0 0, .slice none 0 0, .slice none 0 0] 26) = w0 := ⟨_, rfl⟩
  have HR0 : Hid (Cs w0 w.heap.size 26 #[.slice none 0 0, .slice none 0 0, .slice none 0 0]) := Lib.hid (by rw [← hw0]; exact Cs.new _ _ _ _ rfl)
  have HE0 : Hid (Ext w w0) := Lib.hid (by rw [← hw0]; exact (Ext.refl w).alloc _)
  have HW0 := Lib.hid hw0
  have HSO := Lib.hid (refSortedX_any v l w0 (hs.ext HE0.out) hl)
  clear hs hw0
  go_enter Try.func20, Try.ntmps20
  go_upto_region 1 with fail
  rw [HW0.out]
  clear HW0
  go_wp2_with fail
  refine HSO.out.mono ?_
  rintro e w1 ⟨v1, rfl, ho, he⟩
  have HO := Lib.hid (ho.mono HE0.out.size)
  have HR1 := Lib.hid (Cs.ext HR0.out he)
  have HE1 := Lib.hid (HE0.out.trans he)
  obtain ⟨A1, c1, rfl, _, _⟩ := ho.sl
  clear ho he HSO HR0
  have HD : Hid (decide (((srX l).length : Int) ≤ 400) = decide ((srX l).length ≤ 400)) := Lib.hid (by simp; omega)
  go_wp2_with ((with_reducible refine wpList_storeX ?_ ?_ (.tmp 2) (.tmp 8) ?_ w.heap.size (.slice none 0 0) (.slice none 0 0) (.slice none 0 0) (.slice A1 (srX l).length c1) (.slice none 0 0) (.slice none 0 0) ?_ ?_ rfl rfl rfl HR1.out ?_); (exact rfl); (exact rfl); (exact rfl); (exact rfl); (exact rfl); intro w3 k3 g3; have K3 := Lib.hid k3; have G3 := Lib.hid g3; clear k3 g3)
  refine bodyPost_ret (results_ax2 Try.results20 _ _ w.heap.size _ _ _ rfl K3.out) rfl ?_
  exact ⟨_, by rw [← HD.out]; rfl, ⟨_, _, _, rfl, HO.out.keptT G3.out HR1.out (by decide), OwnS.nil _ _, OwnP.nil _ _⟩, HE1.out.grown G3.out (Nat.le_refl _)⟩
set_option maxRecDepth 100000 in
theorem cmp_same (a : Nat) : cmpN a a = 0 := by unfold cmpN; simp
set_option maxRecDepth 100000 in
theorem cmp_less {a b : Nat} (h : a < b) : cmpN a b = -1 := by unfold cmpN; rw [if_pos h]
set_option maxRecDepth 100000 in
theorem cmp_more {a b : Nat} (h : ¬ a < b) (h2 : a ≠ b) : cmpN a b = 1 := by unfold cmpN; rw [if_neg h, if_pos (by omega)]
set_option maxRecDepth 100000 in
theorem eqS_codS {p q : Pe} (hk : p.key < M256) (hj : q.key < M256) : p.eqS q = decide (p.cod = q.cod) := by
  by_cases h : p.cod = q.cod
  · obtain ⟨h1, h2⟩ := cdN_inj hk hj (show cdN p.addr p.key = cdN q.addr q.key from h)
    rw [decide_eq_true h]
    unfold Pe.eqS
    rw [h1, h2, beq_self_eq_true, beq_self_eq_true, Bool.and_true]
  · rw [decide_eq_false h]
    cases he : p.eqS q with
    | false => rfl
    | true =>
      unfold Pe.eqS at he
      rw [Bool.and_eq_true, beq_iff_eq, beq_iff_eq] at he
      exact absurd (show cdN p.addr p.key = cdN q.addr q.key by rw [he.1, he.2]) h
set_option maxRecDepth 100000 in
set_option maxHeartbeats 16000000 in
theorem accessNews_any (v : Value) (l : List Pe) (a b : Pe) (w : World) (hs : XA w v l) (ha : okS a) (hb : okS b) : Calls Try.prog 4 #[v, .agg (cS a), .agg (cS b)] w (RetT w) := by
  have HS := Lib.hid hs
  have HA := Lib.hid ha
  have HB := Lib.hid hb
  have HKA := Lib.hid (show a.key < M256 from ha.2.1)
  have HKB := Lib.hid (show b.key < M256 from hb.2.1)
  obtain ⟨A0, c0, rfl, h1, h2⟩ := hs.len
  unfold maxLen at h2
  obtain ⟨w0, hw0⟩ : ∃ w0, (w.alloc (.cells (cS a) 32)).alloc (.cells (cS b) 32) = w0 := ⟨_, rfl⟩
  have G4 : Hid (Cs w0 w.heap.size 32 (cS a)) := Lib.hid (by rw [← hw0]; exact Cs.alloc (Cs.new _ _ _ _ rfl) _)
  have G5 : Hid (Cs w0 (w.heap.size + 1) 32 (cS b)) := Lib.hid (by rw [← hw0]; exact Cs.new _ _ _ _ (by simp))
  have HE : Hid (Ext w w0) := Lib.hid (by rw [← hw0]; exact ((Ext.refl w).alloc _).alloc _)
  obtain ⟨ac, hac⟩ : ∃ c, cS a = c := ⟨_, rfl⟩
  obtain ⟨bc, hbc⟩ : ∃ c, cS b = c := ⟨_, rfl⟩
  rw [hac, hbc] at hw0 ⊢
  have HW0 := Lib.hid hw0
  clear hs ha hb hw0 hac hbc
  go_enter Try.func4, Try.ntmps4
  go_upto_region 1 with fail
  rw [HW0.out]
  clear HW0
  obtain ⟨g4, hg4⟩ : ∃ g, w.heap.size = g := ⟨_, rfl⟩
  obtain ⟨g5, hg5⟩ : ∃ g, w.heap.size + 1 = g := ⟨_, rfl⟩
  rw [hg5] at G5 ⊢
  rw [hg4] at G4 ⊢
  clear hg4 hg5
  go_wp2_with fail
  refine (wakesX_any _).mono ?_
  rintro e w1 ⟨rfl, he⟩
  have HE := Lib.hid (HE.out.trans he)
  have G4 := Lib.hid (Cs.ext G4.out he)
  have G5 := Lib.hid (Cs.ext G5.out he)
  clear he
  by_cases hl : 600 < l.length
  · have d1 : decide ((600 : Int) < (l.length : Int)) = true := decide_eq_true (by omega)
    clear hl
    go_wp2_with fail
    refine bodyPost_ret (results_tmp rfl _ _ _) rfl ?_
    exact ⟨rfl, HE.out⟩
  have d1 : decide ((600 : Int) < (l.length : Int)) = false := decide_eq_false (by omega)
  have HL := Lib.hid (show l.length ≤ 600 by omega)
  clear hl
  go_wp2_with fail
  clear d1
  refine (newX_any _ l _ (HS.out.ext HE.out) (by have := HL.out; omega)).mono ?_
  rintro e w2 ⟨v2, rfl, hr, he⟩
  have HE := Lib.hid (HE.out.trans he)
  have G4 := Lib.hid (Cs.ext G4.out he)
  have G5 := Lib.hid (Cs.ext G5.out he)
  obtain ⟨a1, s1, p1, rfl, hx1, y1, y2, y3⟩ := hr.ax
  have HX1 := Lib.hid hx1
  have Ya1 := Lib.hid y1
  have Yb1 := Lib.hid y2
  have Yc1 := Lib.hid y3
  clear hr he hx1 y1 y2 y3
  go_wp2_with ((with_reducible refine wpList_storeX ?_ ?_ (.tmp 7) (.tmp 20) ?_ w2.heap.size (.slice none 0 0) (.slice none 0 0) (.slice none 0 0) a1 s1 p1 ?_ ?_ Ya1.out Yb1.out Yc1.out (Cs.new _ _ _ _ rfl) ?_); (exact rfl); (exact rfl); (exact rfl); (exact rfl); (exact rfl); intro u1 k1 g1; have E1 := Lib.hid (((Ext.refl w2).alloc _).grown g1 (Nat.le_refl _)); have HE := Lib.hid (HE.out.trans E1.out); have G4 := Lib.hid (Cs.ext G4.out E1.out); have G5 := Lib.hid (Cs.ext G5.out E1.out); have KB1 := Lib.hid k1; have HX1 := Lib.hid (HX1.out.ext E1.out); clear k1 g1)
  refine (refNewX_any _ l _ (HS.out.ext HE.out) (by have := HL.out; omega)).mono ?_
  rintro e w3 ⟨v3, rfl, hr, he⟩
  have HE := Lib.hid (HE.out.trans he)
  have G4 := Lib.hid (Cs.ext G4.out he)
  have G5 := Lib.hid (Cs.ext G5.out he)
  have KB1 := Lib.hid (Cs.ext KB1.out he)
  have HX1 := Lib.hid (HX1.out.ext he)
  obtain ⟨a2, s2, p2, rfl, hx2, y1, y2, y3⟩ := hr.ax
  have HX2 := Lib.hid hx2
  have Ya2 := Lib.hid y1
  have Yb2 := Lib.hid y2
  have Yc2 := Lib.hid y3
  clear hr he hx2 y1 y2 y3
  by_cases hm : (srX l).length ≤ 400
  · have HNX := Lib.hid (show newX l = (snX l, 0) by unfold newX; rw [if_neg (by omega)]; rfl)
    have d1 : decide ((srX l).length ≤ 400) = true := decide_eq_true hm
    rw [HNX.out] at HX1 ⊢
    dsimp only at HX1 ⊢
    rw [d1]
    clear hm d1
    go_wp2_with (first | ((with_reducible refine wpList_storeX ?_ ?_ (.tmp 9) (.tmp 25) ?_ w3.heap.size (.slice none 0 0) (.slice none 0 0) (.slice none 0 0) a2 s2 p2 ?_ ?_ Ya2.out Yb2.out Yc2.out (Cs.new _ _ _ _ rfl) ?_); (exact rfl); (exact rfl); (exact rfl); (exact rfl); (exact rfl); intro u2 k2 g2; have E2 := Lib.hid (((Ext.refl w3).alloc _).grown g2 (Nat.le_refl _)); have HE := Lib.hid (HE.out.trans E2.out); have G4 := Lib.hid (Cs.ext G4.out E2.out); have G5 := Lib.hid (Cs.ext G5.out E2.out); have KB2 := Lib.hid k2; have HX2 := Lib.hid (HX2.out.ext E2.out); have KB1 := Lib.hid (Cs.ext KB1.out E2.out); have HX1 := Lib.hid (HX1.out.ext E2.out); clear k2 g2) | ((with_reducible refine wpList_loadX ?_ (.tmp 7) ?_ w2.heap.size a1 s1 p1 ?_ KB1.out ?_); (exact rfl); (exact rfl); (exact rfl)) | ((with_reducible refine wpList_loadX ?_ (.tmp 9) ?_ w3.heap.size a2 s2 p2 ?_ KB2.out ?_); (exact rfl); (exact rfl); (exact rfl)))
    refine (refSameX_any _ _ _ _ _ _ _ _ _ HX1.out HX2.out).mono ?_
    rintro e w4 ⟨rfl, he⟩
    rw [sameX_iff.2 rfl]
    have HE := Lib.hid (HE.out.trans he)
    have G4 := Lib.hid (Cs.ext G4.out he)
    have G5 := Lib.hid (Cs.ext G5.out he)
    clear he
    have R4 := Lib.hid (Cs.rg G4.out)
    have R5 := Lib.hid (Cs.rg G5.out)
    cases hab : a.eqS b with
    | true =>
      have HAB := Lib.hid hab
      have HC0 := Lib.hid (show cmpN a.cod b.cod = 0 by rw [eq_spot HA.out HB.out hab]; exact cmp_same _)
      clear hab
      go_wp2_with (first | ((with_reducible refine wpList_loadS ?_ (.tmp 4) ?_ g4 0 a ?_ ?_ ?_); (exact rfl); (exact rfl); (exact rfl); (exact R4.out)) | ((with_reducible refine wpList_loadS ?_ (.tmp 5) ?_ g5 0 b ?_ ?_ ?_); (exact rfl); (exact rfl); (exact rfl); (exact R5.out)) | ((with_reducible refine wpList_eqlS ?_ (.tmp 52) (.tmp 53) ?_ a b HKA.out HKB.out ?_ ?_ ?_); (exact rfl); (exact rfl); (exact rfl); (exact rfl); rw [HAB.out]))
      refine (compareSp_any a b _ HA.out.2.1 HB.out.2.1).mono ?_
      rintro e wz ⟨rfl, he⟩
      have HE := Lib.hid (HE.out.trans he)
      clear he
      rw [HC0.out]
      go_wp2_with fail
      refine bodyPost_ret (results_tmp rfl _ _ _) rfl ?_
      exact ⟨rfl, HE.out⟩
    | false =>
      have HAB := Lib.hid hab
      clear hab
      go_upto_region 12 with (first | ((with_reducible refine wpList_loadS ?_ (.tmp 4) ?_ g4 0 a ?_ ?_ ?_); (exact rfl); (exact rfl); (exact rfl); (exact R4.out)) | ((with_reducible refine wpList_loadS ?_ (.tmp 5) ?_ g5 0 b ?_ ?_ ?_); (exact rfl); (exact rfl); (exact rfl); (exact R5.out)) | ((with_reducible refine wpList_eqlS ?_ (.tmp 52) (.tmp 53) ?_ a b HKA.out HKB.out ?_ ?_ ?_); (exact rfl); (exact rfl); (exact rfl); (exact rfl); rw [HAB.out]))
      go_wp2_with (first | ((with_reducible refine wpList_loadS ?_ (.tmp 4) ?_ g4 0 a ?_ ?_ ?_); (exact rfl); (exact rfl); (exact rfl); (exact R4.out)) | ((with_reducible refine wpList_loadS ?_ (.tmp 5) ?_ g5 0 b ?_ ?_ ?_); (exact rfl); (exact rfl); (exact rfl); (exact R5.out)))
      refine (refBefore_any a b _ HA.out HB.out).mono ?_
      rintro e wb ⟨rfl, he⟩
      have HNE := Lib.hid (show a.cod ≠ b.cod from fun e => by have hab := HAB.out; rw [eqS_codS HA.out.2.1 HB.out.2.1, decide_eq_true e] at hab; cases hab)
      have HE := Lib.hid (HE.out.trans he)
      have R4 := Lib.hid (Cs.rg (Cs.ext G4.out he))
      have R5 := Lib.hid (Cs.rg (Cs.ext G5.out he))
      clear he
      by_cases hlt : a.cod < b.cod
      · have HC1 := Lib.hid (cmp_less hlt)
        rw [decide_eq_true hlt]
        clear hlt
        go_wp2_with (first | ((with_reducible refine wpList_loadS ?_ (.tmp 4) ?_ g4 0 a ?_ ?_ ?_); (exact rfl); (exact rfl); (exact rfl); (exact R4.out)) | ((with_reducible refine wpList_loadS ?_ (.tmp 5) ?_ g5 0 b ?_ ?_ ?_); (exact rfl); (exact rfl); (exact rfl); (exact R5.out)))
        refine (compareSp_any a b _ HA.out.2.1 HB.out.2.1).mono ?_
        rintro e wz ⟨rfl, he⟩
        have HE := Lib.hid (HE.out.trans he)
        clear he
        rw [HC1.out]
        go_wp2_with fail
        refine bodyPost_ret (results_tmp rfl _ _ _) rfl ?_
        exact ⟨rfl, HE.out⟩
      · have HC1 := Lib.hid (cmp_more hlt HNE.out)
        rw [decide_eq_false hlt]
        clear hlt
        go_wp2_with (first | ((with_reducible refine wpList_loadS ?_ (.tmp 4) ?_ g4 0 a ?_ ?_ ?_); (exact rfl); (exact rfl); (exact rfl); (exact R4.out)) | ((with_reducible refine wpList_loadS ?_ (.tmp 5) ?_ g5 0 b ?_ ?_ ?_); (exact rfl); (exact rfl); (exact rfl); (exact R5.out)))
        refine (compareSp_any a b _ HA.out.2.1 HB.out.2.1).mono ?_
        rintro e wz ⟨rfl, he⟩
        have HE := Lib.hid (HE.out.trans he)
        clear he
        rw [HC1.out]
        go_wp2_with fail
        refine bodyPost_ret (results_tmp rfl _ _ _) rfl ?_
        exact ⟨rfl, HE.out⟩
  · have HNX := Lib.hid (show newX l = (ax0, 6) by unfold newX; rw [if_pos (by omega)])
    have d1 : decide ((srX l).length ≤ 400) = false := decide_eq_false hm
    rw [HNX.out] at HX1 ⊢
    dsimp only at HX1 ⊢
    rw [d1]
    clear hm d1
    go_wp2_with (first | ((with_reducible refine wpList_storeX ?_ ?_ (.tmp 9) (.tmp 25) ?_ w3.heap.size (.slice none 0 0) (.slice none 0 0) (.slice none 0 0) a2 s2 p2 ?_ ?_ Ya2.out Yb2.out Yc2.out (Cs.new _ _ _ _ rfl) ?_); (exact rfl); (exact rfl); (exact rfl); (exact rfl); (exact rfl); intro u2 k2 g2; have E2 := Lib.hid (((Ext.refl w3).alloc _).grown g2 (Nat.le_refl _)); have HE := Lib.hid (HE.out.trans E2.out); have G4 := Lib.hid (Cs.ext G4.out E2.out); have G5 := Lib.hid (Cs.ext G5.out E2.out); have KB2 := Lib.hid k2; have HX2 := Lib.hid (HX2.out.ext E2.out); have KB1 := Lib.hid (Cs.ext KB1.out E2.out); have HX1 := Lib.hid (HX1.out.ext E2.out); clear k2 g2) | ((with_reducible refine wpList_loadX ?_ (.tmp 7) ?_ w2.heap.size a1 s1 p1 ?_ KB1.out ?_); (exact rfl); (exact rfl); (exact rfl)))
    refine (refSameX_any _ _ _ _ _ _ _ ax0 _ HX1.out ⟨(OwnA.nil _ 0).xs, (OwnS.nil _ 0).xs, (OwnP.nil _ 0).xs⟩).mono ?_
    rintro e w4 ⟨rfl, he⟩
    rw [sameX_iff.2 rfl]
    have HE := Lib.hid (HE.out.trans he)
    have G4 := Lib.hid (Cs.ext G4.out he)
    have G5 := Lib.hid (Cs.ext G5.out he)
    clear he
    have R4 := Lib.hid (Cs.rg G4.out)
    have R5 := Lib.hid (Cs.rg G5.out)
    cases hab : a.eqS b with
    | true =>
      have HAB := Lib.hid hab
      have HC0 := Lib.hid (show cmpN a.cod b.cod = 0 by rw [eq_spot HA.out HB.out hab]; exact cmp_same _)
      clear hab
      go_wp2_with (first | ((with_reducible refine wpList_loadS ?_ (.tmp 4) ?_ g4 0 a ?_ ?_ ?_); (exact rfl); (exact rfl); (exact rfl); (exact R4.out)) | ((with_reducible refine wpList_loadS ?_ (.tmp 5) ?_ g5 0 b ?_ ?_ ?_); (exact rfl); (exact rfl); (exact rfl); (exact R5.out)) | ((with_reducible refine wpList_eqlS ?_ (.tmp 52) (.tmp 53) ?_ a b HKA.out HKB.out ?_ ?_ ?_); (exact rfl); (exact rfl); (exact rfl); (exact rfl); rw [HAB.out]))
      refine (compareSp_any a b _ HA.out.2.1 HB.out.2.1).mono ?_
      rintro e wz ⟨rfl, he⟩
      have HE := Lib.hid (HE.out.trans he)
      clear he
      rw [HC0.out]
      go_wp2_with fail
      refine bodyPost_ret (results_tmp rfl _ _ _) rfl ?_
      exact ⟨rfl, HE.out⟩
    | false =>
      have HAB := Lib.hid hab
      clear hab
      go_upto_region 12 with (first | ((with_reducible refine wpList_loadS ?_ (.tmp 4) ?_ g4 0 a ?_ ?_ ?_); (exact rfl); (exact rfl); (exact rfl); (exact R4.out)) | ((with_reducible refine wpList_loadS ?_ (.tmp 5) ?_ g5 0 b ?_ ?_ ?_); (exact rfl); (exact rfl); (exact rfl); (exact R5.out)) | ((with_reducible refine wpList_eqlS ?_ (.tmp 52) (.tmp 53) ?_ a b HKA.out HKB.out ?_ ?_ ?_); (exact rfl); (exact rfl); (exact rfl); (exact rfl); rw [HAB.out]))
      go_wp2_with (first | ((with_reducible refine wpList_loadS ?_ (.tmp 4) ?_ g4 0 a ?_ ?_ ?_); (exact rfl); (exact rfl); (exact rfl); (exact R4.out)) | ((with_reducible refine wpList_loadS ?_ (.tmp 5) ?_ g5 0 b ?_ ?_ ?_); (exact rfl); (exact rfl); (exact rfl); (exact R5.out)))
      refine (refBefore_any a b _ HA.out HB.out).mono ?_
      rintro e wb ⟨rfl, he⟩
      have HNE := Lib.hid (show a.cod ≠ b.cod from fun e => by have hab := HAB.out; rw [eqS_codS HA.out.2.1 HB.out.2.1, decide_eq_true e] at hab; cases hab)
      have HE := Lib.hid (HE.out.trans he)
      have R4 := Lib.hid (Cs.rg (Cs.ext G4.out he))
      have R5 := Lib.hid (Cs.rg (Cs.ext G5.out he))
      clear he
      by_cases hlt : a.cod < b.cod
      · have HC1 := Lib.hid (cmp_less hlt)
        rw [decide_eq_true hlt]
        clear hlt
        go_wp2_with (first | ((with_reducible refine wpList_loadS ?_ (.tmp 4) ?_ g4 0 a ?_ ?_ ?_); (exact rfl); (exact rfl); (exact rfl); (exact R4.out)) | ((with_reducible refine wpList_loadS ?_ (.tmp 5) ?_ g5 0 b ?_ ?_ ?_); (exact rfl); (exact rfl); (exact rfl); (exact R5.out)))
        refine (compareSp_any a b _ HA.out.2.1 HB.out.2.1).mono ?_
        rintro e wz ⟨rfl, he⟩
        have HE := Lib.hid (HE.out.trans he)
        clear he
        rw [HC1.out]
        go_wp2_with fail
        refine bodyPost_ret (results_tmp rfl _ _ _) rfl ?_
        exact ⟨rfl, HE.out⟩
      · have HC1 := Lib.hid (cmp_more hlt HNE.out)
        rw [decide_eq_false hlt]
        clear hlt
        go_wp2_with (first | ((with_reducible refine wpList_loadS ?_ (.tmp 4) ?_ g4 0 a ?_ ?_ ?_); (exact rfl); (exact rfl); (exact rfl); (exact R4.out)) | ((with_reducible refine wpList_loadS ?_ (.tmp 5) ?_ g5 0 b ?_ ?_ ?_); (exact rfl); (exact rfl); (exact rfl); (exact R5.out)))
        refine (compareSp_any a b _ HA.out.2.1 HB.out.2.1).mono ?_
        rintro e wz ⟨rfl, he⟩
        have HE := Lib.hid (HE.out.trans he)
        clear he
        rw [HC1.out]
        go_wp2_with fail
        refine bodyPost_ret (results_tmp rfl _ _ _) rfl ?_
        exact ⟨rfl, HE.out⟩
set_option maxRecDepth 100000 in
theorem rowN_came {H : Type} {enc : TypeId × Value → H} {W : World} {v : Value} {d : DataW H} {p : List MemPlace}
    (h : DataW.Trod enc Try.prog W 0 (fun _ => true) true 22 v d p) (hv : v.cells.toList = [v]) : ∃ l : List Pe, XA W v l := by
  obtain ⟨fuel, hf⟩ := h
  obtain ⟨s, l, hc, hl⟩ := slice_came (α := Pe) (s := 1) Try.underlying22 (by kernel_rfl) (by decide) RA (fun _ _ _ h => addr_trod h) hf
  rw [hv] at hc
  injection hc with hc _
  rw [hc]
  exact ⟨l, hl⟩
set_option maxRecDepth 100000 in
theorem spotN_came {H : Type} {enc : TypeId × Value → H} {W : World} {base : Nat} {v : Value} {d : DataW H} {p : List MemPlace}
    (hval : Value.okWide Try.prog W .any base 32 v) (h : DataW.Trod enc Try.prog W 0 (fun _ => true) true 32 v d p) : ∃ q : Pe, v = .agg (cS q) ∧ okS q := by
  simp only [Value.okWide, Try.underlying32] at hval
  obtain ⟨cs, rfl, hsz, _⟩ := hval
  obtain ⟨fuel, hf⟩ := h
  obtain ⟨q, hok, e⟩ := spot_trod hf
  have e' : cs = cS q := by
    apply Array.toList_inj.1
    rw [← e]
    rfl
  exact ⟨q, by rw [e'], hok⟩
set_option maxRecDepth 100000 in
theorem accessNews_told (W : World) (args : Array Value) (h : Told Try.f4 W args) : Calls Try.prog 4 args W (RetT W) := by
  obtain ⟨H, enc, base, ds, p, hval, hA⟩ := h
  rw [Try.params4] at hA hval
  obtain ⟨v0, v1, v2, d0, d1, d2, p0, p1, p2, rfl, rfl, rfl, h0, h1, h2⟩ := trodAll_three hA
  obtain ⟨a0, len0, cap0, rfl⟩ := okWide_slice Try.underlying22 (hval 0 _ v0 rfl rfl)
  obtain ⟨l, hl⟩ := rowN_came h0 (by simp [Value.cells])
  obtain ⟨a, rfl, ha⟩ := spotN_came (hval 1 _ v1 rfl rfl) h1
  obtain ⟨b, rfl, hb⟩ := spotN_came (hval 2 _ v2 rfl rfl) h2
  exact accessNews_any _ l a b W hl ha hb

set_option maxRecDepth 100000 in
theorem accessNews_spec (H : Type) : ∀ ds : List (DataW H), ds.length = Try.f4.params.toList.length → Rows.accessNewsSpec.fn H ds = { results := [.lit (.bool true)], args := ds }
  | [_, _, _], _ => rfl
  | [], h | [_], h | [_, _], h | _ :: _ :: _ :: _ :: _, h => by rw [Try.params4] at h; simp at h

set_option maxRecDepth 100000 in
theorem accessNews_holds : Rows.AccessNewsSaid :=
  OpenClaim.holds_of_wide 4 Try.f4 rfl rfl rfl rfl rfl rfl rfl ⟨rfl, rfl, rfl, rfl, rfl⟩ rfl rfl rfl rfl rfl (by kernel_rfl) Try.func4 (by kernel_rfl)
    (of_decide_eq_true (by kernel_rfl)) (by unfold Func.isWrapper; first | (rw [if_pos (by decide +kernel)]; kernel_rfl) | (rw [if_neg (by decide +kernel)]; exact ⟨rfl, rfl⟩))
    (fun os started H enc _ => law_lifted started (by kernel_rfl) Try.func4 rfl rfl (accessNews_spec H) (of_decide_eq_true (by kernel_rfl))
      (ChangeSpec.witness6 (enc := enc) (C := Try.checked) false ⟨#[], #[.slice none 0 0, .agg #[.int .u64 0, .int .u64 0, .int .u64 0, .int .u64 0, .int .u64 0], .agg #[.int .u64 0, .int .u64 0, .int .u64 0, .int .u64 0, .int .u64 0]], []⟩ 8 (by kernel_rfl) (by kernel_rfl) (by kernel_rfl) (by kernel_rfl)) accessNews_told)
end Go.Proofs.Ytjampleddeidaaa
