/- AccessTurned: in whatever order two things are touched, kept, it comes to the same. -/
import Derived.Test.YtjampleddeidaaaAem
import Derived.Test.YtjampleddeidaaaAei
import Derived.Test.YtjampleddeidaaaAec
namespace Go.Proofs.Ytjampleddeidaaa
open Go.ChangeShapes Go.WideShapes Go.ChangeAt Go.RowKit Go.Shelf

set_option maxRecDepth 100000 in
theorem deinfo : (Try.prog.info? 52).map (·.size) = some 10 := by kernel_rfl
set_option maxRecDepth 100000 in
theorem wpList_loadDe {ops : Array Oper} {rest : List Oper} {o : Oper} {a : Act} {w : World} {Q : Exit → Act → World → Prop} (hgd : Region.wanted o (yielded ops a.tmps) = true) (x : Operand) (ho : o.op = .load 52 x)
    (g : Nat) (d : De) (hx : a.eval x = .pointer (some ⟨g, 0, none⟩)) (hg : Cs w g 52 (dec d)) (h : wpList Try.prog ops Q rest (a.put o.dst (.agg (dec d))) w) : wpList Try.prog ops Q (o :: rest) a w := by
  refine wpList_step fun K hK => ?_
  rw [if_pos hgd]
  refine wp_load_mid 52 x ho g 0 hx (dec d).toList _ (Cs.rg hg) Try.underlying52 rfl deinfo ?_
  exact hK _ _ h
set_option maxRecDepth 100000 in
/-- What the law comes to. -/
theorem turn_same {x : Ax} {a b : De} (ha : a.ok) (hb : b.ok) (hs : kdE a = 2 → kdE b = 2 → a.q ≠ b.q) (h1 : (doX x a).2.2 = 0) (h2 : (doX x b).2.2 = 0) (h3 : (doX (doX x a).1 b).2.2 = 0) (h4 : (doX (doX x b).1 a).2.2 = 0) : sameX (doX (doX x a).1 b).1 (doX (doX x b).1 a).1 = true :=
  sameX_iff.2 (done_turn ha hb (do_done h1).2 (do_done h3).2 (do_done h2).2 (do_done h4).2 hs)
set_option maxRecDepth 100000 in
set_option maxHeartbeats 16000000 in
theorem accessTurned_any (va vs vp : Value) (x : Ax) (a b : De) (w : World) (hx : AxR w va vs vp x) (ha : a.ok) (hb : b.ok) : Calls Try.prog 7 #[.agg #[va, vs, vp], .agg (dec a), .agg (dec b)] w (RetT w) := by
  have HA := Lib.hid ha
  have HB := Lib.hid hb
  obtain ⟨A1, c1, rfl, _, _⟩ := hx.1.len
  obtain ⟨A2, c2, rfl, _, _⟩ := hx.2.1.len
  obtain ⟨A3, c3, rfl, _, _⟩ := hx.2.2.len
  obtain ⟨w0, hw0⟩ : ∃ w0, ((w.alloc (.cells #[.slice A1 x.a.length c1, .slice A2 x.s.length c2, .slice A3 x.p.length c3] 26)).alloc (.cells (dec a) 52)).alloc (.cells (dec b) 52) = w0 := ⟨_, rfl⟩
  have HW0 := Lib.hid hw0
  have G3 : Hid (Cs w0 w.heap.size 26 #[.slice A1 x.a.length c1, .slice A2 x.s.length c2, .slice A3 x.p.length c3]) := Lib.hid (by rw [← hw0]; exact Cs.alloc (Cs.alloc (Cs.new _ _ _ _ rfl) _) _)
  have G4 : Hid (Cs w0 (w.heap.size + 1) 52 (dec a)) := Lib.hid (by rw [← hw0]; exact Cs.alloc (Cs.new _ _ _ _ (by simp)) _)
  have G5 : Hid (Cs w0 (w.heap.size + 1 + 1) 52 (dec b)) := Lib.hid (by rw [← hw0]; exact Cs.new _ _ _ _ (by simp))
  have HE : Hid (Ext w w0) := Lib.hid (by rw [← hw0]; exact (((Ext.refl w).alloc _).alloc _).alloc _)
  have HX := Lib.hid (hx.ext HE.out)
  obtain ⟨ac, hac⟩ : ∃ ac, dec a = ac := ⟨_, rfl⟩
  obtain ⟨bc, hbc⟩ : ∃ bc, dec b = bc := ⟨_, rfl⟩
  rw [hac, hbc] at HW0 ⊢
  clear hx hw0 hac hbc ha hb
  go_enter Try.func7, Try.ntmps7
  go_upto_region 1 with fail
  rw [HW0.out]
  clear HW0
  obtain ⟨g3, hg3⟩ : ∃ g, w.heap.size = g := ⟨_, rfl⟩
  obtain ⟨g4, hg4⟩ : ∃ g, w.heap.size + 1 = g := ⟨_, rfl⟩
  obtain ⟨g5, hg5⟩ : ∃ g, w.heap.size + 1 + 1 = g := ⟨_, rfl⟩
  rw [hg5] at G5 ⊢
  rw [hg4] at G4 ⊢
  rw [hg3] at G3 ⊢
  clear hg3 hg4 hg5
  go_wp2_with fail
  refine (wakesX_any _).mono ?_
  rintro e w1 ⟨rfl, he⟩
  have G3 := Lib.hid (Cs.ext G3.out he)
  have G4 := Lib.hid (Cs.ext G4.out he)
  have G5 := Lib.hid (Cs.ext G5.out he)
  have HX := Lib.hid (HX.out.ext he)
  have HE := Lib.hid (HE.out.trans he)
  clear he
  go_wp2_with ((with_reducible refine wpList_loadX ?_ (.tmp 3) ?_ g3 (.slice A1 x.a.length c1) (.slice A2 x.s.length c2) (.slice A3 x.p.length c3) ?_ G3.out ?_); (exact rfl); (exact rfl); (exact rfl))
  refine (overX_any _ _ _ x _ HX.out).mono ?_
  rintro e w2 ⟨rfl, he⟩
  have G3 := Lib.hid (Cs.ext G3.out he)
  have G4 := Lib.hid (Cs.ext G4.out he)
  have G5 := Lib.hid (Cs.ext G5.out he)
  have HX := Lib.hid (HX.out.ext he)
  have HE := Lib.hid (HE.out.trans he)
  clear he
  cases hov : overX x with
  | true =>
    go_wp2_with fail
    refine bodyPost_ret (results_tmp rfl _ _ _) rfl ?_
    exact ⟨rfl, HE.out⟩
  | false =>
    go_wp2_with ((with_reducible refine wpList_loadX ?_ (.tmp 3) ?_ g3 (.slice A1 x.a.length c1) (.slice A2 x.s.length c2) (.slice A3 x.p.length c3) ?_ G3.out ?_); (exact rfl); (exact rfl); (exact rfl))
    refine (checkX_any _ _ _ x _ HX.out).mono ?_
    rintro e w3 ⟨rfl, he⟩
    have G3 := Lib.hid (Cs.ext G3.out he)
    have G4 := Lib.hid (Cs.ext G4.out he)
    have G5 := Lib.hid (Cs.ext G5.out he)
    have HX := Lib.hid (HX.out.ext he)
    have HE := Lib.hid (HE.out.trans he)
    clear he
    cases hr : rightX x with
    | false =>
      have HK : Hid (chkX x = 190) := Lib.hid (by unfold chkX; rw [hr]; rfl)
      rw [HK.out]
      go_wp2_with fail
      refine bodyPost_ret (results_tmp rfl _ _ _) rfl ?_
      exact ⟨rfl, HE.out⟩
    | true =>
      have HK : Hid (chkX x = 0) := Lib.hid (by unfold chkX; rw [hr]; rfl)
      rw [HK.out]
      clear hr hov HK
      have q4 : w3.cell? ⟨g4, 0, none⟩ = some (.int .i64 a.kind) := G4.out.cell 0 _ rfl
      have q5 : w3.cell? ⟨g5, 0, none⟩ = some (.int .i64 b.kind) := G5.out.cell 0 _ rfl
      by_cases ka : kdE a = 2
      case neg =>
        have HS : Hid (kdE a = 2 → kdE b = 2 → a.q ≠ b.q) := Lib.hid (fun h => absurd h ka)
        have fa : ((IntKind.u64.wrap a.kind).tmod 3 == 2) = false := by rw [beq_eq_false_iff_ne]; exact ka
        clear ka
        go_upto_region 5 with fail
        clear fa q4 q5
        go_wp2_with (first | ((with_reducible refine wpList_loadDe ?_ (.tmp 4) ?_ g4 a ?_ G4.out ?_); (exact rfl); (exact rfl); (exact rfl)) | ((with_reducible refine wpList_loadX ?_ (.tmp 3) ?_ g3 (.slice A1 x.a.length c1) (.slice A2 x.s.length c2) (.slice A3 x.p.length c3) ?_ G3.out ?_); (exact rfl); (exact rfl); (exact rfl)))
        refine (does_any a _ _ _ x _ HA.out HX.out).mono ?_
        rintro e w1 ⟨v1, rfl, hr, he⟩
        obtain ⟨a1, s1, p1, rfl, hx1, y1, y2, y3⟩ := hr.ax
        have G3 := Lib.hid (Cs.ext G3.out he)
        have G4 := Lib.hid (Cs.ext G4.out he)
        have G5 := Lib.hid (Cs.ext G5.out he)
        have HX := Lib.hid (HX.out.ext he)
        have HE := Lib.hid (HE.out.trans he)
        have HX1 := Lib.hid hx1
        have Ya1 := Lib.hid y1
        have Yb1 := Lib.hid y2
        have Yc1 := Lib.hid y3
        clear hr he hx1 y1 y2 y3
        go_wp2_with (first
          | ((with_reducible refine wpList_storeX ?_ ?_ (.tmp 7) (.tmp 51) ?_ w1.heap.size (.slice none 0 0) (.slice none 0 0) (.slice none 0 0) a1 s1 p1 ?_ ?_ Ya1.out Yb1.out Yc1.out (Cs.new _ _ _ _ rfl) ?_); (exact rfl); (exact rfl); (exact rfl); (exact rfl); (exact rfl); intro u1 k1 g1; have E1 := Lib.hid (((Ext.refl w1).alloc _).grown g1 (Nat.le_refl _)); have G3 := Lib.hid (Cs.ext G3.out E1.out); have G4 := Lib.hid (Cs.ext G4.out E1.out); have G5 := Lib.hid (Cs.ext G5.out E1.out); have HX := Lib.hid (HX.out.ext E1.out); have HE := Lib.hid (HE.out.trans E1.out); have HX1 := Lib.hid (HX1.out.ext E1.out); have KB1 := Lib.hid k1; clear k1 g1)
          | ((with_reducible refine wpList_loadDe ?_ (.tmp 5) ?_ g5 b ?_ G5.out ?_); (exact rfl); (exact rfl); (exact rfl))
          | ((with_reducible refine wpList_loadX ?_ (.tmp 3) ?_ g3 (.slice A1 x.a.length c1) (.slice A2 x.s.length c2) (.slice A3 x.p.length c3) ?_ G3.out ?_); (exact rfl); (exact rfl); (exact rfl)))
        refine (does_any b _ _ _ x _ HB.out HX.out).mono ?_
        rintro e w2 ⟨v2, rfl, hr, he⟩
        obtain ⟨a2, s2, p2, rfl, hx2, y1, y2, y3⟩ := hr.ax
        have G3 := Lib.hid (Cs.ext G3.out he)
        have G4 := Lib.hid (Cs.ext G4.out he)
        have G5 := Lib.hid (Cs.ext G5.out he)
        have HX := Lib.hid (HX.out.ext he)
        have HE := Lib.hid (HE.out.trans he)
        have HX1 := Lib.hid (HX1.out.ext he)
        have KB1 := Lib.hid (Cs.ext KB1.out he)
        have HX2 := Lib.hid hx2
        have Ya2 := Lib.hid y1
        have Yb2 := Lib.hid y2
        have Yc2 := Lib.hid y3
        clear hr he hx2 y1 y2 y3
        by_cases h1 : (doX x a).2.2 = 0
        case neg =>
          have f1 : ((doX x a).2.2 != 0) = true := by rw [bne_iff_ne]; exact h1
          have f2 : ((doX x a).2.2 == 0) = false := by rw [beq_eq_false_iff_ne]; exact h1
          clear h1
          go_wp2_with ((with_reducible refine wpList_storeX ?_ ?_ (.tmp 10) (.tmp 58) ?_ w2.heap.size (.slice none 0 0) (.slice none 0 0) (.slice none 0 0) a2 s2 p2 ?_ ?_ Ya2.out Yb2.out Yc2.out (Cs.new _ _ _ _ rfl) ?_); (exact rfl); (exact rfl); (exact rfl); (exact rfl); (exact rfl); intro u2 k2 g2; have E2 := Lib.hid (((Ext.refl w2).alloc _).grown g2 (Nat.le_refl _)); have G3 := Lib.hid (Cs.ext G3.out E2.out); have G4 := Lib.hid (Cs.ext G4.out E2.out); have G5 := Lib.hid (Cs.ext G5.out E2.out); have HX := Lib.hid (HX.out.ext E2.out); have HE := Lib.hid (HE.out.trans E2.out); have HX1 := Lib.hid (HX1.out.ext E2.out); have KB1 := Lib.hid (Cs.ext KB1.out E2.out); have HX2 := Lib.hid (HX2.out.ext E2.out); have KB2 := Lib.hid k2; clear k2 g2)
          refine bodyPost_ret (results_tmp rfl _ _ _) rfl ?_
          exact ⟨rfl, HE.out⟩
        by_cases h2 : (doX x b).2.2 = 0
        case neg =>
          have f1 : ((doX x a).2.2 != 0) = false := by rw [h1]; rfl
          have f3 : ((doX x b).2.2 != 0) = true := by rw [bne_iff_ne]; exact h2
          have f4 : ((doX x b).2.2 == 0) = false := by rw [beq_eq_false_iff_ne]; exact h2
          clear h2
          go_wp2_with ((with_reducible refine wpList_storeX ?_ ?_ (.tmp 10) (.tmp 58) ?_ w2.heap.size (.slice none 0 0) (.slice none 0 0) (.slice none 0 0) a2 s2 p2 ?_ ?_ Ya2.out Yb2.out Yc2.out (Cs.new _ _ _ _ rfl) ?_); (exact rfl); (exact rfl); (exact rfl); (exact rfl); (exact rfl); intro u2 k2 g2; have E2 := Lib.hid (((Ext.refl w2).alloc _).grown g2 (Nat.le_refl _)); have G3 := Lib.hid (Cs.ext G3.out E2.out); have G4 := Lib.hid (Cs.ext G4.out E2.out); have G5 := Lib.hid (Cs.ext G5.out E2.out); have HX := Lib.hid (HX.out.ext E2.out); have HE := Lib.hid (HE.out.trans E2.out); have HX1 := Lib.hid (HX1.out.ext E2.out); have KB1 := Lib.hid (Cs.ext KB1.out E2.out); have HX2 := Lib.hid (HX2.out.ext E2.out); have KB2 := Lib.hid k2; clear k2 g2)
          refine bodyPost_ret (results_tmp rfl _ _ _) rfl ?_
          exact ⟨rfl, HE.out⟩
        have f1 : ((doX x a).2.2 != 0) = false := by rw [h1]; rfl
        have f2 : ((doX x b).2.2 != 0) = false := by rw [h2]; rfl
        have H1 := Lib.hid h1
        have H2 := Lib.hid h2
        clear h1 h2
        go_wp2_with (first
          | ((with_reducible refine wpList_storeX ?_ ?_ (.tmp 10) (.tmp 58) ?_ w2.heap.size (.slice none 0 0) (.slice none 0 0) (.slice none 0 0) a2 s2 p2 ?_ ?_ Ya2.out Yb2.out Yc2.out (Cs.new _ _ _ _ rfl) ?_); (exact rfl); (exact rfl); (exact rfl); (exact rfl); (exact rfl); intro u2 k2 g2; have E2 := Lib.hid (((Ext.refl w2).alloc _).grown g2 (Nat.le_refl _)); have G3 := Lib.hid (Cs.ext G3.out E2.out); have G4 := Lib.hid (Cs.ext G4.out E2.out); have G5 := Lib.hid (Cs.ext G5.out E2.out); have HX := Lib.hid (HX.out.ext E2.out); have HE := Lib.hid (HE.out.trans E2.out); have HX1 := Lib.hid (HX1.out.ext E2.out); have KB1 := Lib.hid (Cs.ext KB1.out E2.out); have HX2 := Lib.hid (HX2.out.ext E2.out); have KB2 := Lib.hid k2; clear k2 g2)
          | ((with_reducible refine wpList_loadDe ?_ (.tmp 5) ?_ g5 b ?_ G5.out ?_); (exact rfl); (exact rfl); (exact rfl))
          | ((with_reducible refine wpList_loadX ?_ (.tmp 7) ?_ w1.heap.size a1 s1 p1 ?_ KB1.out ?_); (exact rfl); (exact rfl); (exact rfl)))
        clear f1 f2
        refine (does_any b _ _ _ (doX x a).1 _ HB.out HX1.out).mono ?_
        rintro e w3 ⟨v3, rfl, hr, he⟩
        obtain ⟨a3, s3, p3, rfl, hx3, y1, y2, y3⟩ := hr.ax
        have G3 := Lib.hid (Cs.ext G3.out he)
        have G4 := Lib.hid (Cs.ext G4.out he)
        have G5 := Lib.hid (Cs.ext G5.out he)
        have HX := Lib.hid (HX.out.ext he)
        have HE := Lib.hid (HE.out.trans he)
        have HX1 := Lib.hid (HX1.out.ext he)
        have KB1 := Lib.hid (Cs.ext KB1.out he)
        have HX2 := Lib.hid (HX2.out.ext he)
        have KB2 := Lib.hid (Cs.ext KB2.out he)
        have HX3 := Lib.hid hx3
        have Ya3 := Lib.hid y1
        have Yb3 := Lib.hid y2
        have Yc3 := Lib.hid y3
        clear hr he hx3 y1 y2 y3
        go_wp2_with (first
          | ((with_reducible refine wpList_storeX ?_ ?_ (.tmp 13) (.tmp 71) ?_ w3.heap.size (.slice none 0 0) (.slice none 0 0) (.slice none 0 0) a3 s3 p3 ?_ ?_ Ya3.out Yb3.out Yc3.out (Cs.new _ _ _ _ rfl) ?_); (exact rfl); (exact rfl); (exact rfl); (exact rfl); (exact rfl); intro u3 k3 g3; have E3 := Lib.hid (((Ext.refl w3).alloc _).grown g3 (Nat.le_refl _)); have G3 := Lib.hid (Cs.ext G3.out E3.out); have G4 := Lib.hid (Cs.ext G4.out E3.out); have G5 := Lib.hid (Cs.ext G5.out E3.out); have HX := Lib.hid (HX.out.ext E3.out); have HE := Lib.hid (HE.out.trans E3.out); have HX1 := Lib.hid (HX1.out.ext E3.out); have KB1 := Lib.hid (Cs.ext KB1.out E3.out); have HX2 := Lib.hid (HX2.out.ext E3.out); have KB2 := Lib.hid (Cs.ext KB2.out E3.out); have HX3 := Lib.hid (HX3.out.ext E3.out); have KB3 := Lib.hid k3; clear k3 g3)
          | ((with_reducible refine wpList_loadDe ?_ (.tmp 4) ?_ g4 a ?_ G4.out ?_); (exact rfl); (exact rfl); (exact rfl))
          | ((with_reducible refine wpList_loadX ?_ (.tmp 10) ?_ w2.heap.size a2 s2 p2 ?_ KB2.out ?_); (exact rfl); (exact rfl); (exact rfl)))
        refine (does_any a _ _ _ (doX x b).1 _ HA.out HX2.out).mono ?_
        rintro e w4 ⟨v4, rfl, hr, he⟩
        obtain ⟨a4, s4, p4, rfl, hx4, y1, y2, y3⟩ := hr.ax
        have G3 := Lib.hid (Cs.ext G3.out he)
        have G4 := Lib.hid (Cs.ext G4.out he)
        have G5 := Lib.hid (Cs.ext G5.out he)
        have HX := Lib.hid (HX.out.ext he)
        have HE := Lib.hid (HE.out.trans he)
        have HX1 := Lib.hid (HX1.out.ext he)
        have KB1 := Lib.hid (Cs.ext KB1.out he)
        have HX2 := Lib.hid (HX2.out.ext he)
        have KB2 := Lib.hid (Cs.ext KB2.out he)
        have HX3 := Lib.hid (HX3.out.ext he)
        have KB3 := Lib.hid (Cs.ext KB3.out he)
        have HX4 := Lib.hid hx4
        have Ya4 := Lib.hid y1
        have Yb4 := Lib.hid y2
        have Yc4 := Lib.hid y3
        clear hr he hx4 y1 y2 y3
        by_cases h1 : (doX (doX x a).1 b).2.2 = 0
        case neg =>
          have f1 : ((doX (doX x a).1 b).2.2 != 0) = true := by rw [bne_iff_ne]; exact h1
          have f2 : ((doX (doX x a).1 b).2.2 == 0) = false := by rw [beq_eq_false_iff_ne]; exact h1
          clear h1
          go_wp2_with ((with_reducible refine wpList_storeX ?_ ?_ (.tmp 15) (.tmp 78) ?_ w4.heap.size (.slice none 0 0) (.slice none 0 0) (.slice none 0 0) a4 s4 p4 ?_ ?_ Ya4.out Yb4.out Yc4.out (Cs.new _ _ _ _ rfl) ?_); (exact rfl); (exact rfl); (exact rfl); (exact rfl); (exact rfl); intro u4 k4 g4; have E4 := Lib.hid (((Ext.refl w4).alloc _).grown g4 (Nat.le_refl _)); have G3 := Lib.hid (Cs.ext G3.out E4.out); have G4 := Lib.hid (Cs.ext G4.out E4.out); have G5 := Lib.hid (Cs.ext G5.out E4.out); have HX := Lib.hid (HX.out.ext E4.out); have HE := Lib.hid (HE.out.trans E4.out); have HX1 := Lib.hid (HX1.out.ext E4.out); have KB1 := Lib.hid (Cs.ext KB1.out E4.out); have HX2 := Lib.hid (HX2.out.ext E4.out); have KB2 := Lib.hid (Cs.ext KB2.out E4.out); have HX3 := Lib.hid (HX3.out.ext E4.out); have KB3 := Lib.hid (Cs.ext KB3.out E4.out); have HX4 := Lib.hid (HX4.out.ext E4.out); have KB4 := Lib.hid k4; clear k4 g4)
          refine bodyPost_ret (results_tmp rfl _ _ _) rfl ?_
          exact ⟨rfl, HE.out⟩
        by_cases h2 : (doX (doX x b).1 a).2.2 = 0
        case neg =>
          have f1 : ((doX (doX x a).1 b).2.2 != 0) = false := by rw [h1]; rfl
          have f3 : ((doX (doX x b).1 a).2.2 != 0) = true := by rw [bne_iff_ne]; exact h2
          have f4 : ((doX (doX x b).1 a).2.2 == 0) = false := by rw [beq_eq_false_iff_ne]; exact h2
          clear h2
          go_wp2_with ((with_reducible refine wpList_storeX ?_ ?_ (.tmp 15) (.tmp 78) ?_ w4.heap.size (.slice none 0 0) (.slice none 0 0) (.slice none 0 0) a4 s4 p4 ?_ ?_ Ya4.out Yb4.out Yc4.out (Cs.new _ _ _ _ rfl) ?_); (exact rfl); (exact rfl); (exact rfl); (exact rfl); (exact rfl); intro u4 k4 g4; have E4 := Lib.hid (((Ext.refl w4).alloc _).grown g4 (Nat.le_refl _)); have G3 := Lib.hid (Cs.ext G3.out E4.out); have G4 := Lib.hid (Cs.ext G4.out E4.out); have G5 := Lib.hid (Cs.ext G5.out E4.out); have HX := Lib.hid (HX.out.ext E4.out); have HE := Lib.hid (HE.out.trans E4.out); have HX1 := Lib.hid (HX1.out.ext E4.out); have KB1 := Lib.hid (Cs.ext KB1.out E4.out); have HX2 := Lib.hid (HX2.out.ext E4.out); have KB2 := Lib.hid (Cs.ext KB2.out E4.out); have HX3 := Lib.hid (HX3.out.ext E4.out); have KB3 := Lib.hid (Cs.ext KB3.out E4.out); have HX4 := Lib.hid (HX4.out.ext E4.out); have KB4 := Lib.hid k4; clear k4 g4)
          refine bodyPost_ret (results_tmp rfl _ _ _) rfl ?_
          exact ⟨rfl, HE.out⟩
        have f1 : ((doX (doX x a).1 b).2.2 != 0) = false := by rw [h1]; rfl
        have f2 : ((doX (doX x b).1 a).2.2 != 0) = false := by rw [h2]; rfl
        have HSM := Lib.hid (turn_same HA.out HB.out HS.out H1.out H2.out h1 h2)
        clear h1 h2
        go_wp2_with (first
          | ((with_reducible refine wpList_storeX ?_ ?_ (.tmp 15) (.tmp 78) ?_ w4.heap.size (.slice none 0 0) (.slice none 0 0) (.slice none 0 0) a4 s4 p4 ?_ ?_ Ya4.out Yb4.out Yc4.out (Cs.new _ _ _ _ rfl) ?_); (exact rfl); (exact rfl); (exact rfl); (exact rfl); (exact rfl); intro u4 k4 g4; have E4 := Lib.hid (((Ext.refl w4).alloc _).grown g4 (Nat.le_refl _)); have G3 := Lib.hid (Cs.ext G3.out E4.out); have G4 := Lib.hid (Cs.ext G4.out E4.out); have G5 := Lib.hid (Cs.ext G5.out E4.out); have HX := Lib.hid (HX.out.ext E4.out); have HE := Lib.hid (HE.out.trans E4.out); have HX1 := Lib.hid (HX1.out.ext E4.out); have KB1 := Lib.hid (Cs.ext KB1.out E4.out); have HX2 := Lib.hid (HX2.out.ext E4.out); have KB2 := Lib.hid (Cs.ext KB2.out E4.out); have HX3 := Lib.hid (HX3.out.ext E4.out); have KB3 := Lib.hid (Cs.ext KB3.out E4.out); have HX4 := Lib.hid (HX4.out.ext E4.out); have KB4 := Lib.hid k4; clear k4 g4)
          | ((with_reducible refine wpList_loadX ?_ (.tmp 13) ?_ w3.heap.size a3 s3 p3 ?_ KB3.out ?_); (exact rfl); (exact rfl); (exact rfl))
          | ((with_reducible refine wpList_loadX ?_ (.tmp 15) ?_ w4.heap.size a4 s4 p4 ?_ KB4.out ?_); (exact rfl); (exact rfl); (exact rfl)))
        refine (sameX_any _ _ _ _ _ _ _ _ _ HX3.out HX4.out).mono ?_
        rintro e w5 ⟨rfl, he⟩
        rw [HSM.out]
        have HE := Lib.hid (HE.out.trans he)
        clear he
        go_wp2_with fail
        refine bodyPost_ret (results_tmp rfl _ _ _) rfl ?_
        exact ⟨rfl, HE.out⟩
      have fa : ((IntKind.u64.wrap a.kind).tmod 3 == 2) = true := by rw [beq_iff_eq]; exact ka
      by_cases kb : kdE b = 2
      case neg =>
        have HS : Hid (kdE a = 2 → kdE b = 2 → a.q ≠ b.q) := Lib.hid (fun _ h => absurd h kb)
        have fb : ((IntKind.u64.wrap b.kind).tmod 3 == 2) = false := by rw [beq_eq_false_iff_ne]; exact kb
        clear ka kb
        go_upto_region 5 with fail
        clear fa fb q4 q5
        go_wp2_with (first | ((with_reducible refine wpList_loadDe ?_ (.tmp 4) ?_ g4 a ?_ G4.out ?_); (exact rfl); (exact rfl); (exact rfl)) | ((with_reducible refine wpList_loadX ?_ (.tmp 3) ?_ g3 (.slice A1 x.a.length c1) (.slice A2 x.s.length c2) (.slice A3 x.p.length c3) ?_ G3.out ?_); (exact rfl); (exact rfl); (exact rfl)))
        refine (does_any a _ _ _ x _ HA.out HX.out).mono ?_
        rintro e w1 ⟨v1, rfl, hr, he⟩
        obtain ⟨a1, s1, p1, rfl, hx1, y1, y2, y3⟩ := hr.ax
        have G3 := Lib.hid (Cs.ext G3.out he)
        have G4 := Lib.hid (Cs.ext G4.out he)
        have G5 := Lib.hid (Cs.ext G5.out he)
        have HX := Lib.hid (HX.out.ext he)
        have HE := Lib.hid (HE.out.trans he)
        have HX1 := Lib.hid hx1
        have Ya1 := Lib.hid y1
        have Yb1 := Lib.hid y2
        have Yc1 := Lib.hid y3
        clear hr he hx1 y1 y2 y3
        go_wp2_with (first
          | ((with_reducible refine wpList_storeX ?_ ?_ (.tmp 7) (.tmp 51) ?_ w1.heap.size (.slice none 0 0) (.slice none 0 0) (.slice none 0 0) a1 s1 p1 ?_ ?_ Ya1.out Yb1.out Yc1.out (Cs.new _ _ _ _ rfl) ?_); (exact rfl); (exact rfl); (exact rfl); (exact rfl); (exact rfl); intro u1 k1 g1; have E1 := Lib.hid (((Ext.refl w1).alloc _).grown g1 (Nat.le_refl _)); have G3 := Lib.hid (Cs.ext G3.out E1.out); have G4 := Lib.hid (Cs.ext G4.out E1.out); have G5 := Lib.hid (Cs.ext G5.out E1.out); have HX := Lib.hid (HX.out.ext E1.out); have HE := Lib.hid (HE.out.trans E1.out); have HX1 := Lib.hid (HX1.out.ext E1.out); have KB1 := Lib.hid k1; clear k1 g1)
          | ((with_reducible refine wpList_loadDe ?_ (.tmp 5) ?_ g5 b ?_ G5.out ?_); (exact rfl); (exact rfl); (exact rfl))
          | ((with_reducible refine wpList_loadX ?_ (.tmp 3) ?_ g3 (.slice A1 x.a.length c1) (.slice A2 x.s.length c2) (.slice A3 x.p.length c3) ?_ G3.out ?_); (exact rfl); (exact rfl); (exact rfl)))
        refine (does_any b _ _ _ x _ HB.out HX.out).mono ?_
        rintro e w2 ⟨v2, rfl, hr, he⟩
        obtain ⟨a2, s2, p2, rfl, hx2, y1, y2, y3⟩ := hr.ax
        have G3 := Lib.hid (Cs.ext G3.out he)
        have G4 := Lib.hid (Cs.ext G4.out he)
        have G5 := Lib.hid (Cs.ext G5.out he)
        have HX := Lib.hid (HX.out.ext he)
        have HE := Lib.hid (HE.out.trans he)
        have HX1 := Lib.hid (HX1.out.ext he)
        have KB1 := Lib.hid (Cs.ext KB1.out he)
        have HX2 := Lib.hid hx2
        have Ya2 := Lib.hid y1
        have Yb2 := Lib.hid y2
        have Yc2 := Lib.hid y3
        clear hr he hx2 y1 y2 y3
        by_cases h1 : (doX x a).2.2 = 0
        case neg =>
          have f1 : ((doX x a).2.2 != 0) = true := by rw [bne_iff_ne]; exact h1
          have f2 : ((doX x a).2.2 == 0) = false := by rw [beq_eq_false_iff_ne]; exact h1
          clear h1
          go_wp2_with ((with_reducible refine wpList_storeX ?_ ?_ (.tmp 10) (.tmp 58) ?_ w2.heap.size (.slice none 0 0) (.slice none 0 0) (.slice none 0 0) a2 s2 p2 ?_ ?_ Ya2.out Yb2.out Yc2.out (Cs.new _ _ _ _ rfl) ?_); (exact rfl); (exact rfl); (exact rfl); (exact rfl); (exact rfl); intro u2 k2 g2; have E2 := Lib.hid (((Ext.refl w2).alloc _).grown g2 (Nat.le_refl _)); have G3 := Lib.hid (Cs.ext G3.out E2.out); have G4 := Lib.hid (Cs.ext G4.out E2.out); have G5 := Lib.hid (Cs.ext G5.out E2.out); have HX := Lib.hid (HX.out.ext E2.out); have HE := Lib.hid (HE.out.trans E2.out); have HX1 := Lib.hid (HX1.out.ext E2.out); have KB1 := Lib.hid (Cs.ext KB1.out E2.out); have HX2 := Lib.hid (HX2.out.ext E2.out); have KB2 := Lib.hid k2; clear k2 g2)
          refine bodyPost_ret (results_tmp rfl _ _ _) rfl ?_
          exact ⟨rfl, HE.out⟩
        by_cases h2 : (doX x b).2.2 = 0
        case neg =>
          have f1 : ((doX x a).2.2 != 0) = false := by rw [h1]; rfl
          have f3 : ((doX x b).2.2 != 0) = true := by rw [bne_iff_ne]; exact h2
          have f4 : ((doX x b).2.2 == 0) = false := by rw [beq_eq_false_iff_ne]; exact h2
          clear h2
          go_wp2_with ((with_reducible refine wpList_storeX ?_ ?_ (.tmp 10) (.tmp 58) ?_ w2.heap.size (.slice none 0 0) (.slice none 0 0) (.slice none 0 0) a2 s2 p2 ?_ ?_ Ya2.out Yb2.out Yc2.out (Cs.new _ _ _ _ rfl) ?_); (exact rfl); (exact rfl); (exact rfl); (exact rfl); (exact rfl); intro u2 k2 g2; have E2 := Lib.hid (((Ext.refl w2).alloc _).grown g2 (Nat.le_refl _)); have G3 := Lib.hid (Cs.ext G3.out E2.out); have G4 := Lib.hid (Cs.ext G4.out E2.out); have G5 := Lib.hid (Cs.ext G5.out E2.out); have HX := Lib.hid (HX.out.ext E2.out); have HE := Lib.hid (HE.out.trans E2.out); have HX1 := Lib.hid (HX1.out.ext E2.out); have KB1 := Lib.hid (Cs.ext KB1.out E2.out); have HX2 := Lib.hid (HX2.out.ext E2.out); have KB2 := Lib.hid k2; clear k2 g2)
          refine bodyPost_ret (results_tmp rfl _ _ _) rfl ?_
          exact ⟨rfl, HE.out⟩
        have f1 : ((doX x a).2.2 != 0) = false := by rw [h1]; rfl
        have f2 : ((doX x b).2.2 != 0) = false := by rw [h2]; rfl
        have H1 := Lib.hid h1
        have H2 := Lib.hid h2
        clear h1 h2
        go_wp2_with (first
          | ((with_reducible refine wpList_storeX ?_ ?_ (.tmp 10) (.tmp 58) ?_ w2.heap.size (.slice none 0 0) (.slice none 0 0) (.slice none 0 0) a2 s2 p2 ?_ ?_ Ya2.out Yb2.out Yc2.out (Cs.new _ _ _ _ rfl) ?_); (exact rfl); (exact rfl); (exact rfl); (exact rfl); (exact rfl); intro u2 k2 g2; have E2 := Lib.hid (((Ext.refl w2).alloc _).grown g2 (Nat.le_refl _)); have G3 := Lib.hid (Cs.ext G3.out E2.out); have G4 := Lib.hid (Cs.ext G4.out E2.out); have G5 := Lib.hid (Cs.ext G5.out E2.out); have HX := Lib.hid (HX.out.ext E2.out); have HE := Lib.hid (HE.out.trans E2.out); have HX1 := Lib.hid (HX1.out.ext E2.out); have KB1 := Lib.hid (Cs.ext KB1.out E2.out); have HX2 := Lib.hid (HX2.out.ext E2.out); have KB2 := Lib.hid k2; clear k2 g2)
          | ((with_reducible refine wpList_loadDe ?_ (.tmp 5) ?_ g5 b ?_ G5.out ?_); (exact rfl); (exact rfl); (exact rfl))
          | ((with_reducible refine wpList_loadX ?_ (.tmp 7) ?_ w1.heap.size a1 s1 p1 ?_ KB1.out ?_); (exact rfl); (exact rfl); (exact rfl)))
        clear f1 f2
        refine (does_any b _ _ _ (doX x a).1 _ HB.out HX1.out).mono ?_
        rintro e w3 ⟨v3, rfl, hr, he⟩
        obtain ⟨a3, s3, p3, rfl, hx3, y1, y2, y3⟩ := hr.ax
        have G3 := Lib.hid (Cs.ext G3.out he)
        have G4 := Lib.hid (Cs.ext G4.out he)
        have G5 := Lib.hid (Cs.ext G5.out he)
        have HX := Lib.hid (HX.out.ext he)
        have HE := Lib.hid (HE.out.trans he)
        have HX1 := Lib.hid (HX1.out.ext he)
        have KB1 := Lib.hid (Cs.ext KB1.out he)
        have HX2 := Lib.hid (HX2.out.ext he)
        have KB2 := Lib.hid (Cs.ext KB2.out he)
        have HX3 := Lib.hid hx3
        have Ya3 := Lib.hid y1
        have Yb3 := Lib.hid y2
        have Yc3 := Lib.hid y3
        clear hr he hx3 y1 y2 y3
        go_wp2_with (first
          | ((with_reducible refine wpList_storeX ?_ ?_ (.tmp 13) (.tmp 71) ?_ w3.heap.size (.slice none 0 0) (.slice none 0 0) (.slice none 0 0) a3 s3 p3 ?_ ?_ Ya3.out Yb3.out Yc3.out (Cs.new _ _ _ _ rfl) ?_); (exact rfl); (exact rfl); (exact rfl); (exact rfl); (exact rfl); intro u3 k3 g3; have E3 := Lib.hid (((Ext.refl w3).alloc _).grown g3 (Nat.le_refl _)); have G3 := Lib.hid (Cs.ext G3.out E3.out); have G4 := Lib.hid (Cs.ext G4.out E3.out); have G5 := Lib.hid (Cs.ext G5.out E3.out); have HX := Lib.hid (HX.out.ext E3.out); have HE := Lib.hid (HE.out.trans E3.out); have HX1 := Lib.hid (HX1.out.ext E3.out); have KB1 := Lib.hid (Cs.ext KB1.out E3.out); have HX2 := Lib.hid (HX2.out.ext E3.out); have KB2 := Lib.hid (Cs.ext KB2.out E3.out); have HX3 := Lib.hid (HX3.out.ext E3.out); have KB3 := Lib.hid k3; clear k3 g3)
          | ((with_reducible refine wpList_loadDe ?_ (.tmp 4) ?_ g4 a ?_ G4.out ?_); (exact rfl); (exact rfl); (exact rfl))
          | ((with_reducible refine wpList_loadX ?_ (.tmp 10) ?_ w2.heap.size a2 s2 p2 ?_ KB2.out ?_); (exact rfl); (exact rfl); (exact rfl)))
        refine (does_any a _ _ _ (doX x b).1 _ HA.out HX2.out).mono ?_
        rintro e w4 ⟨v4, rfl, hr, he⟩
        obtain ⟨a4, s4, p4, rfl, hx4, y1, y2, y3⟩ := hr.ax
        have G3 := Lib.hid (Cs.ext G3.out he)
        have G4 := Lib.hid (Cs.ext G4.out he)
        have G5 := Lib.hid (Cs.ext G5.out he)
        have HX := Lib.hid (HX.out.ext he)
        have HE := Lib.hid (HE.out.trans he)
        have HX1 := Lib.hid (HX1.out.ext he)
        have KB1 := Lib.hid (Cs.ext KB1.out he)
        have HX2 := Lib.hid (HX2.out.ext he)
        have KB2 := Lib.hid (Cs.ext KB2.out he)
        have HX3 := Lib.hid (HX3.out.ext he)
        have KB3 := Lib.hid (Cs.ext KB3.out he)
        have HX4 := Lib.hid hx4
        have Ya4 := Lib.hid y1
        have Yb4 := Lib.hid y2
        have Yc4 := Lib.hid y3
        clear hr he hx4 y1 y2 y3
        by_cases h1 : (doX (doX x a).1 b).2.2 = 0
        case neg =>
          have f1 : ((doX (doX x a).1 b).2.2 != 0) = true := by rw [bne_iff_ne]; exact h1
          have f2 : ((doX (doX x a).1 b).2.2 == 0) = false := by rw [beq_eq_false_iff_ne]; exact h1
          clear h1
          go_wp2_with ((with_reducible refine wpList_storeX ?_ ?_ (.tmp 15) (.tmp 78) ?_ w4.heap.size (.slice none 0 0) (.slice none 0 0) (.slice none 0 0) a4 s4 p4 ?_ ?_ Ya4.out Yb4.out Yc4.out (Cs.new _ _ _ _ rfl) ?_); (exact rfl); (exact rfl); (exact rfl); (exact rfl); (exact rfl); intro u4 k4 g4; have E4 := Lib.hid (((Ext.refl w4).alloc _).grown g4 (Nat.le_refl _)); have G3 := Lib.hid (Cs.ext G3.out E4.out); have G4 := Lib.hid (Cs.ext G4.out E4.out); have G5 := Lib.hid (Cs.ext G5.out E4.out); have HX := Lib.hid (HX.out.ext E4.out); have HE := Lib.hid (HE.out.trans E4.out); have HX1 := Lib.hid (HX1.out.ext E4.out); have KB1 := Lib.hid (Cs.ext KB1.out E4.out); have HX2 := Lib.hid (HX2.out.ext E4.out); have KB2 := Lib.hid (Cs.ext KB2.out E4.out); have HX3 := Lib.hid (HX3.out.ext E4.out); have KB3 := Lib.hid (Cs.ext KB3.out E4.out); have HX4 := Lib.hid (HX4.out.ext E4.out); have KB4 := Lib.hid k4; clear k4 g4)
          refine bodyPost_ret (results_tmp rfl _ _ _) rfl ?_
          exact ⟨rfl, HE.out⟩
        by_cases h2 : (doX (doX x b).1 a).2.2 = 0
        case neg =>
          have f1 : ((doX (doX x a).1 b).2.2 != 0) = false := by rw [h1]; rfl
          have f3 : ((doX (doX x b).1 a).2.2 != 0) = true := by rw [bne_iff_ne]; exact h2
          have f4 : ((doX (doX x b).1 a).2.2 == 0) = false := by rw [beq_eq_false_iff_ne]; exact h2
          clear h2
          go_wp2_with ((with_reducible refine wpList_storeX ?_ ?_ (.tmp 15) (.tmp 78) ?_ w4.heap.size (.slice none 0 0) (.slice none 0 0) (.slice none 0 0) a4 s4 p4 ?_ ?_ Ya4.out Yb4.out Yc4.out (Cs.new _ _ _ _ rfl) ?_); (exact rfl); (exact rfl); (exact rfl); (exact rfl); (exact rfl); intro u4 k4 g4; have E4 := Lib.hid (((Ext.refl w4).alloc _).grown g4 (Nat.le_refl _)); have G3 := Lib.hid (Cs.ext G3.out E4.out); have G4 := Lib.hid (Cs.ext G4.out E4.out); have G5 := Lib.hid (Cs.ext G5.out E4.out); have HX := Lib.hid (HX.out.ext E4.out); have HE := Lib.hid (HE.out.trans E4.out); have HX1 := Lib.hid (HX1.out.ext E4.out); have KB1 := Lib.hid (Cs.ext KB1.out E4.out); have HX2 := Lib.hid (HX2.out.ext E4.out); have KB2 := Lib.hid (Cs.ext KB2.out E4.out); have HX3 := Lib.hid (HX3.out.ext E4.out); have KB3 := Lib.hid (Cs.ext KB3.out E4.out); have HX4 := Lib.hid (HX4.out.ext E4.out); have KB4 := Lib.hid k4; clear k4 g4)
          refine bodyPost_ret (results_tmp rfl _ _ _) rfl ?_
          exact ⟨rfl, HE.out⟩
        have f1 : ((doX (doX x a).1 b).2.2 != 0) = false := by rw [h1]; rfl
        have f2 : ((doX (doX x b).1 a).2.2 != 0) = false := by rw [h2]; rfl
        have HSM := Lib.hid (turn_same HA.out HB.out HS.out H1.out H2.out h1 h2)
        clear h1 h2
        go_wp2_with (first
          | ((with_reducible refine wpList_storeX ?_ ?_ (.tmp 15) (.tmp 78) ?_ w4.heap.size (.slice none 0 0) (.slice none 0 0) (.slice none 0 0) a4 s4 p4 ?_ ?_ Ya4.out Yb4.out Yc4.out (Cs.new _ _ _ _ rfl) ?_); (exact rfl); (exact rfl); (exact rfl); (exact rfl); (exact rfl); intro u4 k4 g4; have E4 := Lib.hid (((Ext.refl w4).alloc _).grown g4 (Nat.le_refl _)); have G3 := Lib.hid (Cs.ext G3.out E4.out); have G4 := Lib.hid (Cs.ext G4.out E4.out); have G5 := Lib.hid (Cs.ext G5.out E4.out); have HX := Lib.hid (HX.out.ext E4.out); have HE := Lib.hid (HE.out.trans E4.out); have HX1 := Lib.hid (HX1.out.ext E4.out); have KB1 := Lib.hid (Cs.ext KB1.out E4.out); have HX2 := Lib.hid (HX2.out.ext E4.out); have KB2 := Lib.hid (Cs.ext KB2.out E4.out); have HX3 := Lib.hid (HX3.out.ext E4.out); have KB3 := Lib.hid (Cs.ext KB3.out E4.out); have HX4 := Lib.hid (HX4.out.ext E4.out); have KB4 := Lib.hid k4; clear k4 g4)
          | ((with_reducible refine wpList_loadX ?_ (.tmp 13) ?_ w3.heap.size a3 s3 p3 ?_ KB3.out ?_); (exact rfl); (exact rfl); (exact rfl))
          | ((with_reducible refine wpList_loadX ?_ (.tmp 15) ?_ w4.heap.size a4 s4 p4 ?_ KB4.out ?_); (exact rfl); (exact rfl); (exact rfl)))
        refine (sameX_any _ _ _ _ _ _ _ _ _ HX3.out HX4.out).mono ?_
        rintro e w5 ⟨rfl, he⟩
        rw [HSM.out]
        have HE := Lib.hid (HE.out.trans he)
        clear he
        go_wp2_with fail
        refine bodyPost_ret (results_tmp rfl _ _ _) rfl ?_
        exact ⟨rfl, HE.out⟩
      have fb : ((IntKind.u64.wrap b.kind).tmod 3 == 2) = true := by rw [beq_iff_eq]; exact kb
      have S4 := Lib.hid (de_spot G4.out)
      have S5 := Lib.hid (de_spot G5.out)
      have B4 := Lib.hid (show a.q.key < M256 from HA.out.2.2.1)
      have B5 := Lib.hid (show b.q.key < M256 from HB.out.2.2.1)
      cases hq : a.q.eqS b.q with
      | true =>
        have HQ := Lib.hid hq
        clear hq
        go_wp2_with (first
          | ((with_reducible refine wpList_loadS ?_ (.tmp 40) ?_ g4 1 a.q ?_ ?_ ?_); (exact rfl); (exact rfl); (exact rfl); (exact S4.out))
          | ((with_reducible refine wpList_loadS ?_ (.tmp 42) ?_ g5 1 b.q ?_ ?_ ?_); (exact rfl); (exact rfl); (exact rfl); (exact S5.out))
          | ((with_reducible refine wpList_eqlS ?_ (.tmp 41) (.tmp 43) ?_ a.q b.q B4.out B5.out ?_ ?_ ?_); (exact rfl); (exact rfl); (exact rfl); (exact rfl); rw [HQ.out]))
        refine bodyPost_ret (results_tmp rfl _ _ _) rfl ?_
        exact ⟨rfl, HE.out⟩
      | false =>
        have HQ := Lib.hid hq
        have HS : Hid (kdE a = 2 → kdE b = 2 → a.q ≠ b.q) := Lib.hid (fun _ _ e => by rw [e, Pe.eqS_self] at hq; cases hq)
        clear hq ka kb
        go_upto_region 5 with (first
          | ((with_reducible refine wpList_loadS ?_ (.tmp 40) ?_ g4 1 a.q ?_ ?_ ?_); (exact rfl); (exact rfl); (exact rfl); (exact S4.out))
          | ((with_reducible refine wpList_loadS ?_ (.tmp 42) ?_ g5 1 b.q ?_ ?_ ?_); (exact rfl); (exact rfl); (exact rfl); (exact S5.out))
          | ((with_reducible refine wpList_eqlS ?_ (.tmp 41) (.tmp 43) ?_ a.q b.q B4.out B5.out ?_ ?_ ?_); (exact rfl); (exact rfl); (exact rfl); (exact rfl); rw [HQ.out]))
        clear fa fb q4 q5 S4 S5 B4 B5 HQ
        go_wp2_with (first | ((with_reducible refine wpList_loadDe ?_ (.tmp 4) ?_ g4 a ?_ G4.out ?_); (exact rfl); (exact rfl); (exact rfl)) | ((with_reducible refine wpList_loadX ?_ (.tmp 3) ?_ g3 (.slice A1 x.a.length c1) (.slice A2 x.s.length c2) (.slice A3 x.p.length c3) ?_ G3.out ?_); (exact rfl); (exact rfl); (exact rfl)))
        refine (does_any a _ _ _ x _ HA.out HX.out).mono ?_
        rintro e w1 ⟨v1, rfl, hr, he⟩
        obtain ⟨a1, s1, p1, rfl, hx1, y1, y2, y3⟩ := hr.ax
        have G3 := Lib.hid (Cs.ext G3.out he)
        have G4 := Lib.hid (Cs.ext G4.out he)
        have G5 := Lib.hid (Cs.ext G5.out he)
        have HX := Lib.hid (HX.out.ext he)
        have HE := Lib.hid (HE.out.trans he)
        have HX1 := Lib.hid hx1
        have Ya1 := Lib.hid y1
        have Yb1 := Lib.hid y2
        have Yc1 := Lib.hid y3
        clear hr he hx1 y1 y2 y3
        go_wp2_with (first
          | ((with_reducible refine wpList_storeX ?_ ?_ (.tmp 7) (.tmp 51) ?_ w1.heap.size (.slice none 0 0) (.slice none 0 0) (.slice none 0 0) a1 s1 p1 ?_ ?_ Ya1.out Yb1.out Yc1.out (Cs.new _ _ _ _ rfl) ?_); (exact rfl); (exact rfl); (exact rfl); (exact rfl); (exact rfl); intro u1 k1 g1; have E1 := Lib.hid (((Ext.refl w1).alloc _).grown g1 (Nat.le_refl _)); have G3 := Lib.hid (Cs.ext G3.out E1.out); have G4 := Lib.hid (Cs.ext G4.out E1.out); have G5 := Lib.hid (Cs.ext G5.out E1.out); have HX := Lib.hid (HX.out.ext E1.out); have HE := Lib.hid (HE.out.trans E1.out); have HX1 := Lib.hid (HX1.out.ext E1.out); have KB1 := Lib.hid k1; clear k1 g1)
          | ((with_reducible refine wpList_loadDe ?_ (.tmp 5) ?_ g5 b ?_ G5.out ?_); (exact rfl); (exact rfl); (exact rfl))
          | ((with_reducible refine wpList_loadX ?_ (.tmp 3) ?_ g3 (.slice A1 x.a.length c1) (.slice A2 x.s.length c2) (.slice A3 x.p.length c3) ?_ G3.out ?_); (exact rfl); (exact rfl); (exact rfl)))
        refine (does_any b _ _ _ x _ HB.out HX.out).mono ?_
        rintro e w2 ⟨v2, rfl, hr, he⟩
        obtain ⟨a2, s2, p2, rfl, hx2, y1, y2, y3⟩ := hr.ax
        have G3 := Lib.hid (Cs.ext G3.out he)
        have G4 := Lib.hid (Cs.ext G4.out he)
        have G5 := Lib.hid (Cs.ext G5.out he)
        have HX := Lib.hid (HX.out.ext he)
        have HE := Lib.hid (HE.out.trans he)
        have HX1 := Lib.hid (HX1.out.ext he)
        have KB1 := Lib.hid (Cs.ext KB1.out he)
        have HX2 := Lib.hid hx2
        have Ya2 := Lib.hid y1
        have Yb2 := Lib.hid y2
        have Yc2 := Lib.hid y3
        clear hr he hx2 y1 y2 y3
        by_cases h1 : (doX x a).2.2 = 0
        case neg =>
          have f1 : ((doX x a).2.2 != 0) = true := by rw [bne_iff_ne]; exact h1
          have f2 : ((doX x a).2.2 == 0) = false := by rw [beq_eq_false_iff_ne]; exact h1
          clear h1
          go_wp2_with ((with_reducible refine wpList_storeX ?_ ?_ (.tmp 10) (.tmp 58) ?_ w2.heap.size (.slice none 0 0) (.slice none 0 0) (.slice none 0 0) a2 s2 p2 ?_ ?_ Ya2.out Yb2.out Yc2.out (Cs.new _ _ _ _ rfl) ?_); (exact rfl); (exact rfl); (exact rfl); (exact rfl); (exact rfl); intro u2 k2 g2; have E2 := Lib.hid (((Ext.refl w2).alloc _).grown g2 (Nat.le_refl _)); have G3 := Lib.hid (Cs.ext G3.out E2.out); have G4 := Lib.hid (Cs.ext G4.out E2.out); have G5 := Lib.hid (Cs.ext G5.out E2.out); have HX := Lib.hid (HX.out.ext E2.out); have HE := Lib.hid (HE.out.trans E2.out); have HX1 := Lib.hid (HX1.out.ext E2.out); have KB1 := Lib.hid (Cs.ext KB1.out E2.out); have HX2 := Lib.hid (HX2.out.ext E2.out); have KB2 := Lib.hid k2; clear k2 g2)
          refine bodyPost_ret (results_tmp rfl _ _ _) rfl ?_
          exact ⟨rfl, HE.out⟩
        by_cases h2 : (doX x b).2.2 = 0
        case neg =>
          have f1 : ((doX x a).2.2 != 0) = false := by rw [h1]; rfl
          have f3 : ((doX x b).2.2 != 0) = true := by rw [bne_iff_ne]; exact h2
          have f4 : ((doX x b).2.2 == 0) = false := by rw [beq_eq_false_iff_ne]; exact h2
          clear h2
          go_wp2_with ((with_reducible refine wpList_storeX ?_ ?_ (.tmp 10) (.tmp 58) ?_ w2.heap.size (.slice none 0 0) (.slice none 0 0) (.slice none 0 0) a2 s2 p2 ?_ ?_ Ya2.out Yb2.out Yc2.out (Cs.new _ _ _ _ rfl) ?_); (exact rfl); (exact rfl); (exact rfl); (exact rfl); (exact rfl); intro u2 k2 g2; have E2 := Lib.hid (((Ext.refl w2).alloc _).grown g2 (Nat.le_refl _)); have G3 := Lib.hid (Cs.ext G3.out E2.out); have G4 := Lib.hid (Cs.ext G4.out E2.out); have G5 := Lib.hid (Cs.ext G5.out E2.out); have HX := Lib.hid (HX.out.ext E2.out); have HE := Lib.hid (HE.out.trans E2.out); have HX1 := Lib.hid (HX1.out.ext E2.out); have KB1 := Lib.hid (Cs.ext KB1.out E2.out); have HX2 := Lib.hid (HX2.out.ext E2.out); have KB2 := Lib.hid k2; clear k2 g2)
          refine bodyPost_ret (results_tmp rfl _ _ _) rfl ?_
          exact ⟨rfl, HE.out⟩
        have f1 : ((doX x a).2.2 != 0) = false := by rw [h1]; rfl
        have f2 : ((doX x b).2.2 != 0) = false := by rw [h2]; rfl
        have H1 := Lib.hid h1
        have H2 := Lib.hid h2
        clear h1 h2
        go_wp2_with (first
          | ((with_reducible refine wpList_storeX ?_ ?_ (.tmp 10) (.tmp 58) ?_ w2.heap.size (.slice none 0 0) (.slice none 0 0) (.slice none 0 0) a2 s2 p2 ?_ ?_ Ya2.out Yb2.out Yc2.out (Cs.new _ _ _ _ rfl) ?_); (exact rfl); (exact rfl); (exact rfl); (exact rfl); (exact rfl); intro u2 k2 g2; have E2 := Lib.hid (((Ext.refl w2).alloc _).grown g2 (Nat.le_refl _)); have G3 := Lib.hid (Cs.ext G3.out E2.out); have G4 := Lib.hid (Cs.ext G4.out E2.out); have G5 := Lib.hid (Cs.ext G5.out E2.out); have HX := Lib.hid (HX.out.ext E2.out); have HE := Lib.hid (HE.out.trans E2.out); have HX1 := Lib.hid (HX1.out.ext E2.out); have KB1 := Lib.hid (Cs.ext KB1.out E2.out); have HX2 := Lib.hid (HX2.out.ext E2.out); have KB2 := Lib.hid k2; clear k2 g2)
          | ((with_reducible refine wpList_loadDe ?_ (.tmp 5) ?_ g5 b ?_ G5.out ?_); (exact rfl); (exact rfl); (exact rfl))
          | ((with_reducible refine wpList_loadX ?_ (.tmp 7) ?_ w1.heap.size a1 s1 p1 ?_ KB1.out ?_); (exact rfl); (exact rfl); (exact rfl)))
        clear f1 f2
        refine (does_any b _ _ _ (doX x a).1 _ HB.out HX1.out).mono ?_
        rintro e w3 ⟨v3, rfl, hr, he⟩
        obtain ⟨a3, s3, p3, rfl, hx3, y1, y2, y3⟩ := hr.ax
        have G3 := Lib.hid (Cs.ext G3.out he)
        have G4 := Lib.hid (Cs.ext G4.out he)
        have G5 := Lib.hid (Cs.ext G5.out he)
        have HX := Lib.hid (HX.out.ext he)
        have HE := Lib.hid (HE.out.trans he)
        have HX1 := Lib.hid (HX1.out.ext he)
        have KB1 := Lib.hid (Cs.ext KB1.out he)
        have HX2 := Lib.hid (HX2.out.ext he)
        have KB2 := Lib.hid (Cs.ext KB2.out he)
        have HX3 := Lib.hid hx3
        have Ya3 := Lib.hid y1
        have Yb3 := Lib.hid y2
        have Yc3 := Lib.hid y3
        clear hr he hx3 y1 y2 y3
        go_wp2_with (first
          | ((with_reducible refine wpList_storeX ?_ ?_ (.tmp 13) (.tmp 71) ?_ w3.heap.size (.slice none 0 0) (.slice none 0 0) (.slice none 0 0) a3 s3 p3 ?_ ?_ Ya3.out Yb3.out Yc3.out (Cs.new _ _ _ _ rfl) ?_); (exact rfl); (exact rfl); (exact rfl); (exact rfl); (exact rfl); intro u3 k3 g3; have E3 := Lib.hid (((Ext.refl w3).alloc _).grown g3 (Nat.le_refl _)); have G3 := Lib.hid (Cs.ext G3.out E3.out); have G4 := Lib.hid (Cs.ext G4.out E3.out); have G5 := Lib.hid (Cs.ext G5.out E3.out); have HX := Lib.hid (HX.out.ext E3.out); have HE := Lib.hid (HE.out.trans E3.out); have HX1 := Lib.hid (HX1.out.ext E3.out); have KB1 := Lib.hid (Cs.ext KB1.out E3.out); have HX2 := Lib.hid (HX2.out.ext E3.out); have KB2 := Lib.hid (Cs.ext KB2.out E3.out); have HX3 := Lib.hid (HX3.out.ext E3.out); have KB3 := Lib.hid k3; clear k3 g3)
          | ((with_reducible refine wpList_loadDe ?_ (.tmp 4) ?_ g4 a ?_ G4.out ?_); (exact rfl); (exact rfl); (exact rfl))
          | ((with_reducible refine wpList_loadX ?_ (.tmp 10) ?_ w2.heap.size a2 s2 p2 ?_ KB2.out ?_); (exact rfl); (exact rfl); (exact rfl)))
        refine (does_any a _ _ _ (doX x b).1 _ HA.out HX2.out).mono ?_
        rintro e w4 ⟨v4, rfl, hr, he⟩
        obtain ⟨a4, s4, p4, rfl, hx4, y1, y2, y3⟩ := hr.ax
        have G3 := Lib.hid (Cs.ext G3.out he)
        have G4 := Lib.hid (Cs.ext G4.out he)
        have G5 := Lib.hid (Cs.ext G5.out he)
        have HX := Lib.hid (HX.out.ext he)
        have HE := Lib.hid (HE.out.trans he)
        have HX1 := Lib.hid (HX1.out.ext he)
        have KB1 := Lib.hid (Cs.ext KB1.out he)
        have HX2 := Lib.hid (HX2.out.ext he)
        have KB2 := Lib.hid (Cs.ext KB2.out he)
        have HX3 := Lib.hid (HX3.out.ext he)
        have KB3 := Lib.hid (Cs.ext KB3.out he)
        have HX4 := Lib.hid hx4
        have Ya4 := Lib.hid y1
        have Yb4 := Lib.hid y2
        have Yc4 := Lib.hid y3
        clear hr he hx4 y1 y2 y3
        by_cases h1 : (doX (doX x a).1 b).2.2 = 0
        case neg =>
          have f1 : ((doX (doX x a).1 b).2.2 != 0) = true := by rw [bne_iff_ne]; exact h1
          have f2 : ((doX (doX x a).1 b).2.2 == 0) = false := by rw [beq_eq_false_iff_ne]; exact h1
          clear h1
          go_wp2_with ((with_reducible refine wpList_storeX ?_ ?_ (.tmp 15) (.tmp 78) ?_ w4.heap.size (.slice none 0 0) (.slice none 0 0) (.slice none 0 0) a4 s4 p4 ?_ ?_ Ya4.out Yb4.out Yc4.out (Cs.new _ _ _ _ rfl) ?_); (exact rfl); (exact rfl); (exact rfl); (exact rfl); (exact rfl); intro u4 k4 g4; have E4 := Lib.hid (((Ext.refl w4).alloc _).grown g4 (Nat.le_refl _)); have G3 := Lib.hid (Cs.ext G3.out E4.out); have G4 := Lib.hid (Cs.ext G4.out E4.out); have G5 := Lib.hid (Cs.ext G5.out E4.out); have HX := Lib.hid (HX.out.ext E4.out); have HE := Lib.hid (HE.out.trans E4.out); have HX1 := Lib.hid (HX1.out.ext E4.out); have KB1 := Lib.hid (Cs.ext KB1.out E4.out); have HX2 := Lib.hid (HX2.out.ext E4.out); have KB2 := Lib.hid (Cs.ext KB2.out E4.out); have HX3 := Lib.hid (HX3.out.ext E4.out); have KB3 := Lib.hid (Cs.ext KB3.out E4.out); have HX4 := Lib.hid (HX4.out.ext E4.out); have KB4 := Lib.hid k4; clear k4 g4)
          refine bodyPost_ret (results_tmp rfl _ _ _) rfl ?_
          exact ⟨rfl, HE.out⟩
        by_cases h2 : (doX (doX x b).1 a).2.2 = 0
        case neg =>
          have f1 : ((doX (doX x a).1 b).2.2 != 0) = false := by rw [h1]; rfl
          have f3 : ((doX (doX x b).1 a).2.2 != 0) = true := by rw [bne_iff_ne]; exact h2
          have f4 : ((doX (doX x b).1 a).2.2 == 0) = false := by rw [beq_eq_false_iff_ne]; exact h2
          clear h2
          go_wp2_with ((with_reducible refine wpList_storeX ?_ ?_ (.tmp 15) (.tmp 78) ?_ w4.heap.size (.slice none 0 0) (.slice none 0 0) (.slice none 0 0) a4 s4 p4 ?_ ?_ Ya4.out Yb4.out Yc4.out (Cs.new _ _ _ _ rfl) ?_); (exact rfl); (exact rfl); (exact rfl); (exact rfl); (exact rfl); intro u4 k4 g4; have E4 := Lib.hid (((Ext.refl w4).alloc _).grown g4 (Nat.le_refl _)); have G3 := Lib.hid (Cs.ext G3.out E4.out); have G4 := Lib.hid (Cs.ext G4.out E4.out); have G5 := Lib.hid (Cs.ext G5.out E4.out); have HX := Lib.hid (HX.out.ext E4.out); have HE := Lib.hid (HE.out.trans E4.out); have HX1 := Lib.hid (HX1.out.ext E4.out); have KB1 := Lib.hid (Cs.ext KB1.out E4.out); have HX2 := Lib.hid (HX2.out.ext E4.out); have KB2 := Lib.hid (Cs.ext KB2.out E4.out); have HX3 := Lib.hid (HX3.out.ext E4.out); have KB3 := Lib.hid (Cs.ext KB3.out E4.out); have HX4 := Lib.hid (HX4.out.ext E4.out); have KB4 := Lib.hid k4; clear k4 g4)
          refine bodyPost_ret (results_tmp rfl _ _ _) rfl ?_
          exact ⟨rfl, HE.out⟩
        have f1 : ((doX (doX x a).1 b).2.2 != 0) = false := by rw [h1]; rfl
        have f2 : ((doX (doX x b).1 a).2.2 != 0) = false := by rw [h2]; rfl
        have HSM := Lib.hid (turn_same HA.out HB.out HS.out H1.out H2.out h1 h2)
        clear h1 h2
        go_wp2_with (first
          | ((with_reducible refine wpList_storeX ?_ ?_ (.tmp 15) (.tmp 78) ?_ w4.heap.size (.slice none 0 0) (.slice none 0 0) (.slice none 0 0) a4 s4 p4 ?_ ?_ Ya4.out Yb4.out Yc4.out (Cs.new _ _ _ _ rfl) ?_); (exact rfl); (exact rfl); (exact rfl); (exact rfl); (exact rfl); intro u4 k4 g4; have E4 := Lib.hid (((Ext.refl w4).alloc _).grown g4 (Nat.le_refl _)); have G3 := Lib.hid (Cs.ext G3.out E4.out); have G4 := Lib.hid (Cs.ext G4.out E4.out); have G5 := Lib.hid (Cs.ext G5.out E4.out); have HX := Lib.hid (HX.out.ext E4.out); have HE := Lib.hid (HE.out.trans E4.out); have HX1 := Lib.hid (HX1.out.ext E4.out); have KB1 := Lib.hid (Cs.ext KB1.out E4.out); have HX2 := Lib.hid (HX2.out.ext E4.out); have KB2 := Lib.hid (Cs.ext KB2.out E4.out); have HX3 := Lib.hid (HX3.out.ext E4.out); have KB3 := Lib.hid (Cs.ext KB3.out E4.out); have HX4 := Lib.hid (HX4.out.ext E4.out); have KB4 := Lib.hid k4; clear k4 g4)
          | ((with_reducible refine wpList_loadX ?_ (.tmp 13) ?_ w3.heap.size a3 s3 p3 ?_ KB3.out ?_); (exact rfl); (exact rfl); (exact rfl))
          | ((with_reducible refine wpList_loadX ?_ (.tmp 15) ?_ w4.heap.size a4 s4 p4 ?_ KB4.out ?_); (exact rfl); (exact rfl); (exact rfl)))
        refine (sameX_any _ _ _ _ _ _ _ _ _ HX3.out HX4.out).mono ?_
        rintro e w5 ⟨rfl, he⟩
        rw [HSM.out]
        have HE := Lib.hid (HE.out.trans he)
        clear he
        go_wp2_with fail
        refine bodyPost_ret (results_tmp rfl _ _ _) rfl ?_
        exact ⟨rfl, HE.out⟩
set_option maxRecDepth 100000 in
theorem accessTurned_told (W : World) (args : Array Value) (h : Told Try.f7 W args) : Calls Try.prog 7 args W (RetT W) := by
  obtain ⟨H, enc, base, ds, p, hval, hA⟩ := h
  rw [Try.params7] at hA hval
  obtain ⟨v0, v1, v2, d0, d1, d2, p0, p1, p2, rfl, rfl, rfl, h0, h1, h2⟩ := trodAll_three hA
  obtain ⟨va, vs, vp, x, rfl, hx⟩ := access_came (hval 0 _ v0 rfl rfl) h0
  obtain ⟨a, rfl, ha⟩ := deedX_came (hval 1 _ v1 rfl rfl) h1
  obtain ⟨b, rfl, hb⟩ := deedX_came (hval 2 _ v2 rfl rfl) h2
  exact accessTurned_any va vs vp x a b W hx ha hb

set_option maxRecDepth 100000 in
theorem accessTurned_spec (H : Type) : ∀ ds : List (DataW H), ds.length = Try.f7.params.toList.length → Rows.accessTurnedSpec.fn H ds = { results := [.lit (.bool true)], args := ds }
  | [_, _, _], _ => rfl
  | [], h | [_], h | [_, _], h | _ :: _ :: _ :: _ :: _, h => by rw [Try.params7] at h; simp at h

set_option maxRecDepth 100000 in
theorem accessTurned_holds : Rows.AccessTurnedSaid :=
  OpenClaim.holds_of_wide 7 Try.f7 rfl rfl rfl rfl rfl rfl rfl ⟨rfl, rfl, rfl, rfl, rfl⟩ rfl rfl rfl rfl rfl (by kernel_rfl) Try.func7 (by kernel_rfl)
    (of_decide_eq_true (by kernel_rfl)) (by unfold Func.isWrapper; first | (rw [if_pos (by decide +kernel)]; kernel_rfl) | (rw [if_neg (by decide +kernel)]; exact ⟨rfl, rfl⟩))
    (fun os started H enc _ => law_lifted started (by kernel_rfl) Try.func7 rfl rfl (accessTurned_spec H) (of_decide_eq_true (by kernel_rfl))
      (ChangeSpec.witness6 (enc := enc) (C := Try.checked) false ⟨#[], #[.agg #[.slice none 0 0, .slice none 0 0, .slice none 0 0], .agg #[.int .i64 0, .int .u64 0, .int .u64 0, .int .u64 0, .int .u64 0, .int .u64 0, .int .u64 0, .int .u64 0, .int .u64 0, .int .u64 0], .agg #[.int .i64 0, .int .u64 0, .int .u64 0, .int .u64 0, .int .u64 0, .int .u64 0, .int .u64 0, .int .u64 0, .int .u64 0, .int .u64 0]], []⟩ 8 (by kernel_rfl) (by kernel_rfl) (by kernel_rfl) (by kernel_rfl)) accessTurned_told)
end Go.Proofs.Ytjampleddeidaaa
