/- Package access: the laws' own over, does. -/
import Derived.Test.YtjampleddeidaaaQAcy
import Derived.Test.YtjampleddeidaaaQAcz
namespace Go.Proofs.Ytjampleddeidaaa
open Go.ChangeShapes Go.WideShapes Go.ChangeAt Go.RowKit Go.Shelf

def overX (x : Ax) : Bool := decide (500 < x.a.length) || (decide (500 < x.s.length) || decide (500 < x.p.length))
set_option maxRecDepth 100000 in
set_option maxHeartbeats 8000000 in
theorem overX_any (va vs vp : Value) (x : Ax) (w : World) (hx : AxR w va vs vp x) : Calls Try.prog 10 #[.agg #[va, vs, vp]] w fun e w' => e = .returned (.bool (overX x)) ∧ Ext w w' := by
  have HX := Lib.hid hx
  obtain ⟨A1, c1, rfl, _, _⟩ := hx.1.len
  obtain ⟨A2, c2, rfl, _, _⟩ := hx.2.1.len
  obtain ⟨A3, c3, rfl, _, _⟩ := hx.2.2.len
  obtain ⟨w0, hw0⟩ : ∃ w0, w.alloc (.cells #[.slice A1 x.a.length c1, .slice A2 x.s.length c2, .slice A3 x.p.length c3] 26) = w0 := ⟨_, rfl⟩
  have HC : Hid (Cs w0 w.heap.size 26 #[.slice A1 x.a.length c1, .slice A2 x.s.length c2, .slice A3 x.p.length c3]) := Lib.hid (by rw [← hw0]; exact Cs.new _ _ _ _ rfl)
  have HE : Hid (Ext w w0) := Lib.hid (by rw [← hw0]; exact (Ext.refl w).alloc _)
  have HDF : Hid (overX x = (decide (500 < x.a.length) || (decide (500 < x.s.length) || decide (500 < x.p.length)))) := Lib.hid rfl
  have HW0 := Lib.hid hw0
  have q0 := HC.out.cell 0 _ rfl
  have q1 := HC.out.cell 1 _ rfl
  have q2 := HC.out.cell 2 _ rfl
  clear hx hw0
  go_enter Try.func10, Try.ntmps10
  go_upto_region 1 with fail
  rw [HW0.out]
  clear HW0
  by_cases h1 : 500 < x.a.length
  · have d1 : decide ((500 : Int) < (x.a.length : Int)) = true := decide_eq_true (by omega)
    have HF := Lib.hid (show overX x = true by rw [HDF.out, decide_eq_true h1, Bool.true_or])
    clear h1
    go_wp2_with fail
    refine bodyPost_ret (results_tmp rfl _ _ _) rfl ?_
    exact ⟨by rw [HF.out]; rfl, HE.out⟩
  · have d1 : decide ((500 : Int) < (x.a.length : Int)) = false := decide_eq_false (by omega)
    have HDF := Lib.hid (show overX x = (decide (500 < x.s.length) || decide (500 < x.p.length)) by rw [HDF.out, decide_eq_false h1, Bool.false_or])
    clear h1
    by_cases h2 : 500 < x.s.length
    · have d2 : decide ((500 : Int) < (x.s.length : Int)) = true := decide_eq_true (by omega)
      have HF := Lib.hid (show overX x = true by rw [HDF.out, decide_eq_true h2, Bool.true_or])
      clear h2
      go_wp2_with fail
      refine bodyPost_ret (results_tmp rfl _ _ _) rfl ?_
      exact ⟨by rw [HF.out]; rfl, HE.out⟩
    · have d2 : decide ((500 : Int) < (x.s.length : Int)) = false := decide_eq_false (by omega)
      have HF := Lib.hid (show overX x = decide (500 < x.p.length) by rw [HDF.out, decide_eq_false h2, Bool.false_or])
      have HD3 : Hid (decide ((500 : Int) < (x.p.length : Int)) = decide (500 < x.p.length)) := Lib.hid (by simp; omega)
      clear h2
      go_wp2_with fail
      refine bodyPost_ret (results_tmp rfl _ _ _) rfl ?_
      exact ⟨by rw [HF.out, ← HD3.out]; rfl, HE.out⟩
structure De where
  kind : Int
  p : Pe
def De.ok (d : De) : Prop := (-9223372036854775808 ≤ d.kind ∧ d.kind ≤ 9223372036854775807) ∧ okP d.p
def dec (d : De) : Array Value := #[.int .i64 d.kind, .int .u64 (d.p.addr : Nat), lv (lb d.p.key 0), lv (lb d.p.key 1), lv (lb d.p.key 2), lv (lb d.p.key 3), lv (lb d.p.val 0), lv (lb d.p.val 1), lv (lb d.p.val 2), lv (lb d.p.val 3)]
set_option maxRecDepth 100000 in
theorem dec_one (d : De) : (dec d).all (·.oneCell') = true := by simp [dec, lv, Value.oneCell']
def De.ta (d : De) : Pe := ⟨d.p.addr, 0, 0⟩
def De.q (d : De) : Pe := ⟨d.p.addr, d.p.key, 0⟩
set_option maxRecDepth 100000 in
theorem De.ta_ok {d : De} (h : d.ok) : okA d.ta := ⟨h.2.1, rfl, rfl⟩
set_option maxRecDepth 100000 in
theorem De.q_ok {d : De} (h : d.ok) : okS d.q := ⟨h.2.1, h.2.2.1, rfl⟩
def kdE (d : De) : Int := (IntKind.u64.wrap d.kind).tmod 3
set_option maxRecDepth 100000 in
theorem kdE_cases (d : De) : kdE d = 0 ∨ kdE d = 1 ∨ kdE d = 2 := by
  have h : ∃ n : Nat, IntKind.u64.wrap d.kind = (n : Int) := ⟨(IntKind.u64.wrap d.kind).toNat, by
    rw [Int.toNat_of_nonneg]
    simp only [IntKind.wrap, IntKind.signed, IntKind.bits]
    first | exact Int.emod_nonneg _ (by decide) | (split <;> first | exact Int.emod_nonneg _ (by decide) | omega)⟩
  obtain ⟨n, hn⟩ := h
  unfold kdE
  rw [hn]
  have : ((n : Int)).tmod 3 = ((n % 3 : Nat) : Int) := by rw [Int.tmod_eq_emod_of_nonneg (by omega)]; omega
  rw [this]
  omega
def doX (x : Ax) (d : De) : Ax × Bool × Int := if kdE d = 0 then touchX x d.ta else if kdE d = 1 then reachX x d.q else ((keepX x d.q d.p.val).1, false, (keepX x d.q d.p.val).2.2)
set_option maxRecDepth 100000 in
theorem de_spot {W : World} {g : Nat} {t : TypeId} {d : De} (h : Cs W g t (dec d)) : W.rangeAt g 1 (cS d.q).toList := fun j x hx => by
  have hj : j < 5 := by
    have h1 := (List.getElem?_eq_some_iff.1 hx).1
    simpa [cS] using h1
  obtain rfl | rfl | rfl | rfl | rfl : j = 0 ∨ j = 1 ∨ j = 2 ∨ j = 3 ∨ j = 4 := by omega
  all_goals exact Cs.cell h _ _ (by simpa [cS, wc, dec, De.q] using hx)
set_option maxRecDepth 100000 in
theorem de_word {W : World} {g : Nat} {t : TypeId} {d : De} (h : Cs W g t (dec d)) : W.rangeAt g 6 (wc d.p.val).toList := fun j x hx => by
  have hj : j < 4 := by
    have h1 := (List.getElem?_eq_some_iff.1 hx).1
    simpa [wc] using h1
  obtain rfl | rfl | rfl | rfl : j = 0 ∨ j = 1 ∨ j = 2 ∨ j = 3 := by omega
  all_goals exact Cs.cell h _ _ (by simpa [wc, dec] using hx)
set_option maxRecDepth 100000 in
theorem RetX.kept {lo g : Nat} {W W' : World} {v : Value} {x : Ax} {cs : Array Value} (h : RetX lo W v x) (hg : W.grownBy W' (some g)) (hs : Cs W g 26 cs) : RetX lo W' v x := by
  obtain ⟨a, s, p, e, h1, h2, h3⟩ := h
  exact ⟨a, s, p, e, h1.keptT hg hs (by decide), h2.keptT hg hs (by decide), h3.keptT hg hs (by decide)⟩
def RetD (w : World) (r : Ax × Bool × Int) (e : Ending) (w' : World) : Prop := ∃ v', e = .returned (.tuple #[v', .bool r.2.1, .int .i64 r.2.2]) ∧ RetX w.heap.size w' v' r.1 ∧ Ext w w'
set_option maxRecDepth 100000 in
set_option maxHeartbeats 8000000 in
theorem does_any (d : De) (va vs vp : Value) (x : Ax) (w : World) (hd : d.ok) (hx : AxR w va vs vp x) : Calls Try.prog 24 #[.agg (dec d), .agg #[va, vs, vp]] w (RetD w (doX x d)) := by
  have HD := Lib.hid hd
  have HX := Lib.hid hx
  obtain ⟨A1, c1, rfl, _, _⟩ := hx.1.len
  obtain ⟨A2, c2, rfl, _, _⟩ := hx.2.1.len
  obtain ⟨A3, c3, rfl, _, _⟩ := hx.2.2.len
  obtain ⟨w0, hw0⟩ : ∃ w0, ((w.alloc (.cells (dec d) 52)).alloc (.cells #[.slice A1 x.a.length c1, .slice A2 x.s.length c2, .slice A3 x.p.length c3] 26)).alloc (.cells #[.slice none 0 0, .slice none 0 0, .slice none 0 0] 26) = w0 := ⟨_, rfl⟩
  have HW0 := Lib.hid hw0
  have HG2 : Hid (Cs w0 w.heap.size 52 (dec d)) := Lib.hid (by rw [← hw0]; exact Cs.alloc (Cs.alloc (Cs.new _ _ _ _ rfl) _) _)
  have HG3 : Hid (Cs w0 (w.heap.size + 1) 26 #[.slice A1 x.a.length c1, .slice A2 x.s.length c2, .slice A3 x.p.length c3]) := Lib.hid (by rw [← hw0]; exact Cs.alloc (Cs.new _ _ _ _ (by simp)) _)
  have HR : Hid (Cs w0 (w.heap.size + 1 + 1) 26 #[.slice none 0 0, .slice none 0 0, .slice none 0 0]) := Lib.hid (by rw [← hw0]; exact Cs.new _ _ _ _ (by simp))
  have HE : Hid (Ext w w0) := Lib.hid (by rw [← hw0]; exact (((Ext.refl w).alloc _).alloc _).alloc _)
  have HK := Lib.hid (kdE_cases d)
  have HDF : Hid (doX x d = if kdE d = 0 then touchX x d.ta else if kdE d = 1 then reachX x d.q else ((keepX x d.q d.p.val).1, false, (keepX x d.q d.p.val).2.2)) := Lib.hid rfl
  clear hx hd hw0
  obtain ⟨dc, hdc⟩ : ∃ dc, dec d = dc := ⟨_, rfl⟩
  rw [hdc] at HW0 ⊢
  clear hdc
  go_enter Try.func24, Try.ntmps24
  go_upto_region 1 with fail
  rw [HW0.out]
  clear HW0
  obtain ⟨g2, hg2⟩ : ∃ g, w.heap.size = g := ⟨_, rfl⟩
  obtain ⟨g3, hg3⟩ : ∃ g, w.heap.size + 1 = g := ⟨_, rfl⟩
  obtain ⟨gR, hgR⟩ : ∃ g, w.heap.size + 1 + 1 = g := ⟨_, rfl⟩
  have HN := Lib.hid (show w.heap.size ≤ gR by omega)
  rw [hgR] at HR ⊢
  rw [hg3] at HG3 ⊢
  rw [hg2] at HG2 ⊢
  clear hg2 hg3 hgR
  have q0 : w0.cell? ⟨g2, 0, none⟩ = some (.int .i64 d.kind) := HG2.out.cell 0 _ rfl
  have q1 : w0.cell? ⟨g2, 1, none⟩ = some (.int .u64 (d.p.addr : Nat)) := HG2.out.cell 1 _ rfl
  have HSP := Lib.hid (de_spot HG2.out)
  have HWD := Lib.hid (de_word HG2.out)
  go_upto_region 3 with fail
  rw [show (IntKind.u64.wrap d.kind).tmod 3 = kdE d from rfl]
  rcases HK.out with hk | hk | hk
  · have HSQ := Lib.hid (show doX x d = touchX x d.ta by rw [HDF.out, if_pos hk])
    rw [hk]
    clear hk HDF
    go_wp2_with (first | ((with_reducible refine wpList_loadX ?_ (.tmp 3) ?_ g3 (.slice A1 x.a.length c1) (.slice A2 x.s.length c2) (.slice A3 x.p.length c3) ?_ HG3.out ?_); (exact rfl); (exact rfl); (exact rfl)) | fail)
    refine (touchX_any _ _ _ x d.ta _ ⟨HX.out.1.ext HE.out, HX.out.2.1.ext HE.out, HX.out.2.2.ext HE.out⟩ (De.ta_ok HD.out)).mono ?_
    rintro e w5 ⟨v', rfl, ⟨a5, s5, p5, rfl, ho1, ho2, ho3⟩, he⟩
    have HR5 := Lib.hid (Cs.ext HR.out he)
    have HX5 := Lib.hid (HE.out.trans he)
    have Y1 := Lib.hid ho1.one
    have Y2 := Lib.hid ho2.one
    have Y3 := Lib.hid ho3.one
    have HO := Lib.hid (show RetX w0.heap.size w5 (.agg #[a5, s5, p5]) _ from ⟨a5, s5, p5, rfl, ho1, ho2, ho3⟩)
    clear he ho1 ho2 ho3
    go_wp2_with (first
      | ((with_reducible refine wpList_storeX ?_ ?_ (.tmp 4) (.tmp 28) ?_ gR (.slice none 0 0) (.slice none 0 0) (.slice none 0 0) a5 s5 p5 ?_ ?_ Y1.out Y2.out Y3.out HR5.out ?_); (exact rfl); (exact rfl); (exact rfl); (exact rfl); (exact rfl); intro w6 k6 g6; have K6 := Lib.hid k6; have G6 := Lib.hid g6; have HO6 := Lib.hid (HO.out.kept G6.out HR5.out); have HX6 := Lib.hid (HX5.out.grown G6.out HN.out); clear k6 g6)
      | ((with_reducible refine wpList_loadX ?_ (.tmp 4) ?_ gR a5 s5 p5 ?_ K6.out ?_); (exact rfl); (exact rfl); (exact rfl))
      | ((with_reducible refine wpList_storeX ?_ ?_ (.tmp 4) (.tmp 41) ?_ gR a5 s5 p5 a5 s5 p5 ?_ ?_ Y1.out Y2.out Y3.out K6.out ?_); (exact rfl); (exact rfl); (exact rfl); (exact rfl); (exact rfl); intro w7 k7 g7; have K7 := Lib.hid k7; have G7 := Lib.hid g7; have HO7 := Lib.hid (HO6.out.kept G7.out K6.out); have HX7 := Lib.hid (HX6.out.grown G7.out HN.out); clear k7 g7))
    refine bodyPost_ret (results_ax_err Try.results24 _ _ gR _ _ _ rfl K7.out) rfl ?_
    rw [HSQ.out]
    exact ⟨_, rfl, HO7.out.low HE.out.size, HX7.out⟩
  · have HSQ := Lib.hid (show doX x d = reachX x d.q by rw [HDF.out, if_neg (by rw [hk]; decide), if_pos hk])
    rw [hk]
    clear hk HDF
    go_wp2_with (first | ((with_reducible refine wpList_loadX ?_ (.tmp 3) ?_ g3 (.slice A1 x.a.length c1) (.slice A2 x.s.length c2) (.slice A3 x.p.length c3) ?_ HG3.out ?_); (exact rfl); (exact rfl); (exact rfl)) | ((with_reducible refine wpList_loadS ?_ (.tmp 35) ?_ g2 1 d.q ?_ ?_ ?_); (exact rfl); (exact rfl); (exact rfl); (exact HSP.out)))
    refine (reachX_any _ _ _ x d.q _ ⟨HX.out.1.ext HE.out, HX.out.2.1.ext HE.out, HX.out.2.2.ext HE.out⟩ (De.q_ok HD.out)).mono ?_
    rintro e w5 ⟨v', rfl, ⟨a5, s5, p5, rfl, ho1, ho2, ho3⟩, he⟩
    have HR5 := Lib.hid (Cs.ext HR.out he)
    have HX5 := Lib.hid (HE.out.trans he)
    have Y1 := Lib.hid ho1.one
    have Y2 := Lib.hid ho2.one
    have Y3 := Lib.hid ho3.one
    have HO := Lib.hid (show RetX w0.heap.size w5 (.agg #[a5, s5, p5]) _ from ⟨a5, s5, p5, rfl, ho1, ho2, ho3⟩)
    clear he ho1 ho2 ho3
    go_wp2_with (first
      | ((with_reducible refine wpList_storeX ?_ ?_ (.tmp 4) (.tmp 38) ?_ gR (.slice none 0 0) (.slice none 0 0) (.slice none 0 0) a5 s5 p5 ?_ ?_ Y1.out Y2.out Y3.out HR5.out ?_); (exact rfl); (exact rfl); (exact rfl); (exact rfl); (exact rfl); intro w6 k6 g6; have K6 := Lib.hid k6; have G6 := Lib.hid g6; have HO6 := Lib.hid (HO.out.kept G6.out HR5.out); have HX6 := Lib.hid (HX5.out.grown G6.out HN.out); clear k6 g6)
      | ((with_reducible refine wpList_loadX ?_ (.tmp 4) ?_ gR a5 s5 p5 ?_ K6.out ?_); (exact rfl); (exact rfl); (exact rfl))
      | ((with_reducible refine wpList_storeX ?_ ?_ (.tmp 4) (.tmp 41) ?_ gR a5 s5 p5 a5 s5 p5 ?_ ?_ Y1.out Y2.out Y3.out K6.out ?_); (exact rfl); (exact rfl); (exact rfl); (exact rfl); (exact rfl); intro w7 k7 g7; have K7 := Lib.hid k7; have G7 := Lib.hid g7; have HO7 := Lib.hid (HO6.out.kept G7.out K6.out); have HX7 := Lib.hid (HX6.out.grown G7.out HN.out); clear k7 g7))
    refine bodyPost_ret (results_ax_err Try.results24 _ _ gR _ _ _ rfl K7.out) rfl ?_
    rw [HSQ.out]
    exact ⟨_, rfl, HO7.out.low HE.out.size, HX7.out⟩
  · have HSQ := Lib.hid (show doX x d = ((keepX x d.q d.p.val).1, false, (keepX x d.q d.p.val).2.2) by rw [HDF.out, if_neg (by rw [hk]; decide), if_neg (by rw [hk]; decide)])
    rw [hk]
    clear hk HDF
    go_wp2_with (first | ((with_reducible refine wpList_loadX ?_ (.tmp 3) ?_ g3 (.slice A1 x.a.length c1) (.slice A2 x.s.length c2) (.slice A3 x.p.length c3) ?_ HG3.out ?_); (exact rfl); (exact rfl); (exact rfl)) | (first | ((with_reducible refine wpList_loadS ?_ (.tmp 13) ?_ g2 1 d.q ?_ ?_ ?_); (exact rfl); (exact rfl); (exact rfl); (exact HSP.out)) | ((with_reducible refine wpList_load_wordIn ?_ (.tmp 15) ?_ g2 6 d.p.val ?_ ?_ ?_); (exact rfl); (exact rfl); (exact rfl); (exact HWD.out))))
    refine (keepX_any _ _ _ x d.q d.p.val _ ⟨HX.out.1.ext HE.out, HX.out.2.1.ext HE.out, HX.out.2.2.ext HE.out⟩ (De.q_ok HD.out) HD.out.2.2.2).mono ?_
    rintro e w5 ⟨v', rfl, ⟨a5, s5, p5, rfl, ho1, ho2, ho3⟩, he⟩
    have HR5 := Lib.hid (Cs.ext HR.out he)
    have HX5 := Lib.hid (HE.out.trans he)
    have Y1 := Lib.hid ho1.one
    have Y2 := Lib.hid ho2.one
    have Y3 := Lib.hid ho3.one
    have HO := Lib.hid (show RetX w0.heap.size w5 (.agg #[a5, s5, p5]) _ from ⟨a5, s5, p5, rfl, ho1, ho2, ho3⟩)
    clear he ho1 ho2 ho3
    go_wp2_with (first
      | ((with_reducible refine wpList_storeX ?_ ?_ (.tmp 4) (.tmp 18) ?_ gR (.slice none 0 0) (.slice none 0 0) (.slice none 0 0) a5 s5 p5 ?_ ?_ Y1.out Y2.out Y3.out HR5.out ?_); (exact rfl); (exact rfl); (exact rfl); (exact rfl); (exact rfl); intro w6 k6 g6; have K6 := Lib.hid k6; have G6 := Lib.hid g6; have HO6 := Lib.hid (HO.out.kept G6.out HR5.out); have HX6 := Lib.hid (HX5.out.grown G6.out HN.out); clear k6 g6)
      | ((with_reducible refine wpList_loadX ?_ (.tmp 4) ?_ gR a5 s5 p5 ?_ K6.out ?_); (exact rfl); (exact rfl); (exact rfl))
      | ((with_reducible refine wpList_storeX ?_ ?_ (.tmp 4) (.tmp 41) ?_ gR a5 s5 p5 a5 s5 p5 ?_ ?_ Y1.out Y2.out Y3.out K6.out ?_); (exact rfl); (exact rfl); (exact rfl); (exact rfl); (exact rfl); intro w7 k7 g7; have K7 := Lib.hid k7; have G7 := Lib.hid g7; have HO7 := Lib.hid (HO6.out.kept G7.out K6.out); have HX7 := Lib.hid (HX6.out.grown G7.out HN.out); clear k7 g7))
    refine bodyPost_ret (results_ax_err Try.results24 _ _ gR _ _ _ rfl K7.out) rfl ?_
    rw [HSQ.out]
    exact ⟨_, rfl, HO7.out.low HE.out.size, HX7.out⟩
end Go.Proofs.Ytjampleddeidaaa
