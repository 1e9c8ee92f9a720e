/- AccessNew: a new access has nothing but the addresses; whoever touches them one by one comes to it. -/
import Derived.Test.YtjampleddeidaaaAec
import Derived.Test.YtjampleddeidaaaAed
import Derived.Test.YtjampleddeidaaaAei
namespace Go.Proofs.Ytjampleddeidaaa
open Go.ChangeShapes Go.WideShapes Go.ChangeAt Go.RowKit Go.Shelf

set_option maxRecDepth 100000 in
theorem foldl_len : ∀ (l m : List Pe), RiseX m → (l.foldl plX m).length ≤ m.length + l.length
  | [], m, _ => by simp
  | p :: l, m, h => by
    rw [List.foldl_cons, List.length_cons]
    have h1 := foldl_len l (plX m p) (plX_rise h p)
    have h2 := plX_length h p
    have h3 : (if hasX m p.cod then 0 else 1) ≤ 1 := by split <;> omega
    omega
set_option maxRecDepth 100000 in
theorem srX_len (l : List Pe) : (srX l).length ≤ l.length := by have := foldl_len l [] rise_nil; simpa [srX] using this
set_option maxRecDepth 100000 in
theorem srX_snoc {l : List Pe} {i : Nat} (hi : i < l.length) : srX (l.take (i + 1)) = plX (srX (l.take i)) (l.getD i pz0) := by
  have hg : l[i]? = some (l.getD i pz0) := by rw [List.getD_eq_getElem?_getD, List.getElem?_eq_getElem hi]; rfl
  unfold srX
  rw [List.take_add_one, hg, Option.toList_some, List.foldl_append]
  rfl
set_option maxRecDepth 100000 in
theorem hasX_sr {l : List Pe} (hl : ∀ p ∈ l, okA p) {q : Pe} (hq : okA q) : hasX (srX l) q.cod = decide (q ∈ l) := by
  by_cases h : q ∈ l
  · rw [decide_eq_true h]
    exact (hasX_iff (srX_rise l)).2 ⟨q, (mem_srX hl q).2 h, rfl⟩
  · rw [decide_eq_false h]
    cases hh : hasX (srX l) q.cod with
    | false => rfl
    | true =>
      obtain ⟨p, hp, e⟩ := (hasX_iff (srX_rise l)).1 hh
      have hp' := (mem_srX hl p).1 hp
      exact absurd (cod_eq (hl p hp') hq e ▸ hp') h
def nwX (l : List Pe) : Ax := ⟨srX l, [], []⟩
set_option maxRecDepth 100000 in
theorem nwX_right {l : List Pe} (hl : l.length ≤ 400) : rightX (nwX l) = true := by
  unfold rightX nwX
  have h1 : rsB (srX l) = true := rs_iff.2 ⟨Nat.le_trans (srX_len l) hl, srX_rise l⟩
  rw [h1]
  rfl
set_option maxRecDepth 100000 in
theorem new_nw {l : List Pe} (hl : l.length ≤ 400) : newX l = (nwX l, 0) := by
  unfold newX
  rw [if_neg (by have := srX_len l; omega)]
  rfl
set_option maxRecDepth 100000 in
theorem touch_nw {l : List Pe} (hl : l.length ≤ 400) (ho : ∀ p ∈ l, okA p) {i : Nat} (hi : i < l.length) : touchX (nwX (l.take i)) (l.getD i pz0) = (nwX (l.take (i + 1)), !decide (l.getD i pz0 ∈ l.take i), 0) := by
  have hlt : (l.take i).length = i := by rw [List.length_take]; omega
  have hr := nwX_right (l := l.take i) (by omega)
  have he : ptE (srX (l.take i)) (l.getD i pz0) = 0 := by
    unfold ptE
    rw [if_neg (fun h => by have := srX_len (l.take i); omega)]
  have hb : ptB (srX (l.take i)) (l.getD i pz0) = !decide (l.getD i pz0 ∈ l.take i) := by
    unfold ptB
    rw [if_pos he, hasX_sr (fun p hp => ho p (List.mem_of_mem_take hp)) (ho _ (getX_mem hi))]
  have hL : ptL (srX (l.take i)) (l.getD i pz0) = srX (l.take (i + 1)) := by
    unfold ptL
    rw [if_pos he, srX_snoc hi]
  unfold touchX chg
  rw [if_pos hr]
  show (if ptE (srX (l.take i)) (l.getD i pz0) = 0 then _ else _) = _
  rw [if_pos he]
  show ((⟨ptL (srX (l.take i)) (l.getD i pz0), [], []⟩ : Ax), ptB (srX (l.take i)) (l.getD i pz0), (0 : Int)) = _
  rw [hL, hb]
  rfl
set_option maxRecDepth 100000 in
theorem warm_nw {l : List Pe} (hl : l.length ≤ 400) (ho : ∀ p ∈ l, okA p) {i : Nat} (hi : i < l.length) : warmX (nwX l) (l.getD i pz0) = true := by
  unfold warmX
  rw [nwX_right hl, Bool.true_and]
  show hasX (srX l) _ = true
  rw [hasX_sr ho (ho _ (getX_mem hi)), decide_eq_true (getX_mem hi)]
/-- What lies there while addresses are touched one by one. -/
def NuJ (w : World) (g3 g5 : Nat) (xv yv : Array Value) (x y : Ax) (W : World) : Prop := Ext w W ∧ (Cs W g3 26 xv ∧ RetX 0 W (.agg xv) x) ∧ (Cs W g5 26 yv ∧ RetX 0 W (.agg yv) y)
set_option maxRecDepth 100000 in
theorem NuJ.ext {w : World} {g3 g5 : Nat} {xv yv : Array Value} {x y : Ax} {W W' : World} (h : NuJ w g3 g5 xv yv x y W) (he : Ext W W') : NuJ w g3 g5 xv yv x y W' := ⟨h.1.trans he, ⟨Cs.ext h.2.1.1 he, h.2.1.2.ext he⟩, Cs.ext h.2.2.1 he, h.2.2.2.ext he⟩
set_option maxRecDepth 100000 in
theorem RetX.rows {lo : Nat} {W : World} {a s p : Value} {x : Ax} (h : RetX lo W (.agg #[a, s, p]) x) : AxR W a s p x ∧ a.oneCell' = true ∧ s.oneCell' = true ∧ p.oneCell' = true := by
  obtain ⟨a', s', p', e, hx, h1, h2, h3⟩ := h.ax
  injection e with e
  have e := congrArg Array.toList e
  simp only at e
  injection e with e1 e
  injection e with e2 e
  injection e with e3 _
  subst e1 e2 e3
  exact ⟨hx, h1, h2, h3⟩
set_option maxRecDepth 100000 in
set_option maxHeartbeats 16000000 in
theorem accessNew_any (v : Value) (l : List Pe) (w : World) (hs : XA w v l) : Calls Try.prog 8 #[v] w (RetT w) := by
  have HS := Lib.hid hs
  have HOK := Lib.hid hs.oks2
  obtain ⟨A0, c0, rfl, h1, h2⟩ := hs.len
  unfold maxLen at h2
  clear hs
  go_enter Try.func8, Try.ntmps8
  go_wp2_with fail
  refine (wakesX_any _).mono ?_
  rintro e w1 ⟨rfl, he⟩
  have HE := Lib.hid he
  clear he
  by_cases hl : 200 < l.length
  · have d1 : decide ((200 : Int) < (l.length : Int)) = true := decide_eq_true (by omega)
    clear hl
    go_wp2_with fail
    refine bodyPost_ret (results_tmp rfl _ _ _) rfl ?_
    exact ⟨rfl, HE.out⟩
  have d1 : decide ((200 : Int) < (l.length : Int)) = false := decide_eq_false (by omega)
  have HL := Lib.hid (show l.length ≤ 200 by omega)
  clear hl
  go_wp2_with fail
  refine (newX_any _ l _ (HS.out.ext HE.out) (by have := HL.out; omega)).mono ?_
  rintro e w2 ⟨v2, rfl, hr, he⟩
  rw [new_nw (by have := HL.out; omega)] at hr ⊢
  have HE2 := Lib.hid (HE.out.trans he)
  obtain ⟨xa, xs, xp, rfl, hxr, y1, y2, y3⟩ := hr.ax
  obtain ⟨X1, b1, rfl, _, _⟩ := hxr.1.len
  obtain ⟨X2, b2, e2, _, _⟩ := hxr.2.1.len
  obtain ⟨X3, b3, e3, _, _⟩ := hxr.2.2.len
  rw [show (nwX l).s.length = 0 from rfl] at e2
  rw [show (nwX l).p.length = 0 from rfl] at e3
  subst e2 e3
  have HR2 := Lib.hid (hr.low (Nat.zero_le _))
  clear hr he hxr y1 y2 y3
  obtain ⟨nx, hnx⟩ : ∃ n, (nwX l).a.length = n := ⟨_, rfl⟩
  rw [hnx] at HR2 ⊢
  clear hnx
  dsimp only
  go_wp2_with ((with_reducible refine wpList_storeX ?_ ?_ (.tmp 3) (.tmp 20) ?_ w2.heap.size (.slice none 0 0) (.slice none 0 0) (.slice none 0 0) (.slice X1 nx b1) (.slice X2 0 b2) (.slice X3 0 b3) ?_ ?_ rfl rfl rfl (Cs.new _ _ _ _ rfl) ?_); (exact rfl); (exact rfl); (exact rfl); (exact rfl); (exact rfl); intro w3 k3 g3; have K3 := Lib.hid k3; have E3 := Lib.hid (((Ext.refl w2).alloc _).grown g3 (Nat.le_refl _)); have HR3 := Lib.hid (HR2.out.ext E3.out); clear k3 g3)
  refine (newX_any (.slice none 0 0) [] _ ((OwnA.nil w3 0).xs) (by decide)).mono ?_
  rintro e w4 ⟨v4, rfl, hr, he⟩
  rw [show newX [] = (nwX [], 0) from new_nw (by decide)] at hr ⊢
  have E4 := Lib.hid (E3.out.trans he)
  have K4 := Lib.hid (Cs.ext K3.out he)
  have HR4 := Lib.hid (HR3.out.ext he)
  obtain ⟨ya, ys, yp, rfl, hyr, y1, y2, y3⟩ := hr.ax
  obtain ⟨Y1, d1', e1, _, _⟩ := hyr.1.len
  rw [show (nwX []).a.length = 0 from rfl] at e1
  subst e1
  have HY4 := Lib.hid (hr.low (Nat.zero_le _))
  have YB := Lib.hid y2
  have YC := Lib.hid y3
  clear hr he hyr y1 y2 y3
  dsimp only
  have HB4 := Lib.hid (show w.heap.size ≤ w4.heap.size from (HE2.out.trans E4.out).size)
  go_wp2_with ((with_reducible refine wpList_storeX ?_ ?_ (.tmp 5) (.tmp 24) ?_ w4.heap.size (.slice none 0 0) (.slice none 0 0) (.slice none 0 0) (.slice Y1 0 d1') ys yp ?_ ?_ rfl YB.out YC.out (Cs.new _ _ _ _ rfl) ?_); (exact rfl); (exact rfl); (exact rfl); (exact rfl); (exact rfl); intro w5 k5 g5; have E5 := Lib.hid (((Ext.refl w4).alloc _).grown g5 (Nat.le_refl _)); have HJ0 := Lib.hid (show NuJ w w2.heap.size w4.heap.size #[.slice X1 nx b1, .slice X2 0 b2, .slice X3 0 b3] #[.slice Y1 0 d1', ys, yp] (nwX l) (nwX []) w5 from ⟨(HE2.out.trans E4.out).trans E5.out, ⟨Cs.ext K4.out E5.out, HR4.out.ext E5.out⟩, k5, HY4.out.ext E5.out⟩); have q5 : w5.cell? ⟨w4.heap.size, 0, none⟩ = some (.slice Y1 0 d1') := HJ0.out.2.2.1.cell 0 _ rfl; have q31 : w5.cell? ⟨w2.heap.size, 1, none⟩ = some (.slice X2 0 b2) := HJ0.out.2.1.1.cell 1 _ rfl; have q32 : w5.cell? ⟨w2.heap.size, 2, none⟩ = some (.slice X3 0 b3) := HJ0.out.2.1.1.cell 2 _ rfl; clear k5 g5)
  obtain ⟨g3, hg3⟩ : ∃ g, w2.heap.size = g := ⟨_, rfl⟩
  obtain ⟨g5, hg5⟩ : ∃ g, w4.heap.size = g := ⟨_, rfl⟩
  have HNE := Lib.hid (show g3 < g5 by rw [← hg3, ← hg5]; have := Cs.lt K4.out; omega)
  have HGW := Lib.hid (show w.heap.size ≤ g5 by rw [← hg5]; exact HB4.out)
  rw [hg3, hg5] at HJ0
  rw [hg3, hg5]
  clear q5 q31 q32 hg3 hg5 K3 E3 HR3 K4 E4 HR4 HY4 HE2 HE HR2 YB YC HB4 E5
  go_loopw [48] (fun iv wr => ∃ (i : Nat) (ya ys yp : Value), i ≤ l.length ∧ iv = .int .i64 i ∧ Hid (NuJ w g3 g5 #[.slice X1 nx b1, .slice X2 0 b2, .slice X3 0 b3] #[ya, ys, yp] (nwX l) (nwX (l.take i)) wr)) (fun iv _ => l.length - (intOf iv).toNat)
  case atStart => exact ⟨0, _, _, _, Nat.zero_le _, rfl, HJ0⟩
  case round =>
    obtain ⟨i, ya, ys, yp, hi, rfl, HJ⟩ := hrel
    clear HJ0
    have G3 : Hid (Cs wr g3 26 #[.slice X1 nx b1, .slice X2 0 b2, .slice X3 0 b3]) := Lib.hid HJ.out.2.1.1
    have G5 : Hid (Cs wr g5 26 #[ya, ys, yp]) := Lib.hid HJ.out.2.2.1
    by_cases hlt : i < l.length
    · have hd : decide (i < l.length) = true := decide_eq_true hlt
      have hd2 : decide ((i : Int) < (l.length : Int)) = true := decide_eq_true (by omega)
      obtain ⟨bb, oo, rfl, hrg, hok⟩ := (HS.out.ext HJ.out.1).at i hlt
      have hcl := ex_addr hrg
      have HT := Lib.hid (touch_nw (by have := HL.out; omega) HOK.out hlt)
      have HWM := Lib.hid (warm_nw (by have := HL.out; omega) HOK.out hlt)
      have HQ := Lib.hid hok
      have HTK := Lib.hid (Sl.takeX HS.out i (Nat.le_of_lt hlt))
      clear hrg hok
      generalize l.getD i pz0 = q at *
      go_wp2_with ((with_reducible refine wpList_loadX ?_ (.tmp 5) ?_ g5 ya ys yp ?_ G5.out ?_); (exact rfl); (exact rfl); (exact rfl))
      refine (touchX_any _ _ _ _ q _ HJ.out.2.2.2.rows.1 HQ.out).mono ?_
      rintro e w6 ⟨v6, rfl, hr, he⟩
      rw [HT.out] at hr ⊢
      have HJ := Lib.hid (HJ.out.ext he)
      obtain ⟨na, ns, np, rfl, hnr, y1, y2, y3⟩ := hr.ax
      have HN6 := Lib.hid (hr.low (Nat.zero_le _))
      have Z1 := Lib.hid y1
      have Z2 := Lib.hid y2
      have Z3 := Lib.hid y3
      clear hr he hnr y1 y2 y3 G3 G5 hcl
      dsimp only
      obtain ⟨cb, hcb⟩ : ∃ b, decide (q ∈ l.take i) = b := ⟨_, rfl⟩
      have HCB := Lib.hid hcb
      rw [hcb]
      clear hcb
      have hic : i ≤ c0 := by omega
      have hnn : ((!cb) != !cb) = false := by simp
      have hnn2 : ((!cb) == !cb) = true := by simp
      go_wp2_with ((with_reducible refine wpList_storeX ?_ ?_ (.tmp 9) (.tmp 57) ?_ w6.heap.size (.slice none 0 0) (.slice none 0 0) (.slice none 0 0) na ns np ?_ ?_ Z1.out Z2.out Z3.out (Cs.new _ _ _ _ rfl) ?_); (exact rfl); (exact rfl); (exact rfl); (exact rfl); (exact rfl); intro w7 k7 g7; have E7 := Lib.hid (((Ext.refl w6).alloc _).grown g7 (Nat.le_refl _)); have K7 := Lib.hid k7; have HJ := Lib.hid (HJ.out.ext E7.out); have HN7 := Lib.hid (HN6.out.ext E7.out); clear k7 g7)
      refine (containsA_any _ (l.take i) q _ (XA.ext HTK.out HJ.out.1) HQ.out).mono ?_
      rintro e w8 ⟨rfl, he⟩
      rw [HCB.out]
      have HJ := Lib.hid (HJ.out.ext he)
      have K8 := Lib.hid (Cs.ext K7.out he)
      have HN8 := Lib.hid (HN7.out.ext he)
      have G3 : Hid (Cs w8 g3 26 #[.slice X1 nx b1, .slice X2 0 b2, .slice X3 0 b3]) := Lib.hid HJ.out.2.1.1
      clear he K7 HN7
      go_wp2_with ((with_reducible refine wpList_loadX ?_ (.tmp 3) ?_ g3 (.slice X1 nx b1) (.slice X2 0 b2) (.slice X3 0 b3) ?_ G3.out ?_); (exact rfl); (exact rfl); (exact rfl))
      refine (warmX_any _ _ _ _ q _ HJ.out.2.1.2.rows.1 HQ.out).mono ?_
      rintro e w9 ⟨rfl, he⟩
      rw [HWM.out]
      have HJ := Lib.hid (HJ.out.ext he)
      have K9 := Lib.hid (Cs.ext K8.out he)
      have HN9 := Lib.hid (HN8.out.ext he)
      have G5 : Hid (Cs w9 g5 26 #[ya, ys, yp]) := Lib.hid HJ.out.2.2.1
      clear he K8 HN8 G3
      go_wp2_with (first
        | ((with_reducible refine wpList_loadX ?_ (.tmp 9) ?_ w6.heap.size na ns np ?_ K9.out ?_); (exact rfl); (exact rfl); (exact rfl))
        | ((with_reducible refine wpList_storeX ?_ ?_ (.tmp 5) (.tmp 78) ?_ g5 ya ys yp na ns np ?_ ?_ Z1.out Z2.out Z3.out G5.out ?_); (exact rfl); (exact rfl); (exact rfl); (exact rfl); (exact rfl); intro wa ka ga; have HJN := Lib.hid (show NuJ w g3 g5 #[.slice X1 nx b1, .slice X2 0 b2, .slice X3 0 b3] #[na, ns, np] (nwX l) (nwX (l.take (i + 1))) wa from ⟨HJ.out.1.grown ga HGW.out, ⟨Cs.kept HJ.out.2.1.1 ga (fun e => by injection e with e; have := HNE.out; omega), HJ.out.2.1.2.kept ga HJ.out.2.2.1⟩, ka, HN9.out.kept ga HJ.out.2.2.1⟩); clear ka ga))
      exact ⟨⟨i + 1, na, ns, np, by omega, by go_num, HJN⟩, by simp [intOf]; omega⟩
    · obtain rfl : i = l.length := by omega
      have hd : decide (l.length < l.length) = false := decide_eq_false (by omega)
      have hd2 : decide ((l.length : Int) < (l.length : Int)) = false := decide_eq_false (by omega)
      have HTL := Lib.hid (show sameX (nwX l) (nwX (l.take l.length)) = true by rw [List.take_length]; exact sameX_iff.2 rfl)
      go_wp2_with (first
        | ((with_reducible refine wpList_loadX ?_ (.tmp 3) ?_ g3 (.slice X1 nx b1) (.slice X2 0 b2) (.slice X3 0 b3) ?_ G3.out ?_); (exact rfl); (exact rfl); (exact rfl))
        | ((with_reducible refine wpList_loadX ?_ (.tmp 5) ?_ g5 ya ys yp ?_ G5.out ?_); (exact rfl); (exact rfl); (exact rfl)))
      refine (sameX_any _ _ _ _ _ _ _ _ _ HJ.out.2.1.2.rows.1 HJ.out.2.2.2.rows.1).mono ?_
      rintro e wa ⟨rfl, he⟩
      rw [HTL.out]
      have HE := Lib.hid (HJ.out.1.trans he)
      clear he
      go_wp2_with fail
      refine bodyPost_ret (results_tmp rfl _ _ _) rfl ?_
      exact ⟨rfl, HE.out⟩
set_option maxRecDepth 100000 in
theorem row_came {H : Type} {enc : TypeId × Value → H} {W : World} {v : Value} {d : DataW H} {p : List MemPlace}
    (h : DataW.Trod enc Try.prog W 0 (fun _ => true) true 22 v d p) (hv : v.cells.toList = [v]) : ∃ l : List Pe, XA W v l := by
  obtain ⟨fuel, hf⟩ := h
  obtain ⟨s, l, hc, hl⟩ := slice_came (α := Pe) (s := 1) Try.underlying22 (by kernel_rfl) (by decide) RA (fun _ _ _ h => addr_trod h) hf
  rw [hv] at hc
  injection hc with hc _
  rw [hc]
  exact ⟨l, hl⟩
set_option maxRecDepth 100000 in
theorem accessNew_told (W : World) (args : Array Value) (h : Told Try.f8 W args) : Calls Try.prog 8 args W (RetT W) := by
  obtain ⟨H, enc, base, ds, p, hval, hA⟩ := h
  rw [Try.params8] at hA hval
  obtain ⟨v0, d0, rfl, rfl, h0⟩ := trodAll_one hA
  have hv0 := hval 0 _ v0 rfl rfl
  obtain ⟨a0, len0, cap0, rfl⟩ := okWide_slice Try.underlying22 hv0
  obtain ⟨l, hl⟩ := row_came h0 (by simp [Value.cells])
  exact accessNew_any _ l W hl

set_option maxRecDepth 100000 in
theorem accessNew_spec (H : Type) : ∀ ds : List (DataW H), ds.length = Try.f8.params.toList.length → Rows.accessNewSpec.fn H ds = { results := [.lit (.bool true)], args := ds }
  | [_], _ => rfl
  | [], h | _ :: _ :: _, h => by rw [Try.params8] at h; simp at h

set_option maxRecDepth 100000 in
theorem accessNew_holds : Rows.AccessNewSaid :=
  OpenClaim.holds_of_wide 8 Try.f8 rfl rfl rfl rfl rfl rfl rfl ⟨rfl, rfl, rfl, rfl, rfl⟩ rfl rfl rfl rfl rfl (by kernel_rfl) Try.func8 (by kernel_rfl)
    (of_decide_eq_true (by kernel_rfl)) (by unfold Func.isWrapper; first | (rw [if_pos (by decide +kernel)]; kernel_rfl) | (rw [if_neg (by decide +kernel)]; exact ⟨rfl, rfl⟩))
    (fun os started H enc _ => law_lifted started (by kernel_rfl) Try.func8 rfl rfl (accessNew_spec H) (of_decide_eq_true (by kernel_rfl))
      (ChangeSpec.witness6 (enc := enc) (C := Try.checked) false ⟨#[], #[.slice none 0 0], []⟩ 8 (by kernel_rfl) (by kernel_rfl) (by kernel_rfl) (by kernel_rfl)) accessNew_told)
end Go.Proofs.Ytjampleddeidaaa
