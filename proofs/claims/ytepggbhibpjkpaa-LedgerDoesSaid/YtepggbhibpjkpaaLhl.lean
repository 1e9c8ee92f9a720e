/- Package ledger: the laws' own over, wakes, does. -/
import Derived.Test.YtepggbhibpjkpaaLhk
namespace Go.Proofs.Ytepggbhibpjkpaa
open Go.ChangeShapes Go.WideShapes Go.ChangeAt Go.RowKit Go.Shelf

set_option maxRecDepth 100000 in
theorem overL_any (v : Value) (l : List Hd) (w : World) (hs : Hds w v l) : Calls Try.prog 40 #[.agg #[v]] w fun e w' => e = .returned (.bool (decide (40 < l.length))) ∧ Ext w w' := by
  obtain ⟨A1, c, rfl, h1, h2⟩ := hs.len
  unfold maxLen at h2
  have HE := Lib.hid ((Ext.refl w).alloc (.cells #[.slice A1 l.length c] 88))
  have q1 := (Cs.new w #[.slice A1 l.length c] 88 _ rfl).cell 0 _ rfl
  have HD := Lib.hid (show decide ((40 : Int) < (l.length : Int)) = decide (40 < l.length) by simp; omega)
  clear hs
  go_enter Try.func40, Try.ntmps40
  go_wp2_with fail
  go_ret
  exact ⟨by rw [← HD.out]; rfl, HE.out⟩
/-! ### wakes -/
set_option maxRecDepth 100000 in
theorem wl_lit (n : Nat) (h : n < 18446744073709551616) : Value.agg #[.int .u64 (n : Nat), .int .u64 0, .int .u64 0, .int .u64 0] = wv n := by unfold wv; rw [wc_small n h]
def wlA : List Hd := [⟨20, 7, 0, 0, 0⟩]
def wlB : List Hd := [⟨20, 7, 5, 100, 0⟩]
set_option maxRecDepth 100000 in
theorem wlDep_any (w : World) : Calls Try.prog 77 #[.agg #[.slice none 0 0], .int .u64 20, .agg #[.int .u64 7, .int .u64 0, .int .u64 0, .int .u64 0]] w (RetG w (wlA, 0)) := by
  have := deposit_any (.slice none 0 0) [] 20 7 w (Hds.nil w) (by decide) (by decide)
  rw [show depS [] 20 7 = (wlA, 0) by decide +kernel, ← wl_lit 7 (by decide)] at this
  exact this
set_option maxRecDepth 100000 in
theorem wlBnd_any (v : Value) (w : World) (h : Hds w v wlA) : Calls Try.prog 78 #[.agg #[v], .int .u64 20, .agg #[.int .u64 5, .int .u64 0, .int .u64 0, .int .u64 0], .int .u64 100] w (RetG w (wlB, 0)) := by
  have := bond_any v wlA 20 5 100 w h (by decide) (by decide) (by decide)
  rw [show bndS wlA 20 5 100 = (wlB, 0) by decide +kernel, ← wl_lit 5 (by decide)] at this
  exact this
set_option maxRecDepth 100000 in
theorem wlWdr_any (v : Value) (w : World) (h : Hds w v wlA) : Calls Try.prog 79 #[.agg #[v], .int .u64 20, .agg #[.int .u64 8, .int .u64 0, .int .u64 0, .int .u64 0]] w (RetG w ([], 162)) := by
  have := withdraw_any v wlA 20 8 w h (by decide) (by decide)
  rw [show wdrS wlA 20 8 = ([], 162) by decide +kernel, ← wl_lit 8 (by decide)] at this
  exact this
set_option maxRecDepth 100000 in
theorem wlSum_any (v : Value) (w : World) (h : Hds w v wlB) : Calls Try.prog 80 #[.agg #[v]] w fun e w' => e = .returned (wv 12) ∧ Ext w w' := by
  have := sumL_any v wlB w h (by decide)
  rw [show sumG wlB = 12 by decide +kernel] at this
  exact this
set_option maxRecDepth 100000 in
theorem wlStB_any (v : Value) (w : World) (h : Hds w v wlB) : Calls Try.prog 81 #[.agg #[v], .int .u64 20, .agg #[.int .u64 5, .int .u64 0, .int .u64 0, .int .u64 0], .int .u64 100] w fun e w' => e = .returned (.bool true) ∧ Ext w w' := by
  have := stakedL_any v wlB 20 5 100 w h (by decide) (by decide) (by decide)
  rw [show stdG wlB 20 5 100 = true by decide +kernel, ← wl_lit 5 (by decide)] at this
  exact this
set_option maxRecDepth 100000 in
theorem wlStA_any (v : Value) (w : World) (h : Hds w v wlA) : Calls Try.prog 81 #[.agg #[v], .int .u64 20, .agg #[.int .u64 0, .int .u64 0, .int .u64 0, .int .u64 0], .int .u64 0] w fun e w' => e = .returned (.bool false) ∧ Ext w w' := by
  have := stakedL_any v wlA 20 0 0 w h (by decide) (by decide) (by decide)
  rw [show stdG wlA 20 0 0 = false by decide +kernel, ← wl_lit 0 (by decide)] at this
  exact this
set_option maxRecDepth 100000 in
set_option maxHeartbeats 4000000 in
theorem wakesL_any (w : World) : Calls Try.prog 39 #[] w fun e w' => e = .returned (.bool true) ∧ Ext w w' := by
  go_enter Try.func39, Try.ntmps39
  go_wp2_with fail
  refine (wlDep_any w).mono ?_
  rintro e w1 ⟨v1, rfl, hr, he⟩
  dsimp only at hr ⊢
  obtain ⟨A1, c1, e1, _, _⟩ := hr.sl
  rw [show wlA.length = 1 from rfl] at e1
  subst e1
  have HC1 : Hid (Cs (w1.alloc (.cells #[.slice A1 1 c1] 88)) w1.heap.size 88 #[.slice A1 1 c1]) := Lib.hid (Cs.new _ _ _ _ rfl)
  have HD1 := Lib.hid (hr.hds.ext ((Ext.refl w1).alloc (.cells #[.slice A1 1 c1] 88)))
  have HE1 := Lib.hid (he.alloc (.cells #[.slice A1 1 c1] 88))
  have q1 := HC1.out.cell 0 _ rfl
  clear hr he
  go_wp2_with fail
  clear q1
  generalize w1.alloc (.cells #[.slice A1 1 c1] 88) = w2 at *
  obtain ⟨g1, hg1⟩ : ∃ g, w1.heap.size = g := ⟨_, rfl⟩
  rw [hg1] at HC1 ⊢
  clear hg1
  refine (wlBnd_any _ w2 HD1.out).mono ?_
  rintro e w3 ⟨v3, rfl, hr, he⟩
  dsimp only at hr ⊢
  obtain ⟨A3, c3, e3, _, _⟩ := hr.sl
  rw [show wlB.length = 1 from rfl] at e3
  subst e3
  have HX := Lib.hid (he.alloc (.cells #[.slice A3 1 c3] 88))
  have HC3 : Hid (Cs (w3.alloc (.cells #[.slice A3 1 c3] 88)) w3.heap.size 88 #[.slice A3 1 c3]) := Lib.hid (Cs.new _ _ _ _ rfl)
  have HD3 := Lib.hid (hr.hds.ext ((Ext.refl w3).alloc (.cells #[.slice A3 1 c3] 88)))
  have HC1 := Lib.hid (Cs.ext HC1.out HX.out)
  have HD1 := Lib.hid (HD1.out.ext HX.out)
  have HE3 := Lib.hid (HE1.out.trans HX.out)
  have q1 := HC1.out.cell 0 _ rfl
  clear hr he HX HE1
  go_wp2_with fail
  clear q1
  generalize w3.alloc (.cells #[.slice A3 1 c3] 88) = w4 at *
  obtain ⟨g3, hg3⟩ : ∃ g, w3.heap.size = g := ⟨_, rfl⟩
  rw [hg3] at HC3 ⊢
  clear hg3
  refine (wlWdr_any _ w4 HD1.out).mono ?_
  rintro e w5 ⟨v5, rfl, hr, he⟩
  dsimp only at hr ⊢
  obtain ⟨A5, c5, e5, _, _⟩ := hr.sl
  rw [List.length_nil] at e5
  subst e5
  have HX := Lib.hid (he.alloc (.cells #[.slice A5 0 c5] 88))
  have HC1 := Lib.hid (Cs.ext HC1.out HX.out)
  have HD1 := Lib.hid (HD1.out.ext HX.out)
  have HC3 := Lib.hid (Cs.ext HC3.out HX.out)
  have HD3 := Lib.hid (HD3.out.ext HX.out)
  have HE5 := Lib.hid (HE3.out.trans HX.out)
  have q3 := HC3.out.cell 0 _ rfl
  clear hr he HX HE3
  go_wp2_with fail
  clear q3
  generalize w5.alloc (.cells #[.slice A5 0 c5] 88) = w6 at *
  refine (wlSum_any _ w6 HD3.out).mono ?_
  rintro e w7 ⟨rfl, he⟩
  have HC1 := Lib.hid (Cs.ext HC1.out he)
  have HD1 := Lib.hid (HD1.out.ext he)
  have HC3 := Lib.hid (Cs.ext HC3.out he)
  have HD3 := Lib.hid (HD3.out.ext he)
  have HE7 := Lib.hid (HE5.out.trans he)
  have q3 := HC3.out.cell 0 _ rfl
  clear he HE5
  go_wp2_with ((with_reducible refine wpList_eql_word ?_ (.tmp 37) (.tmp 38) ?_ 12 12 (by decide) (by decide) ?_ ?_ ?_); (exact rfl); (exact rfl); (exact rfl); (exact wl_lit 12 (by decide)); rw [show ((12 : Nat) == 12) = true from rfl])
  clear q3
  refine (wlStB_any _ w7 HD3.out).mono ?_
  rintro e w8 ⟨rfl, he⟩
  have HC1 := Lib.hid (Cs.ext HC1.out he)
  have HD1 := Lib.hid (HD1.out.ext he)
  have HE8 := Lib.hid (HE7.out.trans he)
  have q1 := HC1.out.cell 0 _ rfl
  clear he HE7
  go_wp2_with fail
  refine (wlStA_any _ w8 HD1.out).mono ?_
  rintro e w9 ⟨rfl, he⟩
  have HE9 := Lib.hid (HE8.out.trans he)
  clear he q1
  go_wp2_with fail
  go_ret
  exact ⟨rfl, HE9.out⟩
/-! ### Deeds -/
structure Dd where
  kind : Int
  addr : Nat
  n : Nat
  dly : Nat
  now : Nat
def Dd.ok (d : Dd) : Prop := (-9223372036854775808 ≤ d.kind ∧ d.kind ≤ 9223372036854775807) ∧ d.addr < 18446744073709551616 ∧ d.n < M256 ∧ d.dly < 18446744073709551616 ∧ d.now < 18446744073709551616
def ddc (d : Dd) : Array Value := #[.int .i64 d.kind, .int .u64 (d.addr : Nat), lv (lb d.n 0), lv (lb d.n 1), lv (lb d.n 2), lv (lb d.n 3), .int .u64 (d.dly : Nat), .int .u64 (d.now : Nat)]
set_option maxRecDepth 100000 in
theorem ddc_one (d : Dd) : (ddc d).all (·.oneCell') = true := by simp [ddc, lv, Value.oneCell']
def kdD (d : Dd) : Int := (IntKind.u64.wrap d.kind).tmod 5
set_option maxRecDepth 100000 in
theorem kdD_cases (d : Dd) : kdD d = 0 ∨ kdD d = 1 ∨ kdD d = 2 ∨ kdD d = 3 ∨ kdD d = 4 := by
  have h : ∃ n : Nat, IntKind.u64.wrap d.kind = (n : Int) := ⟨(IntKind.u64.wrap d.kind).toNat, by
    rw [Int.toNat_of_nonneg]
    simp only [IntKind.wrap, IntKind.signed, IntKind.bits]
    first | exact Int.emod_nonneg _ (by decide) | (split <;> first | exact Int.emod_nonneg _ (by decide) | omega)⟩
  obtain ⟨n, hn⟩ := h
  unfold kdD
  rw [hn]
  have : ((n : Int)).tmod 5 = ((n % 5 : Nat) : Int) := by rw [Int.tmod_eq_emod_of_nonneg (by omega)]; omega
  rw [this]
  omega
/-- What comes of a ledger by a deed. -/
def doS (l : List Hd) (d : Dd) : List Hd × Nat × Int := if kdD d = 0 then ((depS l d.addr d.n).1, 0, (depS l d.addr d.n).2) else if kdD d = 1 then ((wdrS l d.addr d.n).1, 0, (wdrS l d.addr d.n).2) else if kdD d = 2 then ((bndS l d.addr d.n d.dly).1, 0, (bndS l d.addr d.n d.dly).2) else if kdD d = 3 then ((ulkS l d.addr d.now).1, 0, (ulkS l d.addr d.now).2) else relS l d.addr d.now
set_option maxRecDepth 100000 in
theorem dd_word {W : World} {g : Nat} {t : TypeId} {d : Dd} (h : Cs W g t (ddc d)) : W.rangeAt g 2 (wc d.n).toList := fun j x hx => by
  have hj : j < 4 := by
    have h1 := (List.getElem?_eq_some_iff.1 hx).1
    simpa [wc] using h1
  obtain rfl | rfl | rfl | rfl : j = 0 ∨ j = 1 ∨ j = 2 ∨ j = 3 := by omega
  all_goals exact Cs.cell h _ _ (by simpa [wc, ddc] using hx)
set_option maxRecDepth 100000 in
theorem DoJ.ext {w W W' : World} {lo gR gZ n : Nat} {v' : Value} {m : List Hd} {P : Prop} (h : OwnH W lo v' m ∧ Cs W gR 88 #[v'] ∧ Cs W gZ 29 (wc n) ∧ Ext w W ∧ P) (he : Ext W W') : OwnH W' lo v' m ∧ Cs W' gR 88 #[v'] ∧ Cs W' gZ 29 (wc n) ∧ Ext w W' ∧ P := ⟨h.1.ext he, Cs.ext h.2.1 he, Cs.ext h.2.2.1 he, h.2.2.2.1.trans he, h.2.2.2.2⟩
set_option maxRecDepth 100000 in
theorem DoK.ext {w W W' : World} {lo gR gZ n : Nat} {v' : Value} {m : List Hd} (h : OwnH W lo v' m ∧ Cs W gR 88 #[v'] ∧ Cs W gZ 29 (wc n) ∧ Ext w W) (he : Ext W W') : OwnH W' lo v' m ∧ Cs W' gR 88 #[v'] ∧ Cs W' gZ 29 (wc n) ∧ Ext w W' := ⟨h.1.ext he, Cs.ext h.2.1 he, Cs.ext h.2.2.1 he, h.2.2.2.trans he⟩
set_option maxRecDepth 100000 in
/-- A block that is written as it was. -/
theorem ext_same {W W' : World} {g : Nat} {t : TypeId} {cs : Array Value} (h : Cs W g t cs) (k : Cs W' g t cs) (hg : W.grownBy W' (some g)) : Ext W W' := ⟨hg.os, hg.tape, hg.output, hg.size, fun i hi => by
  by_cases e : i = g
  · subst e; exact (show W'.heap[i]? = _ from k).trans (show W.heap[i]? = _ from h).symm
  · exact hg.block i hi (by simpa using e)⟩
set_option maxRecDepth 100000 in
theorem relS_word {l : List Hd} (h : ∀ p ∈ l, p.ok) {a n : Nat} (ha : a < 18446744073709551616) : (relS l a n).2.1 < M256 := by
  unfold relS
  split
  · exact M256_pos
  · split
    · exact M256_pos
    · split
      · exact M256_pos
      · exact (rowG_ok h ha).2.2.1
set_option maxRecDepth 100000 in
theorem RetG.toR {w : World} {r : List Hd × Int} {e : Ending} {w' : World} (h : RetG w r e w') : ∃ v', e = .returned (.tuple #[.agg #[v'], .int .i64 r.2]) ∧ OwnH w' w.heap.size v' r.1 ∧ Ext w w' := h
set_option maxRecDepth 100000 in
set_option maxHeartbeats 4000000 in
theorem does_any (d : Dd) (v : Value) (l : List Hd) (w : World) (hd : d.ok) (hs : Hds w v l) : Calls Try.prog 41 #[.agg (ddc d), .agg #[v]] w (RetR w (doS l d)) := by
  have HD := Lib.hid hd
  have HS := Lib.hid hs
  obtain ⟨w0, hw0⟩ : ∃ w0, (((w.alloc (.cells (ddc d) 92)).alloc (.cells #[v] 88)).alloc (.cells #[.slice none 0 0] 88)).alloc (.cells (wc 0) 29) = w0 := ⟨_, rfl⟩
  have HW0 := Lib.hid hw0
  have HG2 : Hid (Cs w0 w.heap.size 92 (ddc d)) := Lib.hid (by rw [← hw0]; exact Cs.alloc (Cs.alloc (Cs.alloc (Cs.new _ _ _ _ rfl) _) _) _)
  have HG3 : Hid (Cs w0 (w.heap.size + 1) 88 #[v]) := Lib.hid (by rw [← hw0]; exact Cs.alloc (Cs.alloc (Cs.new _ _ _ _ (by rw [World.size_alloc])) _) _)
  have HR : Hid (Cs w0 (w.heap.size + 2) 88 #[.slice none 0 0]) := Lib.hid (by rw [← hw0]; exact Cs.alloc (Cs.new _ _ _ _ (by rw [World.size_alloc, World.size_alloc])) _)
  have HZ : Hid (Cs w0 (w.heap.size + 3) 29 (wc 0)) := Lib.hid (by rw [← hw0]; exact Cs.new _ _ _ _ (by rw [World.size_alloc, World.size_alloc, World.size_alloc]))
  have HE : Hid (Ext w w0) := Lib.hid (by rw [← hw0]; exact ((((Ext.refl w).alloc _).alloc _).alloc _).alloc _)
  have HK := Lib.hid (kdD_cases d)
  have HSP : Hid (doS l d = if kdD d = 0 then ((depS l d.addr d.n).1, 0, (depS l d.addr d.n).2) else if kdD d = 1 then ((wdrS l d.addr d.n).1, 0, (wdrS l d.addr d.n).2) else if kdD d = 2 then ((bndS l d.addr d.n d.dly).1, 0, (bndS l d.addr d.n d.dly).2) else if kdD d = 3 then ((ulkS l d.addr d.now).1, 0, (ulkS l d.addr d.now).2) else relS l d.addr d.now) := Lib.hid rfl
  have HRW := Lib.hid (relS_word hs.oks hd.2.1 (n := d.now))
  clear hs hd hw0
  obtain ⟨dc, hdc'⟩ : ∃ dc, ddc d = dc := ⟨_, rfl⟩
  have HDC := Lib.hid hdc'
  rw [hdc'] at HW0 ⊢
  clear hdc'
  go_enter Try.func41, Try.ntmps41
  go_upto_region 1 with fail
  rw [← wc_zero, HW0.out]
  clear HW0
  obtain ⟨g2, hg2⟩ : ∃ g, w.heap.size = g := ⟨_, rfl⟩
  obtain ⟨g3, hg3⟩ : ∃ g, w.heap.size + 1 = g := ⟨_, rfl⟩
  obtain ⟨gR, hgR⟩ : ∃ g, w.heap.size + 2 = g := ⟨_, rfl⟩
  obtain ⟨gZ, hgZ⟩ : ∃ g, w.heap.size + 3 = g := ⟨_, rfl⟩
  have HN := Lib.hid (show w.heap.size ≤ gR ∧ w.heap.size ≤ gZ ∧ gR ≠ gZ by omega)
  have HLT := Lib.hid (show gR < w0.heap.size ∧ gZ < w0.heap.size from ⟨by rw [← hgR]; exact Cs.lt HR.out, by rw [← hgZ]; exact Cs.lt HZ.out⟩)
  rw [hgZ] at HZ ⊢
  rw [hgR] at HR ⊢
  rw [hg3] at HG3 ⊢
  rw [hg2] at HG2 ⊢
  clear hg2 hg3 hgR hgZ
  have q0 : w0.cell? ⟨g2, 0, none⟩ = some (.int .i64 d.kind) := HG2.out.cell 0 _ rfl
  have q1 : w0.cell? ⟨g2, 1, none⟩ = some (.int .u64 (d.addr : Nat)) := HG2.out.cell 1 _ rfl
  have q6 : w0.cell? ⟨g2, 6, none⟩ = some (.int .u64 (d.dly : Nat)) := HG2.out.cell 6 _ rfl
  have q7 : w0.cell? ⟨g2, 7, none⟩ = some (.int .u64 (d.now : Nat)) := HG2.out.cell 7 _ rfl
  have q3 := HG3.out.cell 0 _ rfl
  have HWD := Lib.hid (dd_word HG2.out)
  go_upto_region 3 with fail
  rw [show (IntKind.u64.wrap d.kind).tmod 5 = kdD d from rfl]
  rcases HK.out with hk | hk | hk | hk | hk
  · have HSQ := Lib.hid (show doS l d = ((depS l d.addr d.n).1, 0, (depS l d.addr d.n).2) by rw [HSP.out, if_pos hk])
    rw [hk]
    clear hk HSP
    go_wp2_with ((with_reducible refine wpList_load_wordIn ?_ (.tmp 27) ?_ g2 2 (d.n) ?_ ?_ ?_); (exact rfl); (exact rfl); (exact rfl); (exact HWD.out))
    refine (deposit_any v l d.addr d.n _ (HS.out.ext HE.out) HD.out.2.1 HD.out.2.2.1).mono ?_
    rintro e w5 ⟨v', rfl, ho, he⟩
    obtain ⟨r, hr⟩ : ∃ r, depS l d.addr d.n = r := ⟨_, rfl⟩
    rw [hr] at HSQ ho ⊢
    clear hr
    obtain ⟨m, er⟩ := r
    dsimp only at HSQ ho ⊢
    have HO := Lib.hid ho
    have HX := Lib.hid he
    have HRX := Lib.hid (Cs.ext HR.out he)
    have HV1 := Lib.hid (show v'.oneCell' = true by obtain ⟨A, c, e, _⟩ := ho.hds.len; rw [e]; rfl)
    clear ho he
    go_upto_region 11 with ((with_reducible refine wpList_store_agg ?_ ?_ 88 (.tmp 4) (.tmp 30) ?_ ldinfo gR #[.slice none 0 0] #[v'] ?_ ?_ ?_ ?_ ?_ ?_ ?_); (exact rfl); (exact rfl); (exact rfl); (exact one_val HV1.out); (exact rfl); (exact rfl); (exact HRX.out); (exact rfl); (exact rfl); intro w9 k9 g9; have K9 := Lib.hid k9; have G9 := Lib.hid g9; clear k9 g9)
    have HJ := Lib.hid (show OwnH w9 w0.heap.size v' m ∧ Cs w9 gR 88 #[v'] ∧ Cs w9 gZ 29 (wc 0) ∧ Ext w w9 from ⟨HO.out.keptT G9.out HRX.out (by decide), K9.out, Cs.kept (Cs.ext HZ.out HX.out) G9.out (some_ne (fun e => HN.out.2.2 e.symm)), (HE.out.trans HX.out).grown G9.out HN.out.1⟩)
    clear HO HX HRX K9 G9
    go_upto_region 11 with fail
    refine wp_named fun a0 ha0 => ?_
    obtain ⟨fr, hfr⟩ : ∃ fr : (Nat → Value) → Act, ∀ V, fr V = ((((a0.put (some 67) (V 0)).put (some 68) (V 1)).put (some 69) (V 2)).put (some 6) (V 5)) := ⟨fun V => ((((a0.put (some 67) (V 0)).put (some 68) (V 1)).put (some 69) (V 2)).put (some 6) (V 5)), fun _ => rfl⟩
    rw [ha0] at hfr
    simp only [Act.put, List.setIfInBounds_toArray, List.set_cons_zero, List.set_cons_succ] at hfr
    have HFR := Lib.hid hfr
    clear hfr
    refine wp_region_inv (by kernel_rfl) (by kernel_rfl) (fun L A W => ∃ V : Nat → Value, A = fr V ∧ Vals (fun j => ([some (.agg #[v']), some (wv 0), some (.int .i64 er), none, none, some (.int .i64 er)] : List (Option Value)).getD j none) L V ∧ (L 5 = false → OwnH W w0.heap.size v' m ∧ Cs W gR 88 #[v'] ∧ Cs W gZ 29 (wc 0) ∧ Ext w W ∧ V 5 = .int .i64 er) ∧ (L 5 = true → OwnH W w0.heap.size v' m ∧ Cs W gR 88 #[v'] ∧ Cs W gZ 29 (wc 0) ∧ Ext w W)) ?_ ⟨?_, ?_, ?_, ?_, ?_, ?_, trivial⟩ ?_
    · refine ⟨fun j => a0.tmps.getD (([67, 68, 69, 0, 0, 6] : List Nat).getD j 0) undef, ?_, Vals.no _ _ _ (far_none _ _ rfl), fun _ => ⟨HJ.out.1.ext (Ext.refl _).drew, Cs.ext HJ.out.2.1 (Ext.refl _).drew, Cs.ext HJ.out.2.2.1 (Ext.refl _).drew, HJ.out.2.2.2.drew, by show a0.tmps.getD 6 undef = _; rw [ha0]; rfl⟩, fun h0 => absurd h0 (by decide)⟩
      rw [HFR.out, ha0]
      rfl
    all_goals clear ha0
    · rintro L A W K hL hC hW ⟨V, rfl, HV, s0, s1⟩ hK
      have hB := s0 (hC.no hL 5 _ rfl rfl)
      have H := Lib.hid (show ∀ W', Ext W W' → K (fr (upd V 0 (.agg #[v']))) W' from fun W' he => hK _ _ ⟨upd V 0 (.agg #[v']), rfl, HV.up 0 _ (fun x hx => Option.some.inj hx), fun h0 => DoJ.ext (s0 (by unfold More at h0; rwa [if_neg (by decide)] at h0)) he, fun h0 => DoK.ext (s1 (more_ne h0 rfl)) he⟩)
      clear hK hC hW hL HV s0 s1
      rw [HFR.out]
      have hcl := hB.2.1.cell 0 _ rfl
      clear hB
      go_wp2_with fail
      show K _ _
      have := H.out _ (Ext.refl _)
      rw [HFR.out] at this
      exact this
    · rintro L A W K hL hC hW ⟨V, rfl, HV, s0, s1⟩ hK
      have hB := s0 (hC.no hL 5 _ rfl rfl)
      have H := Lib.hid (show ∀ W', Ext W W' → K (fr (upd V 1 (wv 0))) W' from fun W' he => hK _ _ ⟨upd V 1 (wv 0), rfl, HV.up 1 _ (fun x hx => Option.some.inj hx), fun h0 => DoJ.ext (s0 (by unfold More at h0; rwa [if_neg (by decide)] at h0)) he, fun h0 => DoK.ext (s1 (more_ne h0 rfl)) he⟩)
      clear hK hC hW hL HV s0 s1
      rw [HFR.out]
      have HWW := Lib.hid (Cs.rg hB.2.2.1)
      clear hB
      refine wpList_load_wordIn rfl (.tmp 5) rfl gZ 0 0 rfl HWW.out ?_
      show K _ _
      have := H.out _ (Ext.refl _)
      rw [HFR.out] at this
      exact this
    · rintro L A W K hL hC hW ⟨V, rfl, HV, s0, s1⟩ hK
      have hB := s0 (hC.no hL 5 _ rfl rfl)
      have e5 : V 5 = .int .i64 er := hB.2.2.2.2
      have H := Lib.hid (show ∀ W', Ext W W' → K (fr (upd V 2 (.int .i64 er))) W' from fun W' he => hK _ _ ⟨upd V 2 (.int .i64 er), rfl, HV.up 2 _ (fun x hx => Option.some.inj hx), fun h0 => DoJ.ext (s0 (by unfold More at h0; rwa [if_neg (by decide)] at h0)) he, fun h0 => DoK.ext (s1 (more_ne h0 rfl)) he⟩)
      have HU := Lib.hid (show (upd V 2 (.int .i64 er)) 5 = .int .i64 er from e5)
      clear hK hC hW hL HV s0 s1
      rw [HFR.out]
      rw [e5]
      clear e5
      clear hB
      go_wp2_with fail
      show K _ _
      have := H.out _ (Ext.refl _)
      rw [HFR.out] at this
      obtain u5 := HU.out
      rw [u5] at this
      exact this
    · rintro L A W K hL hC hW ⟨V, rfl, HV, s0, s1⟩ hK
      have e0 : V 0 = .agg #[v'] := HV 0 _ rfl (hW 0 rfl)
      have hB := s0 (hC.no hL 5 _ rfl rfl)
      have H := Lib.hid (show ∀ W', Ext W W' → K (fr (V)) W' from fun W' he => hK _ _ ⟨V, rfl, HV.st 3 rfl, fun h0 => DoJ.ext (s0 (by unfold More at h0; rwa [if_neg (by decide)] at h0)) he, fun h0 => DoK.ext (s1 (more_ne h0 rfl)) he⟩)
      have HU := Lib.hid (show (V) 0 = .agg #[v'] from e0)
      clear hK hC hW hL HV s0 s1
      rw [HFR.out]
      rw [e0]
      clear e0
      have HJ' := Lib.hid hB
      clear hB
      refine wpList_store_agg rfl rfl 88 (.tmp 4) (.tmp 67) rfl ldinfo gR #[v'] #[v'] (one_val HV1.out) rfl rfl HJ'.out.2.1 rfl rfl ?_
      intro w' kk gg
      have he := ext_same HJ'.out.2.1 kk gg
      show K _ _
      have := H.out _ he
      rw [HFR.out] at this
      obtain u0 := HU.out
      rw [u0] at this
      exact this
    · rintro L A W K hL hC hW ⟨V, rfl, HV, s0, s1⟩ hK
      have e1 : V 1 = wv 0 := HV 1 _ rfl (hW 1 rfl)
      have hB := s0 (hC.no hL 5 _ rfl rfl)
      have H := Lib.hid (show ∀ W', Ext W W' → K (fr (V)) W' from fun W' he => hK _ _ ⟨V, rfl, HV.st 4 rfl, fun h0 => DoJ.ext (s0 (by unfold More at h0; rwa [if_neg (by decide)] at h0)) he, fun h0 => DoK.ext (s1 (more_ne h0 rfl)) he⟩)
      have HU := Lib.hid (show (V) 1 = wv 0 from e1)
      clear hK hC hW hL HV s0 s1
      rw [HFR.out]
      rw [e1]
      clear e1
      have HJ' := Lib.hid hB
      clear hB
      refine wpList_store_word rfl rfl 29 (.tmp 5) (.tmp 68) rfl winfo gZ (wc 0) 0 rfl rfl HJ'.out.2.2.1 rfl ?_
      intro w' kk gg
      have he := ext_same HJ'.out.2.2.1 kk gg
      show K _ _
      have := H.out _ he
      rw [HFR.out] at this
      obtain u1 := HU.out
      rw [u1] at this
      exact this
    · rintro L A W K hL hC hW ⟨V, rfl, HV, s0, s1⟩ hK
      have e2 : V 2 = .int .i64 er := HV 2 _ rfl (hW 2 rfl)
      have hB := s0 hL
      have H := Lib.hid (show ∀ W', (OwnH W' w0.heap.size v' m ∧ Cs W' gR 88 #[v'] ∧ Cs W' gZ 29 (wc 0) ∧ Ext w W') → K (fr (upd V 5 (.int .i64 er))) W' from fun W' hA => hK _ _ ⟨upd V 5 (.int .i64 er), rfl, HV.up 5 _ (fun x hx => Option.some.inj hx), fun h0 => absurd h0 (by unfold More; rw [if_pos rfl]; simp), fun h0 => hA⟩)
      have HU := Lib.hid (show (upd V 5 (.int .i64 er)) 2 = .int .i64 er from e2)
      clear hK hC hW hL HV s0 s1
      rw [HFR.out]
      rw [e2]
      clear e2
      have HA := Lib.hid (show OwnH W w0.heap.size v' m ∧ Cs W gR 88 #[v'] ∧ Cs W gZ 29 (wc 0) ∧ Ext w W from ⟨hB.1, hB.2.1, hB.2.2.1, hB.2.2.2.1⟩)
      clear hB
      go_wp2_with fail
      show K _ _
      have := H.out _ HA.out
      rw [HFR.out] at this
      obtain u2 := HU.out
      rw [u2] at this
      exact this
    · rintro L A W hL ⟨V, rfl, HV, s0, s1⟩
      have e0 : V 0 = .agg #[v'] := HV 0 _ rfl (hL 0 (by simp))
      have e1 : V 1 = wv 0 := HV 1 _ rfl (hL 1 (by simp))
      have e2 : V 2 = .int .i64 er := HV 2 _ rfl (hL 2 (by simp))
      have e5 : V 5 = .int .i64 er := HV 5 _ rfl (hL 5 (by simp))
      have hA := s1 (hL 5 (by simp))
      rw [HFR.out]
      rw [e0, e1, e2, e5]
      clear hL HV HFR e0 e1 e2 e5 s0 s1
      have HX := Lib.hid hA
      clear hA
      go_wp2_with fail
      refine bodyPost_ret (results_ldw_tmp Try.results41 _ _ gR gZ v' 0 rfl HX.out.2.1 rfl HX.out.2.2.1) rfl ?_
      exact ⟨v', by rw [HSQ.out]; rfl, by rw [HSQ.out]; exact HX.out.1.mono HE.out.size, HX.out.2.2.2⟩
  · have HSQ := Lib.hid (show doS l d = ((wdrS l d.addr d.n).1, 0, (wdrS l d.addr d.n).2) by rw [HSP.out, if_neg (by rw [hk]; decide), if_pos hk])
    rw [hk]
    clear hk HSP
    go_wp2_with ((with_reducible refine wpList_load_wordIn ?_ (.tmp 38) ?_ g2 2 (d.n) ?_ ?_ ?_); (exact rfl); (exact rfl); (exact rfl); (exact HWD.out))
    refine (withdraw_any v l d.addr d.n _ (HS.out.ext HE.out) HD.out.2.1 HD.out.2.2.1).mono ?_
    rintro e w5 ⟨v', rfl, ho, he⟩
    obtain ⟨r, hr⟩ : ∃ r, wdrS l d.addr d.n = r := ⟨_, rfl⟩
    rw [hr] at HSQ ho ⊢
    clear hr
    obtain ⟨m, er⟩ := r
    dsimp only at HSQ ho ⊢
    have HO := Lib.hid ho
    have HX := Lib.hid he
    have HRX := Lib.hid (Cs.ext HR.out he)
    have HV1 := Lib.hid (show v'.oneCell' = true by obtain ⟨A, c, e, _⟩ := ho.hds.len; rw [e]; rfl)
    clear ho he
    go_upto_region 11 with ((with_reducible refine wpList_store_agg ?_ ?_ 88 (.tmp 4) (.tmp 41) ?_ ldinfo gR #[.slice none 0 0] #[v'] ?_ ?_ ?_ ?_ ?_ ?_ ?_); (exact rfl); (exact rfl); (exact rfl); (exact one_val HV1.out); (exact rfl); (exact rfl); (exact HRX.out); (exact rfl); (exact rfl); intro w9 k9 g9; have K9 := Lib.hid k9; have G9 := Lib.hid g9; clear k9 g9)
    have HJ := Lib.hid (show OwnH w9 w0.heap.size v' m ∧ Cs w9 gR 88 #[v'] ∧ Cs w9 gZ 29 (wc 0) ∧ Ext w w9 from ⟨HO.out.keptT G9.out HRX.out (by decide), K9.out, Cs.kept (Cs.ext HZ.out HX.out) G9.out (some_ne (fun e => HN.out.2.2 e.symm)), (HE.out.trans HX.out).grown G9.out HN.out.1⟩)
    clear HO HX HRX K9 G9
    go_upto_region 11 with fail
    refine wp_named fun a0 ha0 => ?_
    obtain ⟨fr, hfr⟩ : ∃ fr : (Nat → Value) → Act, ∀ V, fr V = ((((a0.put (some 67) (V 0)).put (some 68) (V 1)).put (some 69) (V 2)).put (some 6) (V 5)) := ⟨fun V => ((((a0.put (some 67) (V 0)).put (some 68) (V 1)).put (some 69) (V 2)).put (some 6) (V 5)), fun _ => rfl⟩
    rw [ha0] at hfr
    simp only [Act.put, List.setIfInBounds_toArray, List.set_cons_zero, List.set_cons_succ] at hfr
    have HFR := Lib.hid hfr
    clear hfr
    refine wp_region_inv (by kernel_rfl) (by kernel_rfl) (fun L A W => ∃ V : Nat → Value, A = fr V ∧ Vals (fun j => ([some (.agg #[v']), some (wv 0), some (.int .i64 er), none, none, some (.int .i64 er)] : List (Option Value)).getD j none) L V ∧ (L 5 = false → OwnH W w0.heap.size v' m ∧ Cs W gR 88 #[v'] ∧ Cs W gZ 29 (wc 0) ∧ Ext w W ∧ V 5 = .int .i64 er) ∧ (L 5 = true → OwnH W w0.heap.size v' m ∧ Cs W gR 88 #[v'] ∧ Cs W gZ 29 (wc 0) ∧ Ext w W)) ?_ ⟨?_, ?_, ?_, ?_, ?_, ?_, trivial⟩ ?_
    · refine ⟨fun j => a0.tmps.getD (([67, 68, 69, 0, 0, 6] : List Nat).getD j 0) undef, ?_, Vals.no _ _ _ (far_none _ _ rfl), fun _ => ⟨HJ.out.1.ext (Ext.refl _).drew, Cs.ext HJ.out.2.1 (Ext.refl _).drew, Cs.ext HJ.out.2.2.1 (Ext.refl _).drew, HJ.out.2.2.2.drew, by show a0.tmps.getD 6 undef = _; rw [ha0]; rfl⟩, fun h0 => absurd h0 (by decide)⟩
      rw [HFR.out, ha0]
      rfl
    all_goals clear ha0
    · rintro L A W K hL hC hW ⟨V, rfl, HV, s0, s1⟩ hK
      have hB := s0 (hC.no hL 5 _ rfl rfl)
      have H := Lib.hid (show ∀ W', Ext W W' → K (fr (upd V 0 (.agg #[v']))) W' from fun W' he => hK _ _ ⟨upd V 0 (.agg #[v']), rfl, HV.up 0 _ (fun x hx => Option.some.inj hx), fun h0 => DoJ.ext (s0 (by unfold More at h0; rwa [if_neg (by decide)] at h0)) he, fun h0 => DoK.ext (s1 (more_ne h0 rfl)) he⟩)
      clear hK hC hW hL HV s0 s1
      rw [HFR.out]
      have hcl := hB.2.1.cell 0 _ rfl
      clear hB
      go_wp2_with fail
      show K _ _
      have := H.out _ (Ext.refl _)
      rw [HFR.out] at this
      exact this
    · rintro L A W K hL hC hW ⟨V, rfl, HV, s0, s1⟩ hK
      have hB := s0 (hC.no hL 5 _ rfl rfl)
      have H := Lib.hid (show ∀ W', Ext W W' → K (fr (upd V 1 (wv 0))) W' from fun W' he => hK _ _ ⟨upd V 1 (wv 0), rfl, HV.up 1 _ (fun x hx => Option.some.inj hx), fun h0 => DoJ.ext (s0 (by unfold More at h0; rwa [if_neg (by decide)] at h0)) he, fun h0 => DoK.ext (s1 (more_ne h0 rfl)) he⟩)
      clear hK hC hW hL HV s0 s1
      rw [HFR.out]
      have HWW := Lib.hid (Cs.rg hB.2.2.1)
      clear hB
      refine wpList_load_wordIn rfl (.tmp 5) rfl gZ 0 0 rfl HWW.out ?_
      show K _ _
      have := H.out _ (Ext.refl _)
      rw [HFR.out] at this
      exact this
    · rintro L A W K hL hC hW ⟨V, rfl, HV, s0, s1⟩ hK
      have hB := s0 (hC.no hL 5 _ rfl rfl)
      have e5 : V 5 = .int .i64 er := hB.2.2.2.2
      have H := Lib.hid (show ∀ W', Ext W W' → K (fr (upd V 2 (.int .i64 er))) W' from fun W' he => hK _ _ ⟨upd V 2 (.int .i64 er), rfl, HV.up 2 _ (fun x hx => Option.some.inj hx), fun h0 => DoJ.ext (s0 (by unfold More at h0; rwa [if_neg (by decide)] at h0)) he, fun h0 => DoK.ext (s1 (more_ne h0 rfl)) he⟩)
      have HU := Lib.hid (show (upd V 2 (.int .i64 er)) 5 = .int .i64 er from e5)
      clear hK hC hW hL HV s0 s1
      rw [HFR.out]
      rw [e5]
      clear e5
      clear hB
      go_wp2_with fail
      show K _ _
      have := H.out _ (Ext.refl _)
      rw [HFR.out] at this
      obtain u5 := HU.out
      rw [u5] at this
      exact this
    · rintro L A W K hL hC hW ⟨V, rfl, HV, s0, s1⟩ hK
      have e0 : V 0 = .agg #[v'] := HV 0 _ rfl (hW 0 rfl)
      have hB := s0 (hC.no hL 5 _ rfl rfl)
      have H := Lib.hid (show ∀ W', Ext W W' → K (fr (V)) W' from fun W' he => hK _ _ ⟨V, rfl, HV.st 3 rfl, fun h0 => DoJ.ext (s0 (by unfold More at h0; rwa [if_neg (by decide)] at h0)) he, fun h0 => DoK.ext (s1 (more_ne h0 rfl)) he⟩)
      have HU := Lib.hid (show (V) 0 = .agg #[v'] from e0)
      clear hK hC hW hL HV s0 s1
      rw [HFR.out]
      rw [e0]
      clear e0
      have HJ' := Lib.hid hB
      clear hB
      refine wpList_store_agg rfl rfl 88 (.tmp 4) (.tmp 67) rfl ldinfo gR #[v'] #[v'] (one_val HV1.out) rfl rfl HJ'.out.2.1 rfl rfl ?_
      intro w' kk gg
      have he := ext_same HJ'.out.2.1 kk gg
      show K _ _
      have := H.out _ he
      rw [HFR.out] at this
      obtain u0 := HU.out
      rw [u0] at this
      exact this
    · rintro L A W K hL hC hW ⟨V, rfl, HV, s0, s1⟩ hK
      have e1 : V 1 = wv 0 := HV 1 _ rfl (hW 1 rfl)
      have hB := s0 (hC.no hL 5 _ rfl rfl)
      have H := Lib.hid (show ∀ W', Ext W W' → K (fr (V)) W' from fun W' he => hK _ _ ⟨V, rfl, HV.st 4 rfl, fun h0 => DoJ.ext (s0 (by unfold More at h0; rwa [if_neg (by decide)] at h0)) he, fun h0 => DoK.ext (s1 (more_ne h0 rfl)) he⟩)
      have HU := Lib.hid (show (V) 1 = wv 0 from e1)
      clear hK hC hW hL HV s0 s1
      rw [HFR.out]
      rw [e1]
      clear e1
      have HJ' := Lib.hid hB
      clear hB
      refine wpList_store_word rfl rfl 29 (.tmp 5) (.tmp 68) rfl winfo gZ (wc 0) 0 rfl rfl HJ'.out.2.2.1 rfl ?_
      intro w' kk gg
      have he := ext_same HJ'.out.2.2.1 kk gg
      show K _ _
      have := H.out _ he
      rw [HFR.out] at this
      obtain u1 := HU.out
      rw [u1] at this
      exact this
    · rintro L A W K hL hC hW ⟨V, rfl, HV, s0, s1⟩ hK
      have e2 : V 2 = .int .i64 er := HV 2 _ rfl (hW 2 rfl)
      have hB := s0 hL
      have H := Lib.hid (show ∀ W', (OwnH W' w0.heap.size v' m ∧ Cs W' gR 88 #[v'] ∧ Cs W' gZ 29 (wc 0) ∧ Ext w W') → K (fr (upd V 5 (.int .i64 er))) W' from fun W' hA => hK _ _ ⟨upd V 5 (.int .i64 er), rfl, HV.up 5 _ (fun x hx => Option.some.inj hx), fun h0 => absurd h0 (by unfold More; rw [if_pos rfl]; simp), fun h0 => hA⟩)
      have HU := Lib.hid (show (upd V 5 (.int .i64 er)) 2 = .int .i64 er from e2)
      clear hK hC hW hL HV s0 s1
      rw [HFR.out]
      rw [e2]
      clear e2
      have HA := Lib.hid (show OwnH W w0.heap.size v' m ∧ Cs W gR 88 #[v'] ∧ Cs W gZ 29 (wc 0) ∧ Ext w W from ⟨hB.1, hB.2.1, hB.2.2.1, hB.2.2.2.1⟩)
      clear hB
      go_wp2_with fail
      show K _ _
      have := H.out _ HA.out
      rw [HFR.out] at this
      obtain u2 := HU.out
      rw [u2] at this
      exact this
    · rintro L A W hL ⟨V, rfl, HV, s0, s1⟩
      have e0 : V 0 = .agg #[v'] := HV 0 _ rfl (hL 0 (by simp))
      have e1 : V 1 = wv 0 := HV 1 _ rfl (hL 1 (by simp))
      have e2 : V 2 = .int .i64 er := HV 2 _ rfl (hL 2 (by simp))
      have e5 : V 5 = .int .i64 er := HV 5 _ rfl (hL 5 (by simp))
      have hA := s1 (hL 5 (by simp))
      rw [HFR.out]
      rw [e0, e1, e2, e5]
      clear hL HV HFR e0 e1 e2 e5 s0 s1
      have HX := Lib.hid hA
      clear hA
      go_wp2_with fail
      refine bodyPost_ret (results_ldw_tmp Try.results41 _ _ gR gZ v' 0 rfl HX.out.2.1 rfl HX.out.2.2.1) rfl ?_
      exact ⟨v', by rw [HSQ.out]; rfl, by rw [HSQ.out]; exact HX.out.1.mono HE.out.size, HX.out.2.2.2⟩
  · have HSQ := Lib.hid (show doS l d = ((bndS l d.addr d.n d.dly).1, 0, (bndS l d.addr d.n d.dly).2) by rw [HSP.out, if_neg (by rw [hk]; decide), if_neg (by rw [hk]; decide), if_pos hk])
    rw [hk]
    clear hk HSP
    go_wp2_with ((with_reducible refine wpList_load_wordIn ?_ (.tmp 49) ?_ g2 2 (d.n) ?_ ?_ ?_); (exact rfl); (exact rfl); (exact rfl); (exact HWD.out))
    refine (bond_any v l d.addr d.n d.dly _ (HS.out.ext HE.out) HD.out.2.1 HD.out.2.2.1 HD.out.2.2.2.1).mono ?_
    rintro e w5 ⟨v', rfl, ho, he⟩
    obtain ⟨r, hr⟩ : ∃ r, bndS l d.addr d.n d.dly = r := ⟨_, rfl⟩
    rw [hr] at HSQ ho ⊢
    clear hr
    obtain ⟨m, er⟩ := r
    dsimp only at HSQ ho ⊢
    have HO := Lib.hid ho
    have HX := Lib.hid he
    have HRX := Lib.hid (Cs.ext HR.out he)
    have HV1 := Lib.hid (show v'.oneCell' = true by obtain ⟨A, c, e, _⟩ := ho.hds.len; rw [e]; rfl)
    clear ho he
    go_upto_region 11 with ((with_reducible refine wpList_store_agg ?_ ?_ 88 (.tmp 4) (.tmp 54) ?_ ldinfo gR #[.slice none 0 0] #[v'] ?_ ?_ ?_ ?_ ?_ ?_ ?_); (exact rfl); (exact rfl); (exact rfl); (exact one_val HV1.out); (exact rfl); (exact rfl); (exact HRX.out); (exact rfl); (exact rfl); intro w9 k9 g9; have K9 := Lib.hid k9; have G9 := Lib.hid g9; clear k9 g9)
    have HJ := Lib.hid (show OwnH w9 w0.heap.size v' m ∧ Cs w9 gR 88 #[v'] ∧ Cs w9 gZ 29 (wc 0) ∧ Ext w w9 from ⟨HO.out.keptT G9.out HRX.out (by decide), K9.out, Cs.kept (Cs.ext HZ.out HX.out) G9.out (some_ne (fun e => HN.out.2.2 e.symm)), (HE.out.trans HX.out).grown G9.out HN.out.1⟩)
    clear HO HX HRX K9 G9
    go_upto_region 11 with fail
    refine wp_named fun a0 ha0 => ?_
    obtain ⟨fr, hfr⟩ : ∃ fr : (Nat → Value) → Act, ∀ V, fr V = ((((a0.put (some 67) (V 0)).put (some 68) (V 1)).put (some 69) (V 2)).put (some 6) (V 5)) := ⟨fun V => ((((a0.put (some 67) (V 0)).put (some 68) (V 1)).put (some 69) (V 2)).put (some 6) (V 5)), fun _ => rfl⟩
    rw [ha0] at hfr
    simp only [Act.put, List.setIfInBounds_toArray, List.set_cons_zero, List.set_cons_succ] at hfr
    have HFR := Lib.hid hfr
    clear hfr
    refine wp_region_inv (by kernel_rfl) (by kernel_rfl) (fun L A W => ∃ V : Nat → Value, A = fr V ∧ Vals (fun j => ([some (.agg #[v']), some (wv 0), some (.int .i64 er), none, none, some (.int .i64 er)] : List (Option Value)).getD j none) L V ∧ (L 5 = false → OwnH W w0.heap.size v' m ∧ Cs W gR 88 #[v'] ∧ Cs W gZ 29 (wc 0) ∧ Ext w W ∧ V 5 = .int .i64 er) ∧ (L 5 = true → OwnH W w0.heap.size v' m ∧ Cs W gR 88 #[v'] ∧ Cs W gZ 29 (wc 0) ∧ Ext w W)) ?_ ⟨?_, ?_, ?_, ?_, ?_, ?_, trivial⟩ ?_
    · refine ⟨fun j => a0.tmps.getD (([67, 68, 69, 0, 0, 6] : List Nat).getD j 0) undef, ?_, Vals.no _ _ _ (far_none _ _ rfl), fun _ => ⟨HJ.out.1.ext (Ext.refl _).drew, Cs.ext HJ.out.2.1 (Ext.refl _).drew, Cs.ext HJ.out.2.2.1 (Ext.refl _).drew, HJ.out.2.2.2.drew, by show a0.tmps.getD 6 undef = _; rw [ha0]; rfl⟩, fun h0 => absurd h0 (by decide)⟩
      rw [HFR.out, ha0]
      rfl
    all_goals clear ha0
    · rintro L A W K hL hC hW ⟨V, rfl, HV, s0, s1⟩ hK
      have hB := s0 (hC.no hL 5 _ rfl rfl)
      have H := Lib.hid (show ∀ W', Ext W W' → K (fr (upd V 0 (.agg #[v']))) W' from fun W' he => hK _ _ ⟨upd V 0 (.agg #[v']), rfl, HV.up 0 _ (fun x hx => Option.some.inj hx), fun h0 => DoJ.ext (s0 (by unfold More at h0; rwa [if_neg (by decide)] at h0)) he, fun h0 => DoK.ext (s1 (more_ne h0 rfl)) he⟩)
      clear hK hC hW hL HV s0 s1
      rw [HFR.out]
      have hcl := hB.2.1.cell 0 _ rfl
      clear hB
      go_wp2_with fail
      show K _ _
      have := H.out _ (Ext.refl _)
      rw [HFR.out] at this
      exact this
    · rintro L A W K hL hC hW ⟨V, rfl, HV, s0, s1⟩ hK
      have hB := s0 (hC.no hL 5 _ rfl rfl)
      have H := Lib.hid (show ∀ W', Ext W W' → K (fr (upd V 1 (wv 0))) W' from fun W' he => hK _ _ ⟨upd V 1 (wv 0), rfl, HV.up 1 _ (fun x hx => Option.some.inj hx), fun h0 => DoJ.ext (s0 (by unfold More at h0; rwa [if_neg (by decide)] at h0)) he, fun h0 => DoK.ext (s1 (more_ne h0 rfl)) he⟩)
      clear hK hC hW hL HV s0 s1
      rw [HFR.out]
      have HWW := Lib.hid (Cs.rg hB.2.2.1)
      clear hB
      refine wpList_load_wordIn rfl (.tmp 5) rfl gZ 0 0 rfl HWW.out ?_
      show K _ _
      have := H.out _ (Ext.refl _)
      rw [HFR.out] at this
      exact this
    · rintro L A W K hL hC hW ⟨V, rfl, HV, s0, s1⟩ hK
      have hB := s0 (hC.no hL 5 _ rfl rfl)
      have e5 : V 5 = .int .i64 er := hB.2.2.2.2
      have H := Lib.hid (show ∀ W', Ext W W' → K (fr (upd V 2 (.int .i64 er))) W' from fun W' he => hK _ _ ⟨upd V 2 (.int .i64 er), rfl, HV.up 2 _ (fun x hx => Option.some.inj hx), fun h0 => DoJ.ext (s0 (by unfold More at h0; rwa [if_neg (by decide)] at h0)) he, fun h0 => DoK.ext (s1 (more_ne h0 rfl)) he⟩)
      have HU := Lib.hid (show (upd V 2 (.int .i64 er)) 5 = .int .i64 er from e5)
      clear hK hC hW hL HV s0 s1
      rw [HFR.out]
      rw [e5]
      clear e5
      clear hB
      go_wp2_with fail
      show K _ _
      have := H.out _ (Ext.refl _)
      rw [HFR.out] at this
      obtain u5 := HU.out
      rw [u5] at this
      exact this
    · rintro L A W K hL hC hW ⟨V, rfl, HV, s0, s1⟩ hK
      have e0 : V 0 = .agg #[v'] := HV 0 _ rfl (hW 0 rfl)
      have hB := s0 (hC.no hL 5 _ rfl rfl)
      have H := Lib.hid (show ∀ W', Ext W W' → K (fr (V)) W' from fun W' he => hK _ _ ⟨V, rfl, HV.st 3 rfl, fun h0 => DoJ.ext (s0 (by unfold More at h0; rwa [if_neg (by decide)] at h0)) he, fun h0 => DoK.ext (s1 (more_ne h0 rfl)) he⟩)
      have HU := Lib.hid (show (V) 0 = .agg #[v'] from e0)
      clear hK hC hW hL HV s0 s1
      rw [HFR.out]
      rw [e0]
      clear e0
      have HJ' := Lib.hid hB
      clear hB
      refine wpList_store_agg rfl rfl 88 (.tmp 4) (.tmp 67) rfl ldinfo gR #[v'] #[v'] (one_val HV1.out) rfl rfl HJ'.out.2.1 rfl rfl ?_
      intro w' kk gg
      have he := ext_same HJ'.out.2.1 kk gg
      show K _ _
      have := H.out _ he
      rw [HFR.out] at this
      obtain u0 := HU.out
      rw [u0] at this
      exact this
    · rintro L A W K hL hC hW ⟨V, rfl, HV, s0, s1⟩ hK
      have e1 : V 1 = wv 0 := HV 1 _ rfl (hW 1 rfl)
      have hB := s0 (hC.no hL 5 _ rfl rfl)
      have H := Lib.hid (show ∀ W', Ext W W' → K (fr (V)) W' from fun W' he => hK _ _ ⟨V, rfl, HV.st 4 rfl, fun h0 => DoJ.ext (s0 (by unfold More at h0; rwa [if_neg (by decide)] at h0)) he, fun h0 => DoK.ext (s1 (more_ne h0 rfl)) he⟩)
      have HU := Lib.hid (show (V) 1 = wv 0 from e1)
      clear hK hC hW hL HV s0 s1
      rw [HFR.out]
      rw [e1]
      clear e1
      have HJ' := Lib.hid hB
      clear hB
      refine wpList_store_word rfl rfl 29 (.tmp 5) (.tmp 68) rfl winfo gZ (wc 0) 0 rfl rfl HJ'.out.2.2.1 rfl ?_
      intro w' kk gg
      have he := ext_same HJ'.out.2.2.1 kk gg
      show K _ _
      have := H.out _ he
      rw [HFR.out] at this
      obtain u1 := HU.out
      rw [u1] at this
      exact this
    · rintro L A W K hL hC hW ⟨V, rfl, HV, s0, s1⟩ hK
      have e2 : V 2 = .int .i64 er := HV 2 _ rfl (hW 2 rfl)
      have hB := s0 hL
      have H := Lib.hid (show ∀ W', (OwnH W' w0.heap.size v' m ∧ Cs W' gR 88 #[v'] ∧ Cs W' gZ 29 (wc 0) ∧ Ext w W') → K (fr (upd V 5 (.int .i64 er))) W' from fun W' hA => hK _ _ ⟨upd V 5 (.int .i64 er), rfl, HV.up 5 _ (fun x hx => Option.some.inj hx), fun h0 => absurd h0 (by unfold More; rw [if_pos rfl]; simp), fun h0 => hA⟩)
      have HU := Lib.hid (show (upd V 5 (.int .i64 er)) 2 = .int .i64 er from e2)
      clear hK hC hW hL HV s0 s1
      rw [HFR.out]
      rw [e2]
      clear e2
      have HA := Lib.hid (show OwnH W w0.heap.size v' m ∧ Cs W gR 88 #[v'] ∧ Cs W gZ 29 (wc 0) ∧ Ext w W from ⟨hB.1, hB.2.1, hB.2.2.1, hB.2.2.2.1⟩)
      clear hB
      go_wp2_with fail
      show K _ _
      have := H.out _ HA.out
      rw [HFR.out] at this
      obtain u2 := HU.out
      rw [u2] at this
      exact this
    · rintro L A W hL ⟨V, rfl, HV, s0, s1⟩
      have e0 : V 0 = .agg #[v'] := HV 0 _ rfl (hL 0 (by simp))
      have e1 : V 1 = wv 0 := HV 1 _ rfl (hL 1 (by simp))
      have e2 : V 2 = .int .i64 er := HV 2 _ rfl (hL 2 (by simp))
      have e5 : V 5 = .int .i64 er := HV 5 _ rfl (hL 5 (by simp))
      have hA := s1 (hL 5 (by simp))
      rw [HFR.out]
      rw [e0, e1, e2, e5]
      clear hL HV HFR e0 e1 e2 e5 s0 s1
      have HX := Lib.hid hA
      clear hA
      go_wp2_with fail
      refine bodyPost_ret (results_ldw_tmp Try.results41 _ _ gR gZ v' 0 rfl HX.out.2.1 rfl HX.out.2.2.1) rfl ?_
      exact ⟨v', by rw [HSQ.out]; rfl, by rw [HSQ.out]; exact HX.out.1.mono HE.out.size, HX.out.2.2.2⟩
  · have HSQ := Lib.hid (show doS l d = ((ulkS l d.addr d.now).1, 0, (ulkS l d.addr d.now).2) by rw [HSP.out, if_neg (by rw [hk]; decide), if_neg (by rw [hk]; decide), if_neg (by rw [hk]; decide), if_pos hk])
    rw [hk]
    clear hk HSP
    go_wp2_with fail
    refine (unlock_any v l d.addr d.now _ (HS.out.ext HE.out) HD.out.2.1 HD.out.2.2.2.2).mono ?_
    rintro e w5 ⟨v', rfl, ho, he⟩
    obtain ⟨r, hr⟩ : ∃ r, ulkS l d.addr d.now = r := ⟨_, rfl⟩
    rw [hr] at HSQ ho ⊢
    clear hr
    obtain ⟨m, er⟩ := r
    dsimp only at HSQ ho ⊢
    have HO := Lib.hid ho
    have HX := Lib.hid he
    have HRX := Lib.hid (Cs.ext HR.out he)
    have HV1 := Lib.hid (show v'.oneCell' = true by obtain ⟨A, c, e, _⟩ := ho.hds.len; rw [e]; rfl)
    clear ho he
    go_upto_region 11 with ((with_reducible refine wpList_store_agg ?_ ?_ 88 (.tmp 4) (.tmp 65) ?_ ldinfo gR #[.slice none 0 0] #[v'] ?_ ?_ ?_ ?_ ?_ ?_ ?_); (exact rfl); (exact rfl); (exact rfl); (exact one_val HV1.out); (exact rfl); (exact rfl); (exact HRX.out); (exact rfl); (exact rfl); intro w9 k9 g9; have K9 := Lib.hid k9; have G9 := Lib.hid g9; clear k9 g9)
    have HJ := Lib.hid (show OwnH w9 w0.heap.size v' m ∧ Cs w9 gR 88 #[v'] ∧ Cs w9 gZ 29 (wc 0) ∧ Ext w w9 from ⟨HO.out.keptT G9.out HRX.out (by decide), K9.out, Cs.kept (Cs.ext HZ.out HX.out) G9.out (some_ne (fun e => HN.out.2.2 e.symm)), (HE.out.trans HX.out).grown G9.out HN.out.1⟩)
    clear HO HX HRX K9 G9
    go_upto_region 11 with fail
    refine wp_named fun a0 ha0 => ?_
    obtain ⟨fr, hfr⟩ : ∃ fr : (Nat → Value) → Act, ∀ V, fr V = ((((a0.put (some 67) (V 0)).put (some 68) (V 1)).put (some 69) (V 2)).put (some 6) (V 5)) := ⟨fun V => ((((a0.put (some 67) (V 0)).put (some 68) (V 1)).put (some 69) (V 2)).put (some 6) (V 5)), fun _ => rfl⟩
    rw [ha0] at hfr
    simp only [Act.put, List.setIfInBounds_toArray, List.set_cons_zero, List.set_cons_succ] at hfr
    have HFR := Lib.hid hfr
    clear hfr
    refine wp_region_inv (by kernel_rfl) (by kernel_rfl) (fun L A W => ∃ V : Nat → Value, A = fr V ∧ Vals (fun j => ([some (.agg #[v']), some (wv 0), some (.int .i64 er), none, none, some (.int .i64 er)] : List (Option Value)).getD j none) L V ∧ (L 5 = false → OwnH W w0.heap.size v' m ∧ Cs W gR 88 #[v'] ∧ Cs W gZ 29 (wc 0) ∧ Ext w W ∧ V 5 = .int .i64 er) ∧ (L 5 = true → OwnH W w0.heap.size v' m ∧ Cs W gR 88 #[v'] ∧ Cs W gZ 29 (wc 0) ∧ Ext w W)) ?_ ⟨?_, ?_, ?_, ?_, ?_, ?_, trivial⟩ ?_
    · refine ⟨fun j => a0.tmps.getD (([67, 68, 69, 0, 0, 6] : List Nat).getD j 0) undef, ?_, Vals.no _ _ _ (far_none _ _ rfl), fun _ => ⟨HJ.out.1.ext (Ext.refl _).drew, Cs.ext HJ.out.2.1 (Ext.refl _).drew, Cs.ext HJ.out.2.2.1 (Ext.refl _).drew, HJ.out.2.2.2.drew, by show a0.tmps.getD 6 undef = _; rw [ha0]; rfl⟩, fun h0 => absurd h0 (by decide)⟩
      rw [HFR.out, ha0]
      rfl
    all_goals clear ha0
    · rintro L A W K hL hC hW ⟨V, rfl, HV, s0, s1⟩ hK
      have hB := s0 (hC.no hL 5 _ rfl rfl)
      have H := Lib.hid (show ∀ W', Ext W W' → K (fr (upd V 0 (.agg #[v']))) W' from fun W' he => hK _ _ ⟨upd V 0 (.agg #[v']), rfl, HV.up 0 _ (fun x hx => Option.some.inj hx), fun h0 => DoJ.ext (s0 (by unfold More at h0; rwa [if_neg (by decide)] at h0)) he, fun h0 => DoK.ext (s1 (more_ne h0 rfl)) he⟩)
      clear hK hC hW hL HV s0 s1
      rw [HFR.out]
      have hcl := hB.2.1.cell 0 _ rfl
      clear hB
      go_wp2_with fail
      show K _ _
      have := H.out _ (Ext.refl _)
      rw [HFR.out] at this
      exact this
    · rintro L A W K hL hC hW ⟨V, rfl, HV, s0, s1⟩ hK
      have hB := s0 (hC.no hL 5 _ rfl rfl)
      have H := Lib.hid (show ∀ W', Ext W W' → K (fr (upd V 1 (wv 0))) W' from fun W' he => hK _ _ ⟨upd V 1 (wv 0), rfl, HV.up 1 _ (fun x hx => Option.some.inj hx), fun h0 => DoJ.ext (s0 (by unfold More at h0; rwa [if_neg (by decide)] at h0)) he, fun h0 => DoK.ext (s1 (more_ne h0 rfl)) he⟩)
      clear hK hC hW hL HV s0 s1
      rw [HFR.out]
      have HWW := Lib.hid (Cs.rg hB.2.2.1)
      clear hB
      refine wpList_load_wordIn rfl (.tmp 5) rfl gZ 0 0 rfl HWW.out ?_
      show K _ _
      have := H.out _ (Ext.refl _)
      rw [HFR.out] at this
      exact this
    · rintro L A W K hL hC hW ⟨V, rfl, HV, s0, s1⟩ hK
      have hB := s0 (hC.no hL 5 _ rfl rfl)
      have e5 : V 5 = .int .i64 er := hB.2.2.2.2
      have H := Lib.hid (show ∀ W', Ext W W' → K (fr (upd V 2 (.int .i64 er))) W' from fun W' he => hK _ _ ⟨upd V 2 (.int .i64 er), rfl, HV.up 2 _ (fun x hx => Option.some.inj hx), fun h0 => DoJ.ext (s0 (by unfold More at h0; rwa [if_neg (by decide)] at h0)) he, fun h0 => DoK.ext (s1 (more_ne h0 rfl)) he⟩)
      have HU := Lib.hid (show (upd V 2 (.int .i64 er)) 5 = .int .i64 er from e5)
      clear hK hC hW hL HV s0 s1
      rw [HFR.out]
      rw [e5]
      clear e5
      clear hB
      go_wp2_with fail
      show K _ _
      have := H.out _ (Ext.refl _)
      rw [HFR.out] at this
      obtain u5 := HU.out
      rw [u5] at this
      exact this
    · rintro L A W K hL hC hW ⟨V, rfl, HV, s0, s1⟩ hK
      have e0 : V 0 = .agg #[v'] := HV 0 _ rfl (hW 0 rfl)
      have hB := s0 (hC.no hL 5 _ rfl rfl)
      have H := Lib.hid (show ∀ W', Ext W W' → K (fr (V)) W' from fun W' he => hK _ _ ⟨V, rfl, HV.st 3 rfl, fun h0 => DoJ.ext (s0 (by unfold More at h0; rwa [if_neg (by decide)] at h0)) he, fun h0 => DoK.ext (s1 (more_ne h0 rfl)) he⟩)
      have HU := Lib.hid (show (V) 0 = .agg #[v'] from e0)
      clear hK hC hW hL HV s0 s1
      rw [HFR.out]
      rw [e0]
      clear e0
      have HJ' := Lib.hid hB
      clear hB
      refine wpList_store_agg rfl rfl 88 (.tmp 4) (.tmp 67) rfl ldinfo gR #[v'] #[v'] (one_val HV1.out) rfl rfl HJ'.out.2.1 rfl rfl ?_
      intro w' kk gg
      have he := ext_same HJ'.out.2.1 kk gg
      show K _ _
      have := H.out _ he
      rw [HFR.out] at this
      obtain u0 := HU.out
      rw [u0] at this
      exact this
    · rintro L A W K hL hC hW ⟨V, rfl, HV, s0, s1⟩ hK
      have e1 : V 1 = wv 0 := HV 1 _ rfl (hW 1 rfl)
      have hB := s0 (hC.no hL 5 _ rfl rfl)
      have H := Lib.hid (show ∀ W', Ext W W' → K (fr (V)) W' from fun W' he => hK _ _ ⟨V, rfl, HV.st 4 rfl, fun h0 => DoJ.ext (s0 (by unfold More at h0; rwa [if_neg (by decide)] at h0)) he, fun h0 => DoK.ext (s1 (more_ne h0 rfl)) he⟩)
      have HU := Lib.hid (show (V) 1 = wv 0 from e1)
      clear hK hC hW hL HV s0 s1
      rw [HFR.out]
      rw [e1]
      clear e1
      have HJ' := Lib.hid hB
      clear hB
      refine wpList_store_word rfl rfl 29 (.tmp 5) (.tmp 68) rfl winfo gZ (wc 0) 0 rfl rfl HJ'.out.2.2.1 rfl ?_
      intro w' kk gg
      have he := ext_same HJ'.out.2.2.1 kk gg
      show K _ _
      have := H.out _ he
      rw [HFR.out] at this
      obtain u1 := HU.out
      rw [u1] at this
      exact this
    · rintro L A W K hL hC hW ⟨V, rfl, HV, s0, s1⟩ hK
      have e2 : V 2 = .int .i64 er := HV 2 _ rfl (hW 2 rfl)
      have hB := s0 hL
      have H := Lib.hid (show ∀ W', (OwnH W' w0.heap.size v' m ∧ Cs W' gR 88 #[v'] ∧ Cs W' gZ 29 (wc 0) ∧ Ext w W') → K (fr (upd V 5 (.int .i64 er))) W' from fun W' hA => hK _ _ ⟨upd V 5 (.int .i64 er), rfl, HV.up 5 _ (fun x hx => Option.some.inj hx), fun h0 => absurd h0 (by unfold More; rw [if_pos rfl]; simp), fun h0 => hA⟩)
      have HU := Lib.hid (show (upd V 5 (.int .i64 er)) 2 = .int .i64 er from e2)
      clear hK hC hW hL HV s0 s1
      rw [HFR.out]
      rw [e2]
      clear e2
      have HA := Lib.hid (show OwnH W w0.heap.size v' m ∧ Cs W gR 88 #[v'] ∧ Cs W gZ 29 (wc 0) ∧ Ext w W from ⟨hB.1, hB.2.1, hB.2.2.1, hB.2.2.2.1⟩)
      clear hB
      go_wp2_with fail
      show K _ _
      have := H.out _ HA.out
      rw [HFR.out] at this
      obtain u2 := HU.out
      rw [u2] at this
      exact this
    · rintro L A W hL ⟨V, rfl, HV, s0, s1⟩
      have e0 : V 0 = .agg #[v'] := HV 0 _ rfl (hL 0 (by simp))
      have e1 : V 1 = wv 0 := HV 1 _ rfl (hL 1 (by simp))
      have e2 : V 2 = .int .i64 er := HV 2 _ rfl (hL 2 (by simp))
      have e5 : V 5 = .int .i64 er := HV 5 _ rfl (hL 5 (by simp))
      have hA := s1 (hL 5 (by simp))
      rw [HFR.out]
      rw [e0, e1, e2, e5]
      clear hL HV HFR e0 e1 e2 e5 s0 s1
      have HX := Lib.hid hA
      clear hA
      go_wp2_with fail
      refine bodyPost_ret (results_ldw_tmp Try.results41 _ _ gR gZ v' 0 rfl HX.out.2.1 rfl HX.out.2.2.1) rfl ?_
      exact ⟨v', by rw [HSQ.out]; rfl, by rw [HSQ.out]; exact HX.out.1.mono HE.out.size, HX.out.2.2.2⟩
  · have HSQ := Lib.hid (show doS l d = relS l d.addr d.now by rw [HSP.out, if_neg (by rw [hk]; decide), if_neg (by rw [hk]; decide), if_neg (by rw [hk]; decide), if_neg (by rw [hk]; decide)])
    rw [hk]
    clear hk HSP
    go_wp2_with fail
    refine (release_any v l d.addr d.now _ (HS.out.ext HE.out) HD.out.2.1 HD.out.2.2.2.2).mono ?_
    rintro e w5 ⟨v', rfl, ho, he⟩
    obtain ⟨r, hr⟩ : ∃ r, relS l d.addr d.now = r := ⟨_, rfl⟩
    rw [hr] at HSQ ho HRW ⊢
    clear hr
    obtain ⟨m, s, er⟩ := r
    dsimp only at HSQ ho HRW ⊢
    have HO := Lib.hid ho
    have HX := Lib.hid he
    have HRX := Lib.hid (Cs.ext HR.out he)
    have HZX := Lib.hid (Cs.ext HZ.out he)
    have HV1 := Lib.hid (show v'.oneCell' = true by obtain ⟨A, c, e, _⟩ := ho.hds.len; rw [e]; rfl)
    clear ho he
    go_upto_region 11 with (first
      | ((with_reducible refine wpList_store_agg ?_ ?_ 88 (.tmp 4) (.tmp 18) ?_ ldinfo gR #[.slice none 0 0] #[v'] ?_ ?_ ?_ ?_ ?_ ?_ ?_); (exact rfl); (exact rfl); (exact rfl); (exact one_val HV1.out); (exact rfl); (exact rfl); (exact HRX.out); (exact rfl); (exact rfl); intro w9 k9 g9; have K9 := Lib.hid k9; have G9 := Lib.hid g9; clear k9 g9)
      | ((with_reducible refine wpList_store_word rfl rfl 29 (.tmp 5) (.tmp 19) rfl winfo gZ (wc 0) s ?_ ?_ ?_ ?_ ?_); (exact rfl); (exact rfl); (exact Cs.kept HZX.out G9.out (some_ne (fun e => HN.out.2.2 e.symm))); (exact rfl); intro wb kb gb; have Kb := Lib.hid kb; have Gb := Lib.hid gb; clear kb gb))
    have HJ := Lib.hid (show OwnH wb w0.heap.size v' m ∧ Cs wb gR 88 #[v'] ∧ Cs wb gZ 29 (wc s) ∧ Ext w wb from ⟨(HO.out.keptT G9.out HRX.out (by decide)).keptT Gb.out (Cs.kept HZX.out G9.out (some_ne (fun e => HN.out.2.2 e.symm))) (by decide), Cs.kept K9.out Gb.out (some_ne HN.out.2.2), Kb.out, ((HE.out.trans HX.out).grown G9.out HN.out.1).grown Gb.out HN.out.2.1⟩)
    clear HO HX HRX HZX K9 G9 Kb Gb
    go_upto_region 11 with fail
    refine wp_named fun a0 ha0 => ?_
    obtain ⟨fr, hfr⟩ : ∃ fr : (Nat → Value) → Act, ∀ V, fr V = ((((a0.put (some 67) (V 0)).put (some 68) (V 1)).put (some 69) (V 2)).put (some 6) (V 5)) := ⟨fun V => ((((a0.put (some 67) (V 0)).put (some 68) (V 1)).put (some 69) (V 2)).put (some 6) (V 5)), fun _ => rfl⟩
    rw [ha0] at hfr
    simp only [Act.put, List.setIfInBounds_toArray, List.set_cons_zero, List.set_cons_succ] at hfr
    have HFR := Lib.hid hfr
    clear hfr
    refine wp_region_inv (by kernel_rfl) (by kernel_rfl) (fun L A W => ∃ V : Nat → Value, A = fr V ∧ Vals (fun j => ([some (.agg #[v']), some (wv s), some (.int .i64 er), none, none, some (.int .i64 er)] : List (Option Value)).getD j none) L V ∧ (L 5 = false → OwnH W w0.heap.size v' m ∧ Cs W gR 88 #[v'] ∧ Cs W gZ 29 (wc s) ∧ Ext w W ∧ V 5 = .int .i64 er) ∧ (L 5 = true → OwnH W w0.heap.size v' m ∧ Cs W gR 88 #[v'] ∧ Cs W gZ 29 (wc s) ∧ Ext w W)) ?_ ⟨?_, ?_, ?_, ?_, ?_, ?_, trivial⟩ ?_
    · refine ⟨fun j => a0.tmps.getD (([67, 68, 69, 0, 0, 6] : List Nat).getD j 0) undef, ?_, Vals.no _ _ _ (far_none _ _ rfl), fun _ => ⟨HJ.out.1.ext (Ext.refl _).drew, Cs.ext HJ.out.2.1 (Ext.refl _).drew, Cs.ext HJ.out.2.2.1 (Ext.refl _).drew, HJ.out.2.2.2.drew, by show a0.tmps.getD 6 undef = _; rw [ha0]; rfl⟩, fun h0 => absurd h0 (by decide)⟩
      rw [HFR.out, ha0]
      rfl
    all_goals clear ha0
    · rintro L A W K hL hC hW ⟨V, rfl, HV, s0, s1⟩ hK
      have hB := s0 (hC.no hL 5 _ rfl rfl)
      have H := Lib.hid (show ∀ W', Ext W W' → K (fr (upd V 0 (.agg #[v']))) W' from fun W' he => hK _ _ ⟨upd V 0 (.agg #[v']), rfl, HV.up 0 _ (fun x hx => Option.some.inj hx), fun h0 => DoJ.ext (s0 (by unfold More at h0; rwa [if_neg (by decide)] at h0)) he, fun h0 => DoK.ext (s1 (more_ne h0 rfl)) he⟩)
      clear hK hC hW hL HV s0 s1
      rw [HFR.out]
      have hcl := hB.2.1.cell 0 _ rfl
      clear hB
      go_wp2_with fail
      show K _ _
      have := H.out _ (Ext.refl _)
      rw [HFR.out] at this
      exact this
    · rintro L A W K hL hC hW ⟨V, rfl, HV, s0, s1⟩ hK
      have hB := s0 (hC.no hL 5 _ rfl rfl)
      have H := Lib.hid (show ∀ W', Ext W W' → K (fr (upd V 1 (wv s))) W' from fun W' he => hK _ _ ⟨upd V 1 (wv s), rfl, HV.up 1 _ (fun x hx => Option.some.inj hx), fun h0 => DoJ.ext (s0 (by unfold More at h0; rwa [if_neg (by decide)] at h0)) he, fun h0 => DoK.ext (s1 (more_ne h0 rfl)) he⟩)
      clear hK hC hW hL HV s0 s1
      rw [HFR.out]
      have HWW := Lib.hid (Cs.rg hB.2.2.1)
      clear hB
      refine wpList_load_wordIn rfl (.tmp 5) rfl gZ 0 s rfl HWW.out ?_
      show K _ _
      have := H.out _ (Ext.refl _)
      rw [HFR.out] at this
      exact this
    · rintro L A W K hL hC hW ⟨V, rfl, HV, s0, s1⟩ hK
      have hB := s0 (hC.no hL 5 _ rfl rfl)
      have e5 : V 5 = .int .i64 er := hB.2.2.2.2
      have H := Lib.hid (show ∀ W', Ext W W' → K (fr (upd V 2 (.int .i64 er))) W' from fun W' he => hK _ _ ⟨upd V 2 (.int .i64 er), rfl, HV.up 2 _ (fun x hx => Option.some.inj hx), fun h0 => DoJ.ext (s0 (by unfold More at h0; rwa [if_neg (by decide)] at h0)) he, fun h0 => DoK.ext (s1 (more_ne h0 rfl)) he⟩)
      have HU := Lib.hid (show (upd V 2 (.int .i64 er)) 5 = .int .i64 er from e5)
      clear hK hC hW hL HV s0 s1
      rw [HFR.out]
      rw [e5]
      clear e5
      clear hB
      go_wp2_with fail
      show K _ _
      have := H.out _ (Ext.refl _)
      rw [HFR.out] at this
      obtain u5 := HU.out
      rw [u5] at this
      exact this
    · rintro L A W K hL hC hW ⟨V, rfl, HV, s0, s1⟩ hK
      have e0 : V 0 = .agg #[v'] := HV 0 _ rfl (hW 0 rfl)
      have hB := s0 (hC.no hL 5 _ rfl rfl)
      have H := Lib.hid (show ∀ W', Ext W W' → K (fr (V)) W' from fun W' he => hK _ _ ⟨V, rfl, HV.st 3 rfl, fun h0 => DoJ.ext (s0 (by unfold More at h0; rwa [if_neg (by decide)] at h0)) he, fun h0 => DoK.ext (s1 (more_ne h0 rfl)) he⟩)
      have HU := Lib.hid (show (V) 0 = .agg #[v'] from e0)
      clear hK hC hW hL HV s0 s1
      rw [HFR.out]
      rw [e0]
      clear e0
      have HJ' := Lib.hid hB
      clear hB
      refine wpList_store_agg rfl rfl 88 (.tmp 4) (.tmp 67) rfl ldinfo gR #[v'] #[v'] (one_val HV1.out) rfl rfl HJ'.out.2.1 rfl rfl ?_
      intro w' kk gg
      have he := ext_same HJ'.out.2.1 kk gg
      show K _ _
      have := H.out _ he
      rw [HFR.out] at this
      obtain u0 := HU.out
      rw [u0] at this
      exact this
    · rintro L A W K hL hC hW ⟨V, rfl, HV, s0, s1⟩ hK
      have e1 : V 1 = wv s := HV 1 _ rfl (hW 1 rfl)
      have hB := s0 (hC.no hL 5 _ rfl rfl)
      have H := Lib.hid (show ∀ W', Ext W W' → K (fr (V)) W' from fun W' he => hK _ _ ⟨V, rfl, HV.st 4 rfl, fun h0 => DoJ.ext (s0 (by unfold More at h0; rwa [if_neg (by decide)] at h0)) he, fun h0 => DoK.ext (s1 (more_ne h0 rfl)) he⟩)
      have HU := Lib.hid (show (V) 1 = wv s from e1)
      clear hK hC hW hL HV s0 s1
      rw [HFR.out]
      rw [e1]
      clear e1
      have HJ' := Lib.hid hB
      clear hB
      refine wpList_store_word rfl rfl 29 (.tmp 5) (.tmp 68) rfl winfo gZ (wc s) s rfl rfl HJ'.out.2.2.1 rfl ?_
      intro w' kk gg
      have he := ext_same HJ'.out.2.2.1 kk gg
      show K _ _
      have := H.out _ he
      rw [HFR.out] at this
      obtain u1 := HU.out
      rw [u1] at this
      exact this
    · rintro L A W K hL hC hW ⟨V, rfl, HV, s0, s1⟩ hK
      have e2 : V 2 = .int .i64 er := HV 2 _ rfl (hW 2 rfl)
      have hB := s0 hL
      have H := Lib.hid (show ∀ W', (OwnH W' w0.heap.size v' m ∧ Cs W' gR 88 #[v'] ∧ Cs W' gZ 29 (wc s) ∧ Ext w W') → K (fr (upd V 5 (.int .i64 er))) W' from fun W' hA => hK _ _ ⟨upd V 5 (.int .i64 er), rfl, HV.up 5 _ (fun x hx => Option.some.inj hx), fun h0 => absurd h0 (by unfold More; rw [if_pos rfl]; simp), fun h0 => hA⟩)
      have HU := Lib.hid (show (upd V 5 (.int .i64 er)) 2 = .int .i64 er from e2)
      clear hK hC hW hL HV s0 s1
      rw [HFR.out]
      rw [e2]
      clear e2
      have HA := Lib.hid (show OwnH W w0.heap.size v' m ∧ Cs W gR 88 #[v'] ∧ Cs W gZ 29 (wc s) ∧ Ext w W from ⟨hB.1, hB.2.1, hB.2.2.1, hB.2.2.2.1⟩)
      clear hB
      go_wp2_with fail
      show K _ _
      have := H.out _ HA.out
      rw [HFR.out] at this
      obtain u2 := HU.out
      rw [u2] at this
      exact this
    · rintro L A W hL ⟨V, rfl, HV, s0, s1⟩
      have e0 : V 0 = .agg #[v'] := HV 0 _ rfl (hL 0 (by simp))
      have e1 : V 1 = wv s := HV 1 _ rfl (hL 1 (by simp))
      have e2 : V 2 = .int .i64 er := HV 2 _ rfl (hL 2 (by simp))
      have e5 : V 5 = .int .i64 er := HV 5 _ rfl (hL 5 (by simp))
      have hA := s1 (hL 5 (by simp))
      rw [HFR.out]
      rw [e0, e1, e2, e5]
      clear hL HV HFR e0 e1 e2 e5 s0 s1
      have HX := Lib.hid hA
      clear hA
      go_wp2_with fail
      refine bodyPost_ret (results_ldw_tmp Try.results41 _ _ gR gZ v' s rfl HX.out.2.1 rfl HX.out.2.2.1) rfl ?_
      exact ⟨v', by rw [HSQ.out]; rfl, by rw [HSQ.out]; exact HX.out.1.mono HE.out.size, HX.out.2.2.2⟩
end Go.Proofs.Ytepggbhibpjkpaa
