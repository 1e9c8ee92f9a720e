/- The document's Copy of an account. The document's with, by mathematics. The document's with: a state in which an address has something else. -/
import Derived.Test.YtiojfpdjnblkhaaQStt
import Derived.Test.YtiojfpdjnblkhaaQSma
import Derived.Test.YtiojfpdjnblkhaaQStw
import Derived.Test.YtiojfpdjnblkhaaQSua
namespace Go.Proofs.Ytiojfpdjnblkhaa
open Go.ChangeShapes Go.WideShapes Go.ChangeAt Go.RowKit Go.Shelf

set_option maxRecDepth 100000 in
set_option maxHeartbeats 4000000 in
theorem refCopy_any (a : Ac) (u v : Value) (w : World) (hu : Bs w u a.code) (hv : Pks w v a.store) (hz : a.code.length ≤ 1000000 ∧ a.store.length ≤ 1000000) :
  Calls Try.prog 130 #[.agg (acc a u v)] w fun e w' => ∃ u' v', e = .returned (.agg (acc a u' v')) ∧ AcO w.heap.size w' a u' v' ∧ Ext w w' := by
 have HU := Lib.hid hu
 have HV := Lib.hid hv
 obtain ⟨A1, c1, rfl, z1, z2, _⟩ := hu
 obtain ⟨A2, c2, rfl, z3, z4⟩ := hv.len
 unfold maxLen at z2 z4
 have HK : Hid (Ab ((w.alloc (.cells (acc a (.slice A1 a.code.length c1) (.slice A2 a.store.length c2)) 37)).alloc (.cells az0 37)) w.heap.size a (.slice A1 a.code.length c1) (.slice A2 a.store.length c2)) := Lib.hid (Cs.alloc (Cs.new _ _ _ _ rfl) _)
 have HZ : Hid (Cs ((w.alloc (.cells (acc a (.slice A1 a.code.length c1) (.slice A2 a.store.length c2)) 37)).alloc (.cells az0 37)) (w.heap.size + 1) 37 az0) := Lib.hid (Cs.new _ _ _ _ (by simp))
 have HE := Lib.hid (((Ext.refl w).alloc (.cells (acc a (.slice A1 a.code.length c1) (.slice A2 a.store.length c2)) 37)).alloc (.cells az0 37))
 have HSZ := Lib.hid (show ((w.alloc (.cells (acc a (.slice A1 a.code.length c1) (.slice A2 a.store.length c2)) 37)).alloc (.cells az0 37)).heap.size = w.heap.size + 1 + 1 by simp)
 obtain ⟨w0, hw0⟩ : ∃ w0, (w.alloc (.cells (acc a (.slice A1 a.code.length c1) (.slice A2 a.store.length c2)) 37)).alloc (.cells az0 37) = w0 := ⟨_, rfl⟩
 obtain ⟨cs, hcs⟩ : ∃ cs, acc a (.slice A1 a.code.length c1) (.slice A2 a.store.length c2) = cs := ⟨_, rfl⟩
 have HCS := Lib.hid hcs
 have hcs6 : cs[6]? = some (.slice A1 a.code.length c1) := by rw [← hcs]; rfl
 have hcs7 : cs[7]? = some (.slice A2 a.store.length c2) := by rw [← hcs]; rfl
 rw [hw0] at HK HE HZ HSZ
 rw [hcs] at hw0 ⊢
 unfold az0 at hw0
 have HW0 := Lib.hid hw0
 clear hv hcs hw0
 go_enter Try.func130, Try.ntmps130
 go_upto_region 1 with fail
 rw [HW0.out]
 have HT1 := Lib.hid (fun W (h : Ext w W) => show Bs W (.slice A1 a.code.length c1) a.code from HU.out.ext h)
 have HLL := Lib.hid (show a.code.length ≤ 1000000 from hz.1)
 have HT2 := Lib.hid (fun W (h : Ext w W) => show Rs W 8 (.slice A2 a.store.length c2) a.store.length (pkf a.store) from (HV.out.ext h).rs)
 have HSL := Lib.hid (show a.store.length ≤ 1000000 from hz.2)
 have HPW := Lib.hid (show ∀ p ∈ a.store, p.1 < M256 ∧ p.2 < M256 from HV.out.words)
 clear hz
 have q6 : (w0.alloc (.cells #[] 5)).cell? ⟨w.heap.size, 6, none⟩ = some (.slice A1 a.code.length c1) := (Ab.ext HK.out ((Ext.refl w0).alloc _)).code
 go_upto_region 2 with (at_builtin; go_loud (refine wpList_append_bytes rfl (.tmp 3) (.tmp 5) _ rfl (w.heap.size + 1 + 1) 5 Try.underlying34 u8info _ [] rfl (own_made w0 (w.heap.size + 1 + 1) 5 (by rw [HSZ.out]; omega)) _ a.code rfl (HT1.out _ (HE.out.alloc (.cells #[] 5))) (by have := HLL.out; simp; omega) (by simp; rw [HSZ.out]; omega) ?_); intro v1 w1 ho hg hat; rw [List.nil_append] at ho; have HX1 := Lib.hid (show Ext w0 w1 from ((Ext.refl w0).alloc (.cells #[] 5)).grown hg (Nat.le_refl _)); have K1 := Lib.hid (Ab.ext HK.out HX1.out); have q6' : w1.cell? ⟨w.heap.size, 6, none⟩ = some (.slice A1 a.code.length c1) := K1.out.code; have f6' : w1.frozen? ⟨w.heap.size, 6, none⟩ = false := Cs.frozen K1.out 6; obtain ⟨A3, c3, rfl, y1, y2, _⟩ := ho.bs; have HO1 := Lib.hid ho; clear ho hg hat)
 have K2 := Lib.hid (show Ab (w1.setCell ⟨w.heap.size, 6, none⟩ (.slice A3 a.code.length c3)) w.heap.size a (.slice A3 a.code.length c3) (.slice A2 a.store.length c2) from by simpa [Ab, acc] using Cs.set K1.out 6 (.slice A3 a.code.length c3))
 have Z2 := Lib.hid (Cs.kept (Cs.ext HZ.out HX1.out) (grown_set w1 w.heap.size 6 (.slice A3 a.code.length c3)) (some_ne (by omega)))
 have HE2 := Lib.hid ((HE.out.trans HX1.out).grown (grown_set w1 w.heap.size 6 (.slice A3 a.code.length c3)) (Nat.le_refl _))
 have HO2 := Lib.hid (World.ownsRow.kept HO1.out (grown_set w1 w.heap.size 6 (.slice A3 a.code.length c3)) (.inr (fun e => by have := (World.ownsRow.lt HO1.out w.heap.size e).1; omega)))
 have HB2 := Lib.hid (show w.heap.size + 1 + 1 ≤ (w1.setCell ⟨w.heap.size, 6, none⟩ (.slice A3 a.code.length c3)).heap.size by have := HX1.out.size; simp; rw [HSZ.out] at this; omega)
 clear HK HZ HE HX1 K1 HO1 q6 q6' f6' HW0 HSZ HT1 HU hcs6 hcs7
 generalize w1.setCell ⟨w.heap.size, 6, none⟩ (.slice A3 a.code.length c3) = w2 at *
 have q7 : (w2.alloc (.cells #[] 33)).cell? ⟨w.heap.size, 7, none⟩ = some (.slice A2 a.store.length c2) := (Ab.ext K2.out ((Ext.refl w2).alloc _)).store
 have HOP : Hid ((w2.alloc (.cells #[] 33)).ownsRow (w.heap.size + 1 + 1) 33 8 (.slice (some ⟨w2.heap.size, 0, none⟩) 0 0) 0 []) := Lib.hid ⟨by simp, .inr ⟨w2.heap.size, 0, #[], rfl, HB2.out, heap_alloc_new _ _, Nat.le_refl _, by unfold maxLen; omega, by simp, by simp⟩⟩
 go_upto_region 3 with (at_builtin; go_loud (refine wpList_append_row rfl (.tmp 8) (.tmp 10) 35 rfl (w.heap.size + 1 + 1) 33 Try.underlying35 _ 8 64 pkinfo3 rfl (by decide) _ 0 [] rfl HOP.out _ a.store.length (pkf a.store) rfl (HT2.out _ (HE2.out.alloc (.cells #[] 33))) (pkf_one a.store) (by have := HSL.out; omega) (by decide) (by have := HB2.out; simp; omega) ?_); intro v3 w3 ho hg hat; rw [List.nil_append, Nat.zero_add] at ho; have HX3 := Lib.hid (show Ext w2 w3 from ((Ext.refl w2).alloc (.cells #[] 33)).grown hg (Nat.le_refl _)); have K3 := Lib.hid (Ab.ext K2.out HX3.out); have q7' : w3.cell? ⟨w.heap.size, 7, none⟩ = some (.slice A2 a.store.length c2) := K3.out.store; have f7' : w3.frozen? ⟨w.heap.size, 7, none⟩ = false := Cs.frozen K3.out 7; obtain ⟨_, A4, c4, rfl, x1, x2, _⟩ := Rs.of_own ho; have HO3 := Lib.hid ho; clear ho hg hat)
 have K4 := Lib.hid (show Ab (w3.setCell ⟨w.heap.size, 7, none⟩ (.slice A4 a.store.length c4)) w.heap.size a (.slice A3 a.code.length c3) (.slice A4 a.store.length c4) from by simpa [Ab, acc] using Cs.set K3.out 7 (.slice A4 a.store.length c4))
 have Z4 := Lib.hid (Cs.kept (Cs.ext Z2.out HX3.out) (grown_set w3 w.heap.size 7 (.slice A4 a.store.length c4)) (some_ne (by omega)))
 have HE4 := Lib.hid ((HE2.out.trans HX3.out).grown (grown_set w3 w.heap.size 7 (.slice A4 a.store.length c4)) (Nat.le_refl _))
 have HO4 := Lib.hid (World.ownsRow.kept (own_ext HO2.out HX3.out) (grown_set w3 w.heap.size 7 (.slice A4 a.store.length c4)) (.inr (fun e => by have := (World.ownsRow.lt HO2.out w.heap.size e).1; omega)))
 have HP4 := Lib.hid (World.ownsRow.kept HO3.out (grown_set w3 w.heap.size 7 (.slice A4 a.store.length c4)) (.inr (fun e => by have := (World.ownsRow.lt HO3.out w.heap.size e).1; omega)))
 clear K2 Z2 HE2 HX3 K3 HO2 HO3 q7 q7' f7' HOP HB2
 generalize w3.setCell ⟨w.heap.size, 7, none⟩ (.slice A4 a.store.length c4) = w4 at *
 go_wp2_with (first
  | ((with_reducible refine wpList_load_ac ?_ (.tmp 1) ?_ w.heap.size 0 a (.slice A3 a.code.length c3) (.slice A4 a.store.length c4) ?_ ?_ ?_); (exact rfl); (exact rfl); (exact rfl); (exact K4.out.range))
  | ((with_reducible refine wpList_store_ac ?_ ?_ (.tmp 2) (.tmp 13) ?_ (w.heap.size + 1) az0 a (.slice A3 a.code.length c3) (.slice A4 a.store.length c4) ?_ ?_ ?_ ?_ ?_ ?_ ?_); (exact rfl); (exact rfl); (exact rfl); (exact rfl); (exact rfl); (exact rfl); (exact rfl); (exact Z4.out); (exact rfl); intro w5 k5 g5; have K5 := Lib.hid k5; have HE5 := Lib.hid (HE4.out.grown g5 (by omega)); have HO5 := Lib.hid (World.ownsRow.kept HO4.out g5 (.inr (fun e => by have := (World.ownsRow.lt HO4.out _ e).1; omega))); have HP5 := Lib.hid (World.ownsRow.kept HP4.out g5 (.inr (fun e => by have := (World.ownsRow.lt HP4.out _ e).1; omega))); clear k5 g5))
 refine bodyPost_ret (results_ac Try.results130 _ _ (w.heap.size + 1) _ _ _ rfl K5.out) rfl ?_
 exact ⟨_, _, rfl, ⟨own_mono HO5.out (by omega), own_mono HP5.out (by omega), HPW.out⟩, HE5.out⟩
end Go.Proofs.Ytiojfpdjnblkhaa
namespace Go.Proofs.Ytiojfpdjnblkhaa
open Go.ChangeShapes Go.WideShapes Go.ChangeAt Go.RowKit Go.Shelf

def wiS (x : Ac) (t : List Ac × Bool) (y : Ac) : List Ac × Bool :=
 if y.addr = x.addr then t else if t.2 = false ∧ x.addr < y.addr then ((t.1 ++ [x]) ++ [y], true) else (t.1 ++ [y], t.2)
def wiF (l : List Ac) (x : Ac) : List Ac × Bool := l.foldl (wiS x) ([], x.emptyB)
def wiL (l : List Ac) (x : Ac) : List Ac := if (wiF l x).2 then (wiF l x).1 else (wiF l x).1 ++ [x]
theorem wiF_more (l : List Ac) (x : Ac) (k : Nat) (hk : k < l.length) : wiF (l.take (k + 1)) x = wiS x (wiF (l.take k) x) (l.getD k acz) := by
 unfold wiF
 have e : l[k]? = some l[k] := List.getElem?_eq_getElem hk
 rw [List.take_add_one, List.foldl_append, e]
 simp [List.getD, e]
theorem wiF_len' (x : Ac) : ∀ (l : List Ac) (t : List Ac × Bool), (l.foldl (wiS x) t).1.length ≤ t.1.length + 2 * l.length
 | [], t => by simp
 | y :: l, t => by
  rw [List.foldl_cons]
  have ih := wiF_len' x l (wiS x t y)
  have h : (wiS x t y).1.length ≤ t.1.length + 2 := by
   unfold wiS
   split
   ·omega
   ·split <;> simp
  rw [List.length_cons]
  omega
theorem wiF_len (x : Ac) (l : List Ac) (k : Nat) : (wiF (l.take k) x).1.length ≤ 2 * l.length := by
 have := wiF_len' x (l.take k) ([], x.emptyB)
 unfold wiF
 have h : (l.take k).length ≤ l.length := by rw [List.length_take]; omega
 simp at this ⊢
 omega
theorem wiF_laid (x : Ac) : ∀ (l : List Ac) (t : List Ac), l.foldl (wiS x) (t, true) = (t ++ l.filter (fun p => !decide (p.addr = x.addr)), true)
 | [], t => by simp
 | y :: l, t => by
  rw [List.foldl_cons, List.filter_cons]
  by_cases h : y.addr = x.addr
  ·rw [show wiS x (t, true) y = (t, true) by simp [wiS, h], wiF_laid x l t]
   simp [h]
  ·rw [show wiS x (t, true) y = (t ++ [y], true) by simp [wiS, h], wiF_laid x l (t ++ [y])]
   simp [h]
theorem filt_apart {l : List Ac} (h : RiseA l) (x : Ac) : l.filter (fun p => !decide (p.addr = x.addr)) = ltL x l ++ gtL x l := by
 unfold ltL gtL
 induction l with
 | nil => rfl
 | cons y l ih =>
  obtain ⟨h1, h2⟩ := List.pairwise_cons.1 h
  have ih := ih h2
  simp only [List.filter_cons]
  rcases Nat.lt_trichotomy y.addr x.addr with hlt | heq | hgt
  ·have a : ¬ y.addr = x.addr := by omega
   have b : ¬ x.addr < y.addr := by omega
   simp [a, b, hlt, ih]
  ·have a : ¬ y.addr < x.addr := by omega
   have b : ¬ x.addr < y.addr := by omega
   simp [heq, ih]
  ·have a : ¬ y.addr = x.addr := by omega
   have b : ¬ y.addr < x.addr := by omega
   have c : l.filter (fun p => decide (p.addr < x.addr)) = [] := List.filter_eq_nil_iff.2 fun p hp => by
    have := h1 p hp
    simp
    omega
   simp [a, b, hgt, ih, c]
theorem wiF_free (x : Ac) : ∀ (l : List Ac) (_ : RiseA l) (t : List Ac), (if (l.foldl (wiS x) (t, false)).2 then (l.foldl (wiS x) (t, false)).1 else (l.foldl (wiS x) (t, false)).1 ++ [x]) = t ++ ((ltL x l ++ [x]) ++ gtL x l)
 | [], _, t => by simp [ltL, gtL]
 | y :: l, h, t => by
  obtain ⟨h1, h2⟩ := List.pairwise_cons.1 h
  rw [List.foldl_cons]
  rcases Nat.lt_trichotomy y.addr x.addr with hlt | heq | hgt
  ·have a : ¬ y.addr = x.addr := by omega
   have b : ¬ x.addr < y.addr := by omega
   rw [show wiS x (t, false) y = (t ++ [y], false) by simp [wiS, a, b], wiF_free x l h2 (t ++ [y])]
   simp [ltL, gtL, hlt, b]
  ·rw [show wiS x (t, false) y = (t, false) by simp [wiS, heq], wiF_free x l h2 t]
   simp [ltL, gtL, heq]
  ·have a : ¬ y.addr = x.addr := by omega
   have b : ¬ y.addr < x.addr := by omega
   rw [show wiS x (t, false) y = ((t ++ [x]) ++ [y], true) by simp [wiS, a, hgt], wiF_laid, if_pos rfl, filt_apart h2]
   have c : ltL x l = [] := List.filter_eq_nil_iff.2 fun p hp => by
    have := h1 p hp
    simp
    omega
   have d : ltL x (y :: l) = [] := by
    unfold ltL at c ⊢
    rw [List.filter_cons, c]
    simp [b]
   rw [c, d]
   simp [gtL, hgt]
theorem wiL_pl {l : List Ac} (h : RiseA l) (x : Ac) : wiL l x = plL l x := by
 unfold wiL wiF plL
 cases he : x.emptyB with
 | true =>
  rw [wiF_laid, if_pos rfl, if_pos rfl, filt_apart h]
  simp
 | false =>
  rw [wiF_free x l h [], List.nil_append, if_neg (by decide)]
theorem wiL_len (l : List Ac) (x : Ac) : (wiL l x).length ≤ 2 * l.length + 1 := by
 have := wiF_len x l l.length
 rw [List.take_length] at this
 unfold wiL
 split
 ·omega
 ·rw [List.length_append, List.length_singleton]; omega
end Go.Proofs.Ytiojfpdjnblkhaa
namespace Go.Proofs.Ytiojfpdjnblkhaa
open Go.ChangeShapes Go.WideShapes Go.ChangeAt Go.RowKit Go.Shelf

def WiG (lo g2 gx : Nat) (x : Ac) (ux vx : Value) (W : World) : Prop := (Cs W g2 24 #[.slice none 0 0] ∧ Ab W gx x ux vx) ∧ g2 < lo ∧ gx < lo
theorem WiG.ext {lo g2 gx : Nat} {x : Ac} {ux vx : Value} {W W' : World} (h : WiG lo g2 gx x ux vx W) (he : Ext W W') : WiG lo g2 gx x ux vx W' := ⟨⟨Cs.ext h.1.1 he, h.1.2.ext he⟩, h.2⟩
theorem WiG.kept {lo g2 gx : Nat} {x : Ac} {ux vx : Value} {W W' : World} {b : Option Nat} (h : WiG lo g2 gx x ux vx W) (hg : W.grownBy W' b) (hb : ∀ k, b = some k → lo ≤ k ∨ (k ≠ g2 ∧ k ≠ gx)) : WiG lo g2 gx x ux vx W' :=
 ⟨⟨Cs.kept h.1.1 hg (fun e => by have := hb g2 (by first | exact e | exact e.symm); have := h.2; omega), Cs.kept h.1.2 hg (fun e => by have := hb gx (by first | exact e | exact e.symm); have := h.2; omega)⟩, h.2⟩
def WiY (lo g2 gx B : Nat) (x p : Ac) (ux vx u s : Value) (W : World) : Prop := WiG lo g2 gx x ux vx W ∧ Ab W B p u s
theorem WiY.ext {lo g2 gx B : Nat} {x p : Ac} {ux vx u s : Value} {W W' : World} (h : WiY lo g2 gx B x p ux vx u s W) (he : Ext W W') : WiY lo g2 gx B x p ux vx u s W' := ⟨h.1.ext he, h.2.ext he⟩
theorem WiY.kept {lo g2 gx B : Nat} {x p : Ac} {ux vx u s : Value} {W W' : World} {b : Option Nat} (h : WiY lo g2 gx B x p ux vx u s W) (hg : W.grownBy W' b) (hb : ∀ k, b = some k → lo ≤ k ∨ (k ≠ g2 ∧ k ≠ gx)) (hB : b ≠ some B) : WiY lo g2 gx B x p ux vx u s W' := ⟨h.1.kept hg hb, Cs.kept h.2 hg (fun e => hB e.symm)⟩
theorem WiGT.ext {g5 C : Nat} {v0 v cu cs : Value} {lT : List Ac} {q : Ac} {w w4 W W' : World} {lo g2 gx : Nat} {x : Ac} {ux vx : Value} (h : (FwS lo g5 v0 v lT w W ∧ Ab W C q cu cs) ∧ WiG lo g2 gx x ux vx W ∧ Ext w4 W) (he : Ext W W') : (FwS lo g5 v0 v lT w W' ∧ Ab W' C q cu cs) ∧ WiG lo g2 gx x ux vx W' ∧ Ext w4 W' := ⟨FwSA.ext h.1 he, h.2.1.ext he, h.2.2.trans he⟩
theorem WiGU.ext {g5 : Nat} {v0 v : Value} {lT : List Ac} {w W W' : World} {lo g2 gx : Nat} {x : Ac} {ux vx : Value} (h : FwS lo g5 v0 v lT w W ∧ WiG lo g2 gx x ux vx W) (he : Ext W W') : FwS lo g5 v0 v lT w W' ∧ WiG lo g2 gx x ux vx W' := ⟨h.1.ext he, h.2.ext he⟩
theorem WiGV.ext {g5 : Nat} {lT : List Ac} {w W W' : World} {lo g2 gx : Nat} {x : Ac} {ux vx : Value} (h : ∃ v, FwS lo g5 v v lT w W ∧ WiG lo g2 gx x ux vx W) (he : Ext W W') : ∃ v, FwS lo g5 v v lT w W' ∧ WiG lo g2 gx x ux vx W' := by
 obtain ⟨v, h⟩ := h
 exact ⟨v, h.1.ext he, h.2.ext he⟩
theorem WiYT.ext {g5 C : Nat} {v0 v cu cs : Value} {lT : List Ac} {q : Ac} {w w4 W W' : World} {lo g2 gx B : Nat} {x p : Ac} {ux vx u s : Value} (h : (FwS lo g5 v0 v lT w W ∧ Ab W C q cu cs) ∧ WiY lo g2 gx B x p ux vx u s W ∧ Ext w4 W) (he : Ext W W') : (FwS lo g5 v0 v lT w W' ∧ Ab W' C q cu cs) ∧ WiY lo g2 gx B x p ux vx u s W' ∧ Ext w4 W' := ⟨FwSA.ext h.1 he, h.2.1.ext he, h.2.2.trans he⟩
theorem WiYU.ext {g5 : Nat} {v0 v : Value} {lT : List Ac} {w W W' : World} {lo g2 gx B : Nat} {x p : Ac} {ux vx u s : Value} (h : FwS lo g5 v0 v lT w W ∧ WiY lo g2 gx B x p ux vx u s W) (he : Ext W W') : FwS lo g5 v0 v lT w W' ∧ WiY lo g2 gx B x p ux vx u s W' := ⟨h.1.ext he, h.2.ext he⟩
theorem WiYV.ext {g5 : Nat} {lT : List Ac} {w W W' : World} {lo g2 gx B : Nat} {x p : Ac} {ux vx u s : Value} (h : ∃ v, FwS lo g5 v v lT w W ∧ WiY lo g2 gx B x p ux vx u s W) (he : Ext W W') : ∃ v, FwS lo g5 v v lT w W' ∧ WiY lo g2 gx B x p ux vx u s W' := by
 obtain ⟨v, h⟩ := h
 exact ⟨v, h.1.ext he, h.2.ext he⟩
set_option maxRecDepth 100000 in
set_option maxHeartbeats 8000000 in
theorem refWith_any (sv : Value) (l : List Ac) (x : Ac) (ux vx : Value) (w : World) (hs : Acs w sv l) (hx : x.ok) (hux : Bs w ux x.code) (hvx : Pks w vx x.store) (hl : l.length ≤ 10000)
  (hsz : ∀ q ∈ l, q.code.length ≤ 1000000 ∧ q.store.length ≤ 1000000) (hxz : x.code.length ≤ 1000000 ∧ x.store.length ≤ 1000000) :
  Calls Try.prog 94 #[.agg #[sv], .agg (acc x ux vx)] w fun e w' => ∃ v', e = .returned (.agg #[v']) ∧ RwA w.heap.size w' v' (.slice none 0 0) (wiL l x) ∧ Ext w w' := by
 have HS := Lib.hid hs
 have HOKX := Lib.hid hx
 have HUX := Lib.hid hux
 have HVX := Lib.hid hvx
 have HSZ := Lib.hid hsz
 have HXZ := Lib.hid hxz
 have HLEN := Lib.hid (wiF_len x l)
 have HCOX := Lib.hid (fun W (h : Ext w W) => refCopy_any x ux vx W (hux.ext h) (hvx.ext h) hxz)
 have HWL : Hid (wiL l x = if (wiF l x).2 then (wiF l x).1 else (wiF l x).1 ++ [x]) := Lib.hid rfl
 obtain ⟨A0, c0, rfl, h1, h2⟩ := hs.len
 unfold maxLen at h2
 obtain ⟨w0, hw0⟩ : ∃ w0, ((((w.alloc (.cells #[.slice A0 l.length c0] 24)).alloc (.cells (acc x ux vx) 37)).alloc (.cells #[.slice none 0 0] 24)).alloc (.cells #[.slice none 0 0] 24)) = w0 := ⟨_, rfl⟩
 have HW0 := Lib.hid hw0
 have HB2 : Hid (Cs w0 w.heap.size 24 #[.slice A0 l.length c0] ∧ WiG (w.heap.size + 1 + 1 + 1 + 1) (w.heap.size + 1 + 1) (w.heap.size + 1) x ux vx w0 ∧ FwS (w.heap.size + 1 + 1 + 1 + 1) (w.heap.size + 1 + 1 + 1) (.slice none 0 0) (.slice none 0 0) [] w w0) := by
  rw [← hw0]
  exact Lib.hid ⟨Cs.alloc (Cs.alloc (Cs.alloc (Cs.new _ _ _ _ rfl) _) _) _, ⟨⟨Cs.alloc (Cs.new _ _ _ _ (by simp)) _, Cs.alloc (Cs.alloc (Cs.new _ _ _ _ (by simp)) _) _⟩, by omega, by omega⟩, Cs.new _ _ _ _ (by simp), RwA.nil _ _ _, ((((Ext.refl w).alloc _).alloc _).alloc _).alloc _, by simp⟩
 have q0 : w0.cell? ⟨w.heap.size, 0, none⟩ = some (.slice A0 l.length c0) := HB2.out.1.cell 0 _ rfl
 have HXR := Lib.hid (show w0.rangeAt (w.heap.size + 1) 0 (acc x ux vx).toList from HB2.out.2.1.1.2.range)
 obtain ⟨ax, hax⟩ : ∃ ax, acc x ux vx = ax := ⟨_, rfl⟩
 have HAX := Lib.hid hax
 rw [hax] at HW0
 rw [hax]
 clear hs hw0 hx hux hvx hsz hxz hax
 go_enter Try.func94, Try.ntmps94
 go_upto_region 2 with fail
 rw [HW0.out]
 clear HW0
 have HG : Hid (w.heap.size < w.heap.size + 1 ∧ w.heap.size + 1 < w.heap.size + 1 + 1 ∧ w.heap.size + 1 + 1 < w.heap.size + 1 + 1 + 1 ∧ w.heap.size + 1 + 1 + 1 < w.heap.size + 1 + 1 + 1 + 1) := Lib.hid (by omega)
 generalize w.heap.size + 1 + 1 + 1 + 1 = lo at *
 generalize w.heap.size + 1 + 1 + 1 = g5 at *
 generalize w.heap.size + 1 + 1 = g2 at *
 obtain ⟨gx, hgx⟩ : ∃ gx, w.heap.size + 1 = gx := ⟨_, rfl⟩
 rw [hgx] at HB2 HG HXR ⊢
 clear hgx
 go_wp2_with ((with_reducible refine wpList_load_ac ?_ (.tmp 3) ?_ gx 0 x ux vx ?_ ?_ ?_); (exact rfl); (exact rfl); (exact rfl); (exact HXR.out))
 refine (refEmpty_any x ux vx _ HOKX.out (HUX.out.ext HB2.out.2.2.2.2.1) (HVX.out.ext HB2.out.2.2.2.2.1)).mono ?_
 rintro e w1 ⟨rfl, he⟩
 have HB3 := Lib.hid (show Cs w1 w.heap.size 24 #[.slice A0 l.length c0] ∧ WiG lo g2 gx x ux vx w1 ∧ FwS lo g5 (.slice none 0 0) (.slice none 0 0) [] w w1 from ⟨Cs.ext HB2.out.1 he, HB2.out.2.1.ext he, HB2.out.2.2.ext he⟩)
 have q1 : w1.cell? ⟨w.heap.size, 0, none⟩ = some (.slice A0 l.length c0) := HB3.out.1.cell 0 _ rfl
 have HE0 : Hid (wiF (l.take 0) x = ([], x.emptyB)) := Lib.hid rfl
 clear he HB2 q0 HXR
 go_wp2_with fail
 go_loopw [6, 14] (fun lv iv wr => ∃ k : Nat, k ≤ l.length ∧ lv = .bool (wiF (l.take k) x).2 ∧ iv = .int .i64 k ∧ Hid (WiG lo g2 gx x ux vx wr ∧ ∃ v, FwS lo g5 v v (wiF (l.take k) x).1 w wr)) (fun lv iv _ => l.length - (intOf iv).toNat)
 case atStart => exact ⟨0, by omega, rfl, rfl, Lib.hid ⟨HB3.out.2.1, _, HB3.out.2.2⟩⟩
 case round =>
  clear HB3 q1 HE0
  obtain ⟨k, hk, rfl, rfl, HJ⟩ := hrel
  by_cases hlt : k < l.length
  ·have hd : decide (k < l.length) = true := decide_eq_true hlt
   obtain ⟨v0, hv0⟩ := HJ.out.2
   have HF0 := Lib.hid hv0
   obtain ⟨b, o, u, s', rfl, hrg, hu, hv, hok⟩ := HS.out.at k hlt
   have HR := Lib.hid (show wr.rangeAt b (o + k * 8) _ from fun j x hx => hv0.2.2.1.cell (hrg j x hx))
   have HU := Lib.hid hu
   have HV := Lib.hid hv
   have HOK := Lib.hid hok
   have HPZ := Lib.hid (show (l.getD k acz).code.length ≤ 1000000 ∧ (l.getD k acz).store.length ≤ 1000000 from HSZ.out _ (by rw [List.getD_eq_getElem?_getD, List.getElem?_eq_getElem hlt]; exact List.getElem_mem hlt))
   have HSN := Lib.hid (wiF_more l x k hlt)
   have HLL0 := Lib.hid (show (wiF (l.take k) x).1.length + 1 + 1 ≤ 1099511627776 by have := HLEN.out k; omega)
   clear hrg hu hv hok hv0
   generalize l.getD k acz = p at *
   obtain ⟨⟨lb, laid⟩, htt⟩ : ∃ tt, wiF (l.take k) x = tt := ⟨_, rfl⟩
   rw [htt] at HJ HF0 HSN HLL0 ⊢
   dsimp only at HF0 HLL0 ⊢
   clear htt
   obtain ⟨AT, cT, rfl⟩ := HF0.out.2.1.shape
   go_upto_region 6 with (first
    | ((with_reducible refine wpList_load_ac ?_ (.tmp 16) ?_ b (o + k * 8) p u s' ?_ ?_ ?_); (exact rfl); (exact rfl); (exact rfl); (exact HR.out))
    | ((with_reducible refine wpList_store_ac ?_ ?_ (.tmp 8) (.tmp 17) ?_ wr.heap.size az0 p u s' ?_ ?_ ?_ ?_ ?_ ?_ ?_); (exact rfl); (exact rfl); (exact rfl); (exact bs_one HU.out); (exact pks_one HV.out); (exact rfl); (exact rfl); (exact Cs.new _ _ _ _ rfl); (exact rfl); intro w4 k4 g4; have K4 := Lib.hid k4; have HX4 := Lib.hid (((Ext.refl wr).alloc _).grown g4 (Nat.le_refl _)); clear k4 g4))
   have HF := Lib.hid (HF0.out.ext HX4.out)
   have HG2 := Lib.hid (HJ.out.1.ext HX4.out)
   have HCO := Lib.hid (fun W (h : Ext w W) => refCopy_any p u s' W (HU.out.ext h) (HV.out.ext h) HPZ.out)
   have HNB := Lib.hid (show (Value.slice AT lb.length cT).ownBlock ≠ some wr.heap.size from fun e => by have := (HF0.out.2.1.lt _ e).2; omega)
   have HPB := Lib.hid K4.out
   have HNC := Lib.hid (show (some g5 : Option Nat) ≠ some wr.heap.size from fun e => by have := HG.out; have := HF0.out.2.2.2; cases e; omega)
   obtain ⟨B, hB'⟩ : ∃ B, wr.heap.size = B := ⟨_, rfl⟩
   rw [hB'] at HPB HNB HNC ⊢
   have qy := HPB.out.addr
   have qx := HG2.out.1.2.addr
   clear HR HU HV HX4 K4 HF0 HJ hB'
   by_cases heq : p.addr = x.addr
   ·have fe : (((p.addr : Nat) : Int) == (x.addr : Int)) = true := by rw [beq_iff_eq]; omega
    have HSN := Lib.hid (show wiF (l.take (k + 1)) x = (lb, laid) by rw [HSN.out]; unfold wiS; rw [if_pos heq])
    clear heq
    go_wp2_with fail
    exact ⟨⟨k + 1, by omega, by first | (rw [HSN.out]; done) | (rw [HSN.out]; rfl), by go_num, Lib.hid ⟨HG2.out, _, by rw [HSN.out]; exact HF.out⟩⟩, by simp [intOf]; omega⟩
   ·have fe : (((p.addr : Nat) : Int) == (x.addr : Int)) = false := by rw [beq_eq_false_iff_ne]; omega
    have HSN := Lib.hid (show wiF (l.take (k + 1)) x = if laid = false ∧ x.addr < p.addr then ((lb ++ [x]) ++ [p], true) else (lb ++ [p], laid) by rw [HSN.out]; unfold wiS; rw [if_neg heq])
    clear heq
    cases laid with
    | true =>
     have HSN := Lib.hid (show wiF (l.take (k + 1)) x = (lb ++ [p], true) by rw [HSN.out, if_neg (by simp)])
     have HLL := Lib.hid (show lb.length + 1 ≤ 1099511627776 by have := HLL0.out; omega)
     go_upto_region 9 with fail
     clear qx qy
     have HS0 := Lib.hid (show FwS lo g5 (.slice AT lb.length cT) (.slice AT lb.length cT) lb w w4 ∧ Ab w4 B p u s' from ⟨HF.out, HPB.out⟩)
     clear HF HPB
     refine wp_named fun a0 ha0 => ?_
     obtain ⟨fr, hfr⟩ : ∃ fr : (Nat → Value) → Act, ∀ V, fr V = (((((((a0.put (some 39) (V 0)).put (some 40) (V 1)).put (some 41) (V 2)).put (some 42) (V 3)).put (some 43) (V 4)).put (some 44) (V 5)).put (some 45) (V 6)) := ⟨_, fun _ => rfl⟩
     rw [ha0] at hfr
     simp only [Act.put, List.setIfInBounds_toArray, List.set_cons_zero, List.set_cons_succ] at hfr
     have HFR := Lib.hid hfr
     clear hfr
     refine wp_region_inv (by kernel_rfl) (by kernel_rfl) (fun L A W => ∃ V : Nat → Value, A = fr V ∧ Vals (fun j => ([some (.pointer (some ⟨g5, 0, none⟩)), some (.slice AT lb.length cT), some (.agg (acc p u s')), none, none, none, some (.pointer (some ⟨g5, 0, none⟩)), none] : List (Option Value)).getD j none) L V ∧ (L 5 = false → (FwS lo g5 (.slice AT lb.length cT) (.slice AT lb.length cT) lb w W ∧ Ab W B p u s') ∧ WiG lo g2 gx x ux vx W ∧ Ext w4 W) ∧ (L 5 = true → L 7 = false → FwS lo g5 (.slice AT lb.length cT) (V 5) (lb ++ [p]) w W ∧ WiG lo g2 gx x ux vx W) ∧ (L 7 = true → ∃ vT', FwS lo g5 vT' vT' (lb ++ [p]) w W ∧ WiG lo g2 gx x ux vx W) ∧ (L 5 = false → L 3 = true → PlC lo (.slice AT lb.length cT) (.slice none 0 0) p W (V 3)) ∧ (L 5 = false → L 4 = true → PlD lo (.slice AT lb.length cT) (.slice none 0 0) p W (V 4)) ∧ (L 7 = false → L 5 = true → SlN (lb.length + 1) W (V 5))) ?_ ⟨?_, ?_, ?_, ?_, ?_, ?_, ?_, ?_, trivial⟩ ?_
     ·refine ⟨fun j => a0.tmps.getD (([39, 40, 41, 42, 43, 44, 45, 0] : List Nat).getD j 0) undef, ?_, Vals.no _ _ _ (far_none _ _ rfl), fun _ => ⟨⟨HS0.out.1.ext (Ext.refl _).drew, HS0.out.2.ext (Ext.refl _).drew⟩, HG2.out.ext (Ext.refl _).drew, (Ext.refl _).drew⟩, fun h0 h1 => absurd h0 (by decide), fun h0 => absurd h0 (by decide), fun h0 h1 => absurd h1 (by decide), fun h0 h1 => absurd h1 (by decide), fun h0 h1 => absurd h1 (by decide)⟩
      rw [HFR.out, ha0]
      rfl
     all_goals clear ha0
     ·rintro L A W K hL hC hW ⟨V, rfl, HV, s0, s1, s2, f3, f4, f5⟩ hK
      have H := Lib.hid (show ∀ W', Ext W W' → K (fr (upd V 0 (.pointer (some ⟨g5, 0, none⟩)))) W' from fun W' he => hK _ _ ⟨_, rfl, HV.us 0 _ rfl, fun h0 => WiGT.ext (s0 (mnf h0 rfl)) he, fun h0 h1 => WiGU.ext (s1 (more_ne h0 rfl) (mnf h1 rfl)) he, fun h0 => WiGV.ext (s2 (more_ne h0 rfl)) he, fun h0 h1 => PlC.ext (f3 (mnf h0 rfl) (more_ne h1 rfl)) he, fun h0 h1 => PlD.ext (f4 (mnf h0 rfl) (more_ne h1 rfl)) he, fun h0 h1 => SlN.ext (f5 (mnf h0 rfl) (more_ne h1 rfl)) he⟩)
      clear hK hC hW hL HV s0 s1 s2 f3 f4 f5
      rw [HFR.out]
      go_wp2_with fail
      show K _ _; have := H.out _ (Ext.refl _); rw [HFR.out] at this
      exact this
     ·rintro L A W K hL hC hW ⟨V, rfl, HV, s0, s1, s2, f3, f4, f5⟩ hK
      have e0 := HV 0 _ rfl (hW 0 rfl)
      have hB := s0 (hC.no hL 5 _ rfl rfl)
      have H := Lib.hid (show ∀ W', Ext W W' → K (fr (upd V 1 (.slice AT lb.length cT))) W' from fun W' he => hK _ _ ⟨_, rfl, HV.us 1 _ rfl, fun h0 => WiGT.ext (s0 (mnf h0 rfl)) he, fun h0 h1 => WiGU.ext (s1 (more_ne h0 rfl) (mnf h1 rfl)) he, fun h0 => WiGV.ext (s2 (more_ne h0 rfl)) he, fun h0 h1 => PlC.ext (f3 (mnf h0 rfl) (more_ne h1 rfl)) he, fun h0 h1 => PlD.ext (f4 (mnf h0 rfl) (more_ne h1 rfl)) he, fun h0 h1 => SlN.ext (f5 (mnf h0 rfl) (more_ne h1 rfl)) he⟩)
      have HU := Lib.hid (show (upd V 1 (.slice AT lb.length cT)) 0 = .pointer (some ⟨g5, 0, none⟩) from e0)
      clear hK hC hW hL HV s0 s1 s2 f3 f4 f5
      rw [HFR.out, e0]
      clear e0
      have hcl : W.cell? ⟨g5, 0, none⟩ = some (.slice AT lb.length cT) := hB.1.1.1.cell 0 _ rfl
      clear hB
      go_wp2_with fail
      show K _ _; have := H.out _ (Ext.refl _); rw [HFR.out] at this
      obtain u0 := HU.out
      rw [u0] at this
      exact this
     ·rintro L A W K hL hC hW ⟨V, rfl, HV, s0, s1, s2, f3, f4, f5⟩ hK
      have hB := s0 (hC.no (hC.no (hC.no hL 3 _ rfl rfl) 4 _ rfl rfl) 5 _ rfl rfl)
      have H := Lib.hid (show ∀ W', Ext W W' → K (fr (upd V 2 (.agg (acc p u s')))) W' from fun W' he => hK _ _ ⟨_, rfl, HV.us 2 _ rfl, fun h0 => WiGT.ext (s0 (mnf h0 rfl)) he, fun h0 h1 => WiGU.ext (s1 (more_ne h0 rfl) (mnf h1 rfl)) he, fun h0 => WiGV.ext (s2 (more_ne h0 rfl)) he, fun h0 h1 => PlC.ext (f3 (mnf h0 rfl) (more_ne h1 rfl)) he, fun h0 h1 => PlD.ext (f4 (mnf h0 rfl) (more_ne h1 rfl)) he, fun h0 h1 => SlN.ext (f5 (mnf h0 rfl) (more_ne h1 rfl)) he⟩)
      clear hK hC hW hL HV s0 s1 s2 f3 f4 f5
      rw [HFR.out]
      have HWD := Lib.hid hB.1.2.range
      clear hB
      refine wpList_load_ac rfl (.tmp 8) rfl B 0 p u s' rfl HWD.out ?_
      show K _ _; have := H.out _ (Ext.refl _); rw [HFR.out] at this
      exact this
     ·rintro L A W K hL hC hW ⟨V, rfl, HV, s0, s1, s2, f3, f4, f5⟩ hK
      have e2 := HV 2 _ rfl (hW 2 rfl)
      have hB := s0 (hC.no (hC.no hL 4 _ rfl rfl) 5 _ rfl rfl)
      have H := Lib.hid (show ∀ v W', Ext W W' → (PlC lo (.slice AT lb.length cT) (.slice none 0 0) p W' v) → K (fr (upd V 3 v)) W' from fun v W' he hp => hK _ _ ⟨_, rfl, HV.un 3 _ rfl, fun h0 => WiGT.ext (s0 (mnf h0 rfl)) he, fun h0 h1 => WiGU.ext (s1 (more_ne h0 rfl) (mnf h1 rfl)) he, fun h0 => WiGV.ext (s2 (more_ne h0 rfl)) he, fun h0 h1 => hp, fun h0 h1 => PlD.ext (f4 (mnf h0 rfl) (more_ne h1 rfl)) he, fun h0 h1 => SlN.ext (f5 (mnf h0 rfl) (more_ne h1 rfl)) he⟩)
      have HU := Lib.hid (show ∀ v, (upd V 3 v) 2 = .agg (acc p u s') from fun v => e2)
      clear hK hC hW hL HV s0 s1 s2 f3 f4 f5
      rw [HFR.out, e2]
      clear e2
      have HB := Lib.hid hB
      clear hB
      go_wp2_with fail
      refine (HCO.out _ HB.out.1.1.2.2.1).mono ?_
      rintro e wx ⟨u', v', rfl, ho, he⟩
      have := H.out _ _ he (FwC.new HB.out.1.1 ho)
      clear H
      go_wp2_with fail
      show K _ _
      rw [HFR.out] at this
      obtain u2 := HU.out _
      rw [u2] at this
      exact this
     ·rintro L A W K hL hC hW ⟨V, rfl, HV, s0, s1, s2, f3, f4, f5⟩ hK
      have hB := s0 (hC.no hL 5 _ rfl rfl)
      have q3 := f3 (hC.no hL 5 _ rfl rfl) (hW 3 rfl)
      obtain ⟨u3, v3, e3, z3⟩ := q3
      have H := Lib.hid (show ∀ v W', Ext W W' → (PlD lo (.slice AT lb.length cT) (.slice none 0 0) p W' v) → K (fr (upd V 4 v)) W' from fun v W' he hp => hK _ _ ⟨_, rfl, HV.un 4 _ rfl, fun h0 => WiGT.ext (s0 (mnf h0 rfl)) he, fun h0 h1 => WiGU.ext (s1 (more_ne h0 rfl) (mnf h1 rfl)) he, fun h0 => WiGV.ext (s2 (more_ne h0 rfl)) he, fun h0 h1 => PlC.ext (f3 (mnf h0 rfl) (more_ne h1 rfl)) he, fun h0 h1 => hp, fun h0 h1 => SlN.ext (f5 (mnf h0 rfl) (more_ne h1 rfl)) he⟩)
      have HU := Lib.hid (show ∀ v, (upd V 4 v) 3 = .agg (acc p u3 v3) from fun v => e3)
      clear hK hC hW hL HV s0 s1 s2 f3 f4 f5
      rw [HFR.out, e3]
      clear e3
      clear hB
      refine wpList_build_one rfl (.tmp 42) 22 37 rfl Try.underlying22 _ 8 96 acinfo3 (by decide) (by decide) (acc p u3 v3) rfl rfl ?_
      show K _ _; have := H.out (.slice (some ⟨W.heap.size, 0, none⟩) 1 1) _ ((Ext.refl W).alloc (.cells (acc p u3 v3) 37)) (PlD.new z3); rw [HFR.out] at this
      obtain u3 := HU.out _
      rw [u3] at this
      exact this
     ·rintro L A W K hL hC hW ⟨V, rfl, HV, s0, s1, s2, f3, f4, f5⟩ hK
      have e1 := HV 1 _ rfl (hW 1 rfl)
      have hB := s0 hL
      have q4 := f4 hL (hW 4 rfl)
      obtain ⟨g4, u4, v4, e4, k4, z4⟩ := q4
      have H := Lib.hid (show ∀ v W', (FwS lo g5 (.slice AT lb.length cT) v (lb ++ [p]) w W' ∧ WiG lo g2 gx x ux vx W') → (SlN (lb.length + 1) W' v) → K (fr (upd V 5 v)) W' from fun v W' hA hp => hK _ _ ⟨_, rfl, HV.un 5 _ rfl, fun h0 => msf h0, fun h0 h1 => hA, fun h0 => mtf (hC.no hL 7 _ rfl rfl) (more_ne h0 rfl), fun h0 h1 => msf h0, fun h0 h1 => msf h0, fun h0 h1 => hp⟩)
      have HU := Lib.hid (show ∀ v, (upd V 5 v) 1 = .slice AT lb.length cT ∧ (upd V 5 v) 4 = .slice (some ⟨g4, 0, none⟩) 1 1 from fun v => ⟨e1, e4⟩)
      clear hK hC hW hL HV s0 s1 s2 f3 f4 f5
      rw [HFR.out, e1, e4]
      clear e1 e4
      have HB := Lib.hid hB
      have K3 := Lib.hid k4
      have Z3 := Lib.hid z4
      clear hB k4 z4
      obtain ⟨cs, hcs⟩ := HB.out.1.1.2.1.own
      have HCS := Lib.hid hcs
      clear hcs
      refine wpList_append_row rfl (.tmp 40) (.tmp 43) 22 rfl lo 37 Try.underlying22 _ 8 96 acinfo3 rfl (by decide) (.slice AT lb.length cT) lb.length cs rfl HCS.out (.slice (some ⟨g4, 0, none⟩) 1 1) 1 (acc p u4 v4).toList rfl (rs_one K3.out) (acc_ones Z3.out.1) HLL.out (by decide) HB.out.1.1.2.2.2 ?_
      intro v5 w5 o5 g5' b5
      have HA := Lib.hid (And.intro (HB.out.1.1.append (by have := HG.out; omega) (by have := HG.out; omega) HOK.out Z3.out.1 Z3.out.2 g5' b5 HCS.out o5) (WiG.kept HB.out.2.1 g5' (fun k e => by have := (HCS.out.lt k (by first | exact e | exact e.symm)).1; omega)))
      have HP : Hid (SlN (lb.length + 1) w5 v5) := Lib.hid (SlN.of o5)
      clear o5 g5' b5
      show K _ _; have := H.out _ _ HA.out HP.out; rw [HFR.out] at this
      obtain ⟨u1, u4⟩ := HU.out _
      rw [u1, u4] at this
      exact this
     ·rintro L A W K hL hC hW ⟨V, rfl, HV, s0, s1, s2, f3, f4, f5⟩ hK
      have H := Lib.hid (show ∀ W', Ext W W' → K (fr (upd V 6 (.pointer (some ⟨g5, 0, none⟩)))) W' from fun W' he => hK _ _ ⟨_, rfl, HV.us 6 _ rfl, fun h0 => WiGT.ext (s0 (mnf h0 rfl)) he, fun h0 h1 => WiGU.ext (s1 (more_ne h0 rfl) (mnf h1 rfl)) he, fun h0 => WiGV.ext (s2 (more_ne h0 rfl)) he, fun h0 h1 => PlC.ext (f3 (mnf h0 rfl) (more_ne h1 rfl)) he, fun h0 h1 => PlD.ext (f4 (mnf h0 rfl) (more_ne h1 rfl)) he, fun h0 h1 => SlN.ext (f5 (mnf h0 rfl) (more_ne h1 rfl)) he⟩)
      clear hK hC hW hL HV s0 s1 s2 f3 f4 f5
      rw [HFR.out]
      go_wp2_with fail
      show K _ _; have := H.out _ (Ext.refl _); rw [HFR.out] at this
      exact this
     ·rintro L A W K hL hC hW ⟨V, rfl, HV, s0, s1, s2, f3, f4, f5⟩ hK
      have e6 := HV 6 _ rfl (hW 6 rfl)
      have hB := s1 (hW 5 rfl) hL
      have q5 := f5 hL (hW 5 rfl)
      obtain ⟨A5, c5, e5⟩ := q5
      have H := Lib.hid (show ∀ W', (∃ vT', FwS lo g5 vT' vT' (lb ++ [p]) w W' ∧ WiG lo g2 gx x ux vx W') → K (fr (V)) W' from fun W' hA => hK _ _ ⟨V, rfl, HV.st 7 rfl, fun h0 => mtf (mnf h0 rfl) (hW 5 rfl), fun h0 h1 => msf h1, fun h0 => hA, fun h0 h1 => mtf (mnf h0 rfl) (hW 5 rfl), fun h0 h1 => mtf (mnf h0 rfl) (hW 5 rfl), fun h0 h1 => msf h0⟩)
      have HU := Lib.hid (show (V) 6 = .pointer (some ⟨g5, 0, none⟩) ∧ (V) 5 = .slice A5 (lb.length + 1) c5 from ⟨e6, e5⟩)
      clear hK hC hW hL HV s0 s1 s2 f3 f4 f5
      rw [HFR.out, e6, e5]
      clear e6 e5
      have HB := Lib.hid hB
      have hc : W.cell? ⟨g5, 0, none⟩ = some (.slice AT lb.length cT) := hB.1.1.cell 0 _ rfl
      have hf : W.frozen? ⟨g5, 0, none⟩ = false := hB.1.1.frozen 0
      clear hB
      go_wp2_with fail
      have HA : Hid (∃ vT', FwS lo g5 vT' vT' (lb ++ [p]) w (W.setCell ⟨g5, 0, none⟩ (.slice A5 (lb.length + 1) c5)) ∧ WiG lo g2 gx x ux vx (W.setCell ⟨g5, 0, none⟩ (.slice A5 (lb.length + 1) c5))) := Lib.hid ⟨_, by have h := HB.out.1; rw [HU.out.2] at h; exact h.store (by have := HG.out; omega), WiG.kept HB.out.2 (grown_set _ _ _ _) (fun k e => by cases e; have := HG.out; omega)⟩
      show K _ _; have := H.out _ HA.out; rw [HFR.out] at this
      obtain ⟨u6, u5⟩ := HU.out
      rw [u6, u5] at this
      exact this
     ·rintro L A W hL ⟨V, rfl, HV, s0, s1, s2, f3, f4, f5⟩
      have e0 := HV 0 _ rfl (hL 0 (by simp))
      have e1 := HV 1 _ rfl (hL 1 (by simp))
      have e2 := HV 2 _ rfl (hL 2 (by simp))
      have e6 := HV 6 _ rfl (hL 6 (by simp))
      have hA := s2 (hL 7 (by simp))
      rw [HFR.out, e0, e1, e2, e6]
      clear hL HV HFR e0 e1 e2 e6 s0 s1 s2 f3 f4 f5
      obtain ⟨vT', hA, hG2⟩ := hA
      have HF := Lib.hid hA
      have HG2 := Lib.hid hG2
      clear hA hG2
      go_wp2_with fail
      exact ⟨⟨k + 1, by omega, by first | (rw [HSN.out]; done) | (rw [HSN.out]; rfl), by go_num, Lib.hid ⟨HG2.out, vT', by rw [HSN.out]; exact HF.out⟩⟩, by simp [intOf]; omega⟩
    | false =>
     by_cases hlx : x.addr < p.addr
     ·have fl : decide (((x.addr : Nat) : Int) < (p.addr : Int)) = true := decide_eq_true (by omega)
      have fl2 : decide (x.addr < p.addr) = true := decide_eq_true hlx
      have HSN := Lib.hid (show wiF (l.take (k + 1)) x = ((lb ++ [x]) ++ [p], true) by rw [HSN.out, if_pos ⟨rfl, hlx⟩])
      have HLL := Lib.hid (show lb.length + 1 ≤ 1099511627776 by have := HLL0.out; omega)
      have HLL9 := Lib.hid (show (lb ++ [x]).length + 1 ≤ 1099511627776 by have := HLL0.out; simp; omega)
      clear hlx
      go_upto_region 8 with fail
      clear qx qy
      have HS0 := Lib.hid (show FwS lo g5 (.slice AT lb.length cT) (.slice AT lb.length cT) lb w w4 ∧ Ab w4 gx x ux vx from ⟨HF.out, HG2.out.1.2⟩)
      have HGY := Lib.hid HG2.out
      have HG2 : Hid (WiY lo g2 gx B x p ux vx u s' w4) := Lib.hid ⟨HGY.out, HPB.out⟩
      clear HF HPB HGY
      refine wp_named fun a0 ha0 => ?_
      obtain ⟨fr, hfr⟩ : ∃ fr : (Nat → Value) → Act, ∀ V, fr V = ((((((((a0.put (some 32) (V 0)).put (some 33) (V 1)).put (some 34) (V 2)).put (some 35) (V 3)).put (some 36) (V 4)).put (some 37) (V 5)).put (some 38) (V 6)).put (some 6) (V 8)) := ⟨_, fun _ => rfl⟩
      rw [ha0] at hfr
      simp only [Act.put, List.setIfInBounds_toArray, List.set_cons_zero, List.set_cons_succ] at hfr
      have HFR := Lib.hid hfr
      clear hfr
      refine wp_region_inv (by kernel_rfl) (by kernel_rfl) (fun L A W => ∃ V : Nat → Value, A = fr V ∧ Vals (fun j => ([some (.pointer (some ⟨g5, 0, none⟩)), some (.slice AT lb.length cT), some (.agg (acc x ux vx)), none, none, none, some (.pointer (some ⟨g5, 0, none⟩)), none, some (.bool true)] : List (Option Value)).getD j none) L V ∧ (L 5 = false → (FwS lo g5 (.slice AT lb.length cT) (.slice AT lb.length cT) lb w W ∧ Ab W gx x ux vx) ∧ WiY lo g2 gx B x p ux vx u s' W ∧ Ext w4 W) ∧ (L 5 = true → L 7 = false → FwS lo g5 (.slice AT lb.length cT) (V 5) (lb ++ [x]) w W ∧ WiY lo g2 gx B x p ux vx u s' W) ∧ (L 7 = true → ∃ vT', FwS lo g5 vT' vT' (lb ++ [x]) w W ∧ WiY lo g2 gx B x p ux vx u s' W) ∧ (L 5 = false → L 3 = true → PlC lo (.slice AT lb.length cT) (.slice none 0 0) x W (V 3)) ∧ (L 5 = false → L 4 = true → PlD lo (.slice AT lb.length cT) (.slice none 0 0) x W (V 4)) ∧ (L 7 = false → L 5 = true → SlN (lb.length + 1) W (V 5))) ?_ ⟨?_, ?_, ?_, ?_, ?_, ?_, ?_, ?_, ?_, trivial⟩ ?_
      ·refine ⟨fun j => a0.tmps.getD (([32, 33, 34, 35, 36, 37, 38, 0, 6] : List Nat).getD j 0) undef, ?_, Vals.no _ _ _ (far_none _ _ rfl), fun _ => ⟨⟨HS0.out.1.ext (Ext.refl _).drew, HS0.out.2.ext (Ext.refl _).drew⟩, HG2.out.ext (Ext.refl _).drew, (Ext.refl _).drew⟩, fun h0 h1 => absurd h0 (by decide), fun h0 => absurd h0 (by decide), fun h0 h1 => absurd h1 (by decide), fun h0 h1 => absurd h1 (by decide), fun h0 h1 => absurd h1 (by decide)⟩
       rw [HFR.out, ha0]
       rfl
      all_goals clear ha0
      ·rintro L A W K hL hC hW ⟨V, rfl, HV, s0, s1, s2, f3, f4, f5⟩ hK
       have H := Lib.hid (show ∀ W', Ext W W' → K (fr (upd V 0 (.pointer (some ⟨g5, 0, none⟩)))) W' from fun W' he => hK _ _ ⟨_, rfl, HV.us 0 _ rfl, fun h0 => WiYT.ext (s0 (mnf h0 rfl)) he, fun h0 h1 => WiYU.ext (s1 (more_ne h0 rfl) (mnf h1 rfl)) he, fun h0 => WiYV.ext (s2 (more_ne h0 rfl)) he, fun h0 h1 => PlC.ext (f3 (mnf h0 rfl) (more_ne h1 rfl)) he, fun h0 h1 => PlD.ext (f4 (mnf h0 rfl) (more_ne h1 rfl)) he, fun h0 h1 => SlN.ext (f5 (mnf h0 rfl) (more_ne h1 rfl)) he⟩)
       clear hK hC hW hL HV s0 s1 s2 f3 f4 f5
       rw [HFR.out]
       go_wp2_with fail
       show K _ _; have := H.out _ (Ext.refl _); rw [HFR.out] at this
       exact this
      ·rintro L A W K hL hC hW ⟨V, rfl, HV, s0, s1, s2, f3, f4, f5⟩ hK
       have e0 := HV 0 _ rfl (hW 0 rfl)
       have hB := s0 (hC.no hL 5 _ rfl rfl)
       have H := Lib.hid (show ∀ W', Ext W W' → K (fr (upd V 1 (.slice AT lb.length cT))) W' from fun W' he => hK _ _ ⟨_, rfl, HV.us 1 _ rfl, fun h0 => WiYT.ext (s0 (mnf h0 rfl)) he, fun h0 h1 => WiYU.ext (s1 (more_ne h0 rfl) (mnf h1 rfl)) he, fun h0 => WiYV.ext (s2 (more_ne h0 rfl)) he, fun h0 h1 => PlC.ext (f3 (mnf h0 rfl) (more_ne h1 rfl)) he, fun h0 h1 => PlD.ext (f4 (mnf h0 rfl) (more_ne h1 rfl)) he, fun h0 h1 => SlN.ext (f5 (mnf h0 rfl) (more_ne h1 rfl)) he⟩)
       have HU := Lib.hid (show (upd V 1 (.slice AT lb.length cT)) 0 = .pointer (some ⟨g5, 0, none⟩) from e0)
       clear hK hC hW hL HV s0 s1 s2 f3 f4 f5
       rw [HFR.out, e0]
       clear e0
       have hcl : W.cell? ⟨g5, 0, none⟩ = some (.slice AT lb.length cT) := hB.1.1.1.cell 0 _ rfl
       clear hB
       go_wp2_with fail
       show K _ _; have := H.out _ (Ext.refl _); rw [HFR.out] at this
       obtain u0 := HU.out
       rw [u0] at this
       exact this
      ·rintro L A W K hL hC hW ⟨V, rfl, HV, s0, s1, s2, f3, f4, f5⟩ hK
       have hB := s0 (hC.no (hC.no (hC.no hL 3 _ rfl rfl) 4 _ rfl rfl) 5 _ rfl rfl)
       have H := Lib.hid (show ∀ W', Ext W W' → K (fr (upd V 2 (.agg (acc x ux vx)))) W' from fun W' he => hK _ _ ⟨_, rfl, HV.us 2 _ rfl, fun h0 => WiYT.ext (s0 (mnf h0 rfl)) he, fun h0 h1 => WiYU.ext (s1 (more_ne h0 rfl) (mnf h1 rfl)) he, fun h0 => WiYV.ext (s2 (more_ne h0 rfl)) he, fun h0 h1 => PlC.ext (f3 (mnf h0 rfl) (more_ne h1 rfl)) he, fun h0 h1 => PlD.ext (f4 (mnf h0 rfl) (more_ne h1 rfl)) he, fun h0 h1 => SlN.ext (f5 (mnf h0 rfl) (more_ne h1 rfl)) he⟩)
       clear hK hC hW hL HV s0 s1 s2 f3 f4 f5
       rw [HFR.out]
       have HWD := Lib.hid hB.1.2.range
       clear hB
       refine wpList_load_ac rfl (.tmp 3) rfl gx 0 x ux vx rfl HWD.out ?_
       show K _ _; have := H.out _ (Ext.refl _); rw [HFR.out] at this
       exact this
      ·rintro L A W K hL hC hW ⟨V, rfl, HV, s0, s1, s2, f3, f4, f5⟩ hK
       have e2 := HV 2 _ rfl (hW 2 rfl)
       have hB := s0 (hC.no (hC.no hL 4 _ rfl rfl) 5 _ rfl rfl)
       have H := Lib.hid (show ∀ v W', Ext W W' → (PlC lo (.slice AT lb.length cT) (.slice none 0 0) x W' v) → K (fr (upd V 3 v)) W' from fun v W' he hp => hK _ _ ⟨_, rfl, HV.un 3 _ rfl, fun h0 => WiYT.ext (s0 (mnf h0 rfl)) he, fun h0 h1 => WiYU.ext (s1 (more_ne h0 rfl) (mnf h1 rfl)) he, fun h0 => WiYV.ext (s2 (more_ne h0 rfl)) he, fun h0 h1 => hp, fun h0 h1 => PlD.ext (f4 (mnf h0 rfl) (more_ne h1 rfl)) he, fun h0 h1 => SlN.ext (f5 (mnf h0 rfl) (more_ne h1 rfl)) he⟩)
       have HU := Lib.hid (show ∀ v, (upd V 3 v) 2 = .agg (acc x ux vx) from fun v => e2)
       clear hK hC hW hL HV s0 s1 s2 f3 f4 f5
       rw [HFR.out, e2]
       clear e2
       have HB := Lib.hid hB
       clear hB
       go_wp2_with fail
       refine (HCOX.out _ HB.out.1.1.2.2.1).mono ?_
       rintro e wx ⟨u', v', rfl, ho, he⟩
       have := H.out _ _ he (FwC.new HB.out.1.1 ho)
       clear H
       go_wp2_with fail
       show K _ _
       rw [HFR.out] at this
       obtain u2 := HU.out _
       rw [u2] at this
       exact this
      ·rintro L A W K hL hC hW ⟨V, rfl, HV, s0, s1, s2, f3, f4, f5⟩ hK
       have hB := s0 (hC.no hL 5 _ rfl rfl)
       have q3 := f3 (hC.no hL 5 _ rfl rfl) (hW 3 rfl)
       obtain ⟨u3, v3, e3, z3⟩ := q3
       have H := Lib.hid (show ∀ v W', Ext W W' → (PlD lo (.slice AT lb.length cT) (.slice none 0 0) x W' v) → K (fr (upd V 4 v)) W' from fun v W' he hp => hK _ _ ⟨_, rfl, HV.un 4 _ rfl, fun h0 => WiYT.ext (s0 (mnf h0 rfl)) he, fun h0 h1 => WiYU.ext (s1 (more_ne h0 rfl) (mnf h1 rfl)) he, fun h0 => WiYV.ext (s2 (more_ne h0 rfl)) he, fun h0 h1 => PlC.ext (f3 (mnf h0 rfl) (more_ne h1 rfl)) he, fun h0 h1 => hp, fun h0 h1 => SlN.ext (f5 (mnf h0 rfl) (more_ne h1 rfl)) he⟩)
       have HU := Lib.hid (show ∀ v, (upd V 4 v) 3 = .agg (acc x u3 v3) from fun v => e3)
       clear hK hC hW hL HV s0 s1 s2 f3 f4 f5
       rw [HFR.out, e3]
       clear e3
       clear hB
       refine wpList_build_one rfl (.tmp 35) 22 37 rfl Try.underlying22 _ 8 96 acinfo3 (by decide) (by decide) (acc x u3 v3) rfl rfl ?_
       show K _ _; have := H.out (.slice (some ⟨W.heap.size, 0, none⟩) 1 1) _ ((Ext.refl W).alloc (.cells (acc x u3 v3) 37)) (PlD.new z3); rw [HFR.out] at this
       obtain u3 := HU.out _
       rw [u3] at this
       exact this
      ·rintro L A W K hL hC hW ⟨V, rfl, HV, s0, s1, s2, f3, f4, f5⟩ hK
       have e1 := HV 1 _ rfl (hW 1 rfl)
       have hB := s0 hL
       have q4 := f4 hL (hW 4 rfl)
       obtain ⟨g4, u4, v4, e4, k4, z4⟩ := q4
       have H := Lib.hid (show ∀ v W', (FwS lo g5 (.slice AT lb.length cT) v (lb ++ [x]) w W' ∧ WiY lo g2 gx B x p ux vx u s' W') → (SlN (lb.length + 1) W' v) → K (fr (upd V 5 v)) W' from fun v W' hA hp => hK _ _ ⟨_, rfl, HV.un 5 _ rfl, fun h0 => msf h0, fun h0 h1 => hA, fun h0 => mtf (hC.no hL 7 _ rfl rfl) (more_ne h0 rfl), fun h0 h1 => msf h0, fun h0 h1 => msf h0, fun h0 h1 => hp⟩)
       have HU := Lib.hid (show ∀ v, (upd V 5 v) 1 = .slice AT lb.length cT ∧ (upd V 5 v) 4 = .slice (some ⟨g4, 0, none⟩) 1 1 from fun v => ⟨e1, e4⟩)
       clear hK hC hW hL HV s0 s1 s2 f3 f4 f5
       rw [HFR.out, e1, e4]
       clear e1 e4
       have HB := Lib.hid hB
       have K3 := Lib.hid k4
       have Z3 := Lib.hid z4
       clear hB k4 z4
       obtain ⟨cs, hcs⟩ := HB.out.1.1.2.1.own
       have HCS := Lib.hid hcs
       clear hcs
       refine wpList_append_row rfl (.tmp 33) (.tmp 36) 22 rfl lo 37 Try.underlying22 _ 8 96 acinfo3 rfl (by decide) (.slice AT lb.length cT) lb.length cs rfl HCS.out (.slice (some ⟨g4, 0, none⟩) 1 1) 1 (acc x u4 v4).toList rfl (rs_one K3.out) (acc_ones Z3.out.1) HLL.out (by decide) HB.out.1.1.2.2.2 ?_
       intro v5 w5 o5 g5' b5
       have HA := Lib.hid (And.intro (HB.out.1.1.append (by have := HG.out; omega) (by have := HG.out; omega) HOKX.out Z3.out.1 Z3.out.2 g5' b5 HCS.out o5) (WiY.kept HB.out.2.1 g5' (fun k e => by have := (HCS.out.lt k (by first | exact e | exact e.symm)).1; omega) HNB.out))
       have HP : Hid (SlN (lb.length + 1) w5 v5) := Lib.hid (SlN.of o5)
       clear o5 g5' b5
       show K _ _; have := H.out _ _ HA.out HP.out; rw [HFR.out] at this
       obtain ⟨u1, u4⟩ := HU.out _
       rw [u1, u4] at this
       exact this
      ·rintro L A W K hL hC hW ⟨V, rfl, HV, s0, s1, s2, f3, f4, f5⟩ hK
       have H := Lib.hid (show ∀ W', Ext W W' → K (fr (upd V 6 (.pointer (some ⟨g5, 0, none⟩)))) W' from fun W' he => hK _ _ ⟨_, rfl, HV.us 6 _ rfl, fun h0 => WiYT.ext (s0 (mnf h0 rfl)) he, fun h0 h1 => WiYU.ext (s1 (more_ne h0 rfl) (mnf h1 rfl)) he, fun h0 => WiYV.ext (s2 (more_ne h0 rfl)) he, fun h0 h1 => PlC.ext (f3 (mnf h0 rfl) (more_ne h1 rfl)) he, fun h0 h1 => PlD.ext (f4 (mnf h0 rfl) (more_ne h1 rfl)) he, fun h0 h1 => SlN.ext (f5 (mnf h0 rfl) (more_ne h1 rfl)) he⟩)
       clear hK hC hW hL HV s0 s1 s2 f3 f4 f5
       rw [HFR.out]
       go_wp2_with fail
       show K _ _; have := H.out _ (Ext.refl _); rw [HFR.out] at this
       exact this
      ·rintro L A W K hL hC hW ⟨V, rfl, HV, s0, s1, s2, f3, f4, f5⟩ hK
       have e6 := HV 6 _ rfl (hW 6 rfl)
       have hB := s1 (hW 5 rfl) hL
       have q5 := f5 hL (hW 5 rfl)
       obtain ⟨A5, c5, e5⟩ := q5
       have H := Lib.hid (show ∀ W', (∃ vT', FwS lo g5 vT' vT' (lb ++ [x]) w W' ∧ WiY lo g2 gx B x p ux vx u s' W') → K (fr (V)) W' from fun W' hA => hK _ _ ⟨V, rfl, HV.st 7 rfl, fun h0 => mtf (mnf h0 rfl) (hW 5 rfl), fun h0 h1 => msf h1, fun h0 => hA, fun h0 h1 => mtf (mnf h0 rfl) (hW 5 rfl), fun h0 h1 => mtf (mnf h0 rfl) (hW 5 rfl), fun h0 h1 => msf h0⟩)
       have HU := Lib.hid (show (V) 6 = .pointer (some ⟨g5, 0, none⟩) ∧ (V) 5 = .slice A5 (lb.length + 1) c5 from ⟨e6, e5⟩)
       clear hK hC hW hL HV s0 s1 s2 f3 f4 f5
       rw [HFR.out, e6, e5]
       clear e6 e5
       have HB := Lib.hid hB
       have hc : W.cell? ⟨g5, 0, none⟩ = some (.slice AT lb.length cT) := hB.1.1.cell 0 _ rfl
       have hf : W.frozen? ⟨g5, 0, none⟩ = false := hB.1.1.frozen 0
       clear hB
       go_wp2_with fail
       have HA : Hid (∃ vT', FwS lo g5 vT' vT' (lb ++ [x]) w (W.setCell ⟨g5, 0, none⟩ (.slice A5 (lb.length + 1) c5)) ∧ WiY lo g2 gx B x p ux vx u s' (W.setCell ⟨g5, 0, none⟩ (.slice A5 (lb.length + 1) c5))) := Lib.hid ⟨_, by have h := HB.out.1; rw [HU.out.2] at h; exact h.store (by have := HG.out; omega), WiY.kept HB.out.2 (grown_set _ _ _ _) (fun k e => by cases e; have := HG.out; omega) HNC.out⟩
       show K _ _; have := H.out _ HA.out; rw [HFR.out] at this
       obtain ⟨u6, u5⟩ := HU.out
       rw [u6, u5] at this
       exact this
      ·rintro L A W K hL hC hW ⟨V, rfl, HV, s0, s1, s2, f3, f4, f5⟩ hK
       have H := Lib.hid (show ∀ W', Ext W W' → K (fr (upd V 8 (.bool true))) W' from fun W' he => hK _ _ ⟨_, rfl, HV.us 8 _ rfl, fun h0 => WiYT.ext (s0 (mnf h0 rfl)) he, fun h0 h1 => WiYU.ext (s1 (more_ne h0 rfl) (mnf h1 rfl)) he, fun h0 => WiYV.ext (s2 (more_ne h0 rfl)) he, fun h0 h1 => PlC.ext (f3 (mnf h0 rfl) (more_ne h1 rfl)) he, fun h0 h1 => PlD.ext (f4 (mnf h0 rfl) (more_ne h1 rfl)) he, fun h0 h1 => SlN.ext (f5 (mnf h0 rfl) (more_ne h1 rfl)) he⟩)
       clear hK hC hW hL HV s0 s1 s2 f3 f4 f5
       rw [HFR.out]
       go_wp2_with fail
       show K _ _; have := H.out _ (Ext.refl _); rw [HFR.out] at this
       exact this
      ·rintro L A W hL ⟨V, rfl, HV, s0, s1, s2, f3, f4, f5⟩
       have e0 := HV 0 _ rfl (hL 0 (by simp))
       have e1 := HV 1 _ rfl (hL 1 (by simp))
       have e2 := HV 2 _ rfl (hL 2 (by simp))
       have e6 := HV 6 _ rfl (hL 6 (by simp))
       have e8 := HV 8 _ rfl (hL 8 (by simp))
       have hA := s2 (hL 7 (by simp))
       rw [HFR.out, e0, e1, e2, e6, e8]
       clear hL HV HFR e0 e1 e2 e6 e8 s0 s1 s2 f3 f4 f5
       obtain ⟨vT', hA, hG2⟩ := hA
       have HF1 := Lib.hid hA
       have HG2 := Lib.hid hG2.1
       have HPB := Lib.hid hG2.2
       clear hA hG2
       clear HLL
       obtain ⟨AT, cT, rfl⟩ := HF1.out.2.1.shape
       generalize lb ++ [x] = lb at *
       have HF := Lib.hid HF1.out
       have HLL := Lib.hid HLL9.out
       clear HF1
       obtain ⟨w4, hw4⟩ : ∃ w', W = w' := ⟨_, rfl⟩
       rw [hw4] at HF HG2 HPB ⊢
       clear hw4
       go_upto_region 9 with fail
       have HS0 := Lib.hid (show FwS lo g5 (.slice AT lb.length cT) (.slice AT lb.length cT) lb w w4 ∧ Ab w4 B p u s' from ⟨HF.out, HPB.out⟩)
       clear HF HPB
       refine wp_named fun a0 ha0 => ?_
       obtain ⟨fr, hfr⟩ : ∃ fr : (Nat → Value) → Act, ∀ V, fr V = (((((((a0.put (some 39) (V 0)).put (some 40) (V 1)).put (some 41) (V 2)).put (some 42) (V 3)).put (some 43) (V 4)).put (some 44) (V 5)).put (some 45) (V 6)) := ⟨_, fun _ => rfl⟩
       rw [ha0] at hfr
       simp only [Act.put, List.setIfInBounds_toArray, List.set_cons_zero, List.set_cons_succ] at hfr
       have HFR := Lib.hid hfr
       clear hfr
       refine wp_region_inv (by kernel_rfl) (by kernel_rfl) (fun L A W => ∃ V : Nat → Value, A = fr V ∧ Vals (fun j => ([some (.pointer (some ⟨g5, 0, none⟩)), some (.slice AT lb.length cT), some (.agg (acc p u s')), none, none, none, some (.pointer (some ⟨g5, 0, none⟩)), none] : List (Option Value)).getD j none) L V ∧ (L 5 = false → (FwS lo g5 (.slice AT lb.length cT) (.slice AT lb.length cT) lb w W ∧ Ab W B p u s') ∧ WiG lo g2 gx x ux vx W ∧ Ext w4 W) ∧ (L 5 = true → L 7 = false → FwS lo g5 (.slice AT lb.length cT) (V 5) (lb ++ [p]) w W ∧ WiG lo g2 gx x ux vx W) ∧ (L 7 = true → ∃ vT', FwS lo g5 vT' vT' (lb ++ [p]) w W ∧ WiG lo g2 gx x ux vx W) ∧ (L 5 = false → L 3 = true → PlC lo (.slice AT lb.length cT) (.slice none 0 0) p W (V 3)) ∧ (L 5 = false → L 4 = true → PlD lo (.slice AT lb.length cT) (.slice none 0 0) p W (V 4)) ∧ (L 7 = false → L 5 = true → SlN (lb.length + 1) W (V 5))) ?_ ⟨?_, ?_, ?_, ?_, ?_, ?_, ?_, ?_, trivial⟩ ?_
       ·refine ⟨fun j => a0.tmps.getD (([39, 40, 41, 42, 43, 44, 45, 0] : List Nat).getD j 0) undef, ?_, Vals.no _ _ _ (far_none _ _ rfl), fun _ => ⟨⟨HS0.out.1.ext (Ext.refl _).drew, HS0.out.2.ext (Ext.refl _).drew⟩, HG2.out.ext (Ext.refl _).drew, (Ext.refl _).drew⟩, fun h0 h1 => absurd h0 (by decide), fun h0 => absurd h0 (by decide), fun h0 h1 => absurd h1 (by decide), fun h0 h1 => absurd h1 (by decide), fun h0 h1 => absurd h1 (by decide)⟩
        rw [HFR.out, ha0]
        rfl
       all_goals clear ha0
       ·rintro L A W K hL hC hW ⟨V, rfl, HV, s0, s1, s2, f3, f4, f5⟩ hK
        have H := Lib.hid (show ∀ W', Ext W W' → K (fr (upd V 0 (.pointer (some ⟨g5, 0, none⟩)))) W' from fun W' he => hK _ _ ⟨_, rfl, HV.us 0 _ rfl, fun h0 => WiGT.ext (s0 (mnf h0 rfl)) he, fun h0 h1 => WiGU.ext (s1 (more_ne h0 rfl) (mnf h1 rfl)) he, fun h0 => WiGV.ext (s2 (more_ne h0 rfl)) he, fun h0 h1 => PlC.ext (f3 (mnf h0 rfl) (more_ne h1 rfl)) he, fun h0 h1 => PlD.ext (f4 (mnf h0 rfl) (more_ne h1 rfl)) he, fun h0 h1 => SlN.ext (f5 (mnf h0 rfl) (more_ne h1 rfl)) he⟩)
        clear hK hC hW hL HV s0 s1 s2 f3 f4 f5
        rw [HFR.out]
        go_wp2_with fail
        show K _ _; have := H.out _ (Ext.refl _); rw [HFR.out] at this
        exact this
       ·rintro L A W K hL hC hW ⟨V, rfl, HV, s0, s1, s2, f3, f4, f5⟩ hK
        have e0 := HV 0 _ rfl (hW 0 rfl)
        have hB := s0 (hC.no hL 5 _ rfl rfl)
        have H := Lib.hid (show ∀ W', Ext W W' → K (fr (upd V 1 (.slice AT lb.length cT))) W' from fun W' he => hK _ _ ⟨_, rfl, HV.us 1 _ rfl, fun h0 => WiGT.ext (s0 (mnf h0 rfl)) he, fun h0 h1 => WiGU.ext (s1 (more_ne h0 rfl) (mnf h1 rfl)) he, fun h0 => WiGV.ext (s2 (more_ne h0 rfl)) he, fun h0 h1 => PlC.ext (f3 (mnf h0 rfl) (more_ne h1 rfl)) he, fun h0 h1 => PlD.ext (f4 (mnf h0 rfl) (more_ne h1 rfl)) he, fun h0 h1 => SlN.ext (f5 (mnf h0 rfl) (more_ne h1 rfl)) he⟩)
        have HU := Lib.hid (show (upd V 1 (.slice AT lb.length cT)) 0 = .pointer (some ⟨g5, 0, none⟩) from e0)
        clear hK hC hW hL HV s0 s1 s2 f3 f4 f5
        rw [HFR.out, e0]
        clear e0
        have hcl : W.cell? ⟨g5, 0, none⟩ = some (.slice AT lb.length cT) := hB.1.1.1.cell 0 _ rfl
        clear hB
        go_wp2_with fail
        show K _ _; have := H.out _ (Ext.refl _); rw [HFR.out] at this
        obtain u0 := HU.out
        rw [u0] at this
        exact this
       ·rintro L A W K hL hC hW ⟨V, rfl, HV, s0, s1, s2, f3, f4, f5⟩ hK
        have hB := s0 (hC.no (hC.no (hC.no hL 3 _ rfl rfl) 4 _ rfl rfl) 5 _ rfl rfl)
        have H := Lib.hid (show ∀ W', Ext W W' → K (fr (upd V 2 (.agg (acc p u s')))) W' from fun W' he => hK _ _ ⟨_, rfl, HV.us 2 _ rfl, fun h0 => WiGT.ext (s0 (mnf h0 rfl)) he, fun h0 h1 => WiGU.ext (s1 (more_ne h0 rfl) (mnf h1 rfl)) he, fun h0 => WiGV.ext (s2 (more_ne h0 rfl)) he, fun h0 h1 => PlC.ext (f3 (mnf h0 rfl) (more_ne h1 rfl)) he, fun h0 h1 => PlD.ext (f4 (mnf h0 rfl) (more_ne h1 rfl)) he, fun h0 h1 => SlN.ext (f5 (mnf h0 rfl) (more_ne h1 rfl)) he⟩)
        clear hK hC hW hL HV s0 s1 s2 f3 f4 f5
        rw [HFR.out]
        have HWD := Lib.hid hB.1.2.range
        clear hB
        refine wpList_load_ac rfl (.tmp 8) rfl B 0 p u s' rfl HWD.out ?_
        show K _ _; have := H.out _ (Ext.refl _); rw [HFR.out] at this
        exact this
       ·rintro L A W K hL hC hW ⟨V, rfl, HV, s0, s1, s2, f3, f4, f5⟩ hK
        have e2 := HV 2 _ rfl (hW 2 rfl)
        have hB := s0 (hC.no (hC.no hL 4 _ rfl rfl) 5 _ rfl rfl)
        have H := Lib.hid (show ∀ v W', Ext W W' → (PlC lo (.slice AT lb.length cT) (.slice none 0 0) p W' v) → K (fr (upd V 3 v)) W' from fun v W' he hp => hK _ _ ⟨_, rfl, HV.un 3 _ rfl, fun h0 => WiGT.ext (s0 (mnf h0 rfl)) he, fun h0 h1 => WiGU.ext (s1 (more_ne h0 rfl) (mnf h1 rfl)) he, fun h0 => WiGV.ext (s2 (more_ne h0 rfl)) he, fun h0 h1 => hp, fun h0 h1 => PlD.ext (f4 (mnf h0 rfl) (more_ne h1 rfl)) he, fun h0 h1 => SlN.ext (f5 (mnf h0 rfl) (more_ne h1 rfl)) he⟩)
        have HU := Lib.hid (show ∀ v, (upd V 3 v) 2 = .agg (acc p u s') from fun v => e2)
        clear hK hC hW hL HV s0 s1 s2 f3 f4 f5
        rw [HFR.out, e2]
        clear e2
        have HB := Lib.hid hB
        clear hB
        go_wp2_with fail
        refine (HCO.out _ HB.out.1.1.2.2.1).mono ?_
        rintro e wx ⟨u', v', rfl, ho, he⟩
        have := H.out _ _ he (FwC.new HB.out.1.1 ho)
        clear H
        go_wp2_with fail
        show K _ _
        rw [HFR.out] at this
        obtain u2 := HU.out _
        rw [u2] at this
        exact this
       ·rintro L A W K hL hC hW ⟨V, rfl, HV, s0, s1, s2, f3, f4, f5⟩ hK
        have hB := s0 (hC.no hL 5 _ rfl rfl)
        have q3 := f3 (hC.no hL 5 _ rfl rfl) (hW 3 rfl)
        obtain ⟨u3, v3, e3, z3⟩ := q3
        have H := Lib.hid (show ∀ v W', Ext W W' → (PlD lo (.slice AT lb.length cT) (.slice none 0 0) p W' v) → K (fr (upd V 4 v)) W' from fun v W' he hp => hK _ _ ⟨_, rfl, HV.un 4 _ rfl, fun h0 => WiGT.ext (s0 (mnf h0 rfl)) he, fun h0 h1 => WiGU.ext (s1 (more_ne h0 rfl) (mnf h1 rfl)) he, fun h0 => WiGV.ext (s2 (more_ne h0 rfl)) he, fun h0 h1 => PlC.ext (f3 (mnf h0 rfl) (more_ne h1 rfl)) he, fun h0 h1 => hp, fun h0 h1 => SlN.ext (f5 (mnf h0 rfl) (more_ne h1 rfl)) he⟩)
        have HU := Lib.hid (show ∀ v, (upd V 4 v) 3 = .agg (acc p u3 v3) from fun v => e3)
        clear hK hC hW hL HV s0 s1 s2 f3 f4 f5
        rw [HFR.out, e3]
        clear e3
        clear hB
        refine wpList_build_one rfl (.tmp 42) 22 37 rfl Try.underlying22 _ 8 96 acinfo3 (by decide) (by decide) (acc p u3 v3) rfl rfl ?_
        show K _ _; have := H.out (.slice (some ⟨W.heap.size, 0, none⟩) 1 1) _ ((Ext.refl W).alloc (.cells (acc p u3 v3) 37)) (PlD.new z3); rw [HFR.out] at this
        obtain u3 := HU.out _
        rw [u3] at this
        exact this
       ·rintro L A W K hL hC hW ⟨V, rfl, HV, s0, s1, s2, f3, f4, f5⟩ hK
        have e1 := HV 1 _ rfl (hW 1 rfl)
        have hB := s0 hL
        have q4 := f4 hL (hW 4 rfl)
        obtain ⟨g4, u4, v4, e4, k4, z4⟩ := q4
        have H := Lib.hid (show ∀ v W', (FwS lo g5 (.slice AT lb.length cT) v (lb ++ [p]) w W' ∧ WiG lo g2 gx x ux vx W') → (SlN (lb.length + 1) W' v) → K (fr (upd V 5 v)) W' from fun v W' hA hp => hK _ _ ⟨_, rfl, HV.un 5 _ rfl, fun h0 => msf h0, fun h0 h1 => hA, fun h0 => mtf (hC.no hL 7 _ rfl rfl) (more_ne h0 rfl), fun h0 h1 => msf h0, fun h0 h1 => msf h0, fun h0 h1 => hp⟩)
        have HU := Lib.hid (show ∀ v, (upd V 5 v) 1 = .slice AT lb.length cT ∧ (upd V 5 v) 4 = .slice (some ⟨g4, 0, none⟩) 1 1 from fun v => ⟨e1, e4⟩)
        clear hK hC hW hL HV s0 s1 s2 f3 f4 f5
        rw [HFR.out, e1, e4]
        clear e1 e4
        have HB := Lib.hid hB
        have K3 := Lib.hid k4
        have Z3 := Lib.hid z4
        clear hB k4 z4
        obtain ⟨cs, hcs⟩ := HB.out.1.1.2.1.own
        have HCS := Lib.hid hcs
        clear hcs
        refine wpList_append_row rfl (.tmp 40) (.tmp 43) 22 rfl lo 37 Try.underlying22 _ 8 96 acinfo3 rfl (by decide) (.slice AT lb.length cT) lb.length cs rfl HCS.out (.slice (some ⟨g4, 0, none⟩) 1 1) 1 (acc p u4 v4).toList rfl (rs_one K3.out) (acc_ones Z3.out.1) HLL.out (by decide) HB.out.1.1.2.2.2 ?_
        intro v5 w5 o5 g5' b5
        have HA := Lib.hid (And.intro (HB.out.1.1.append (by have := HG.out; omega) (by have := HG.out; omega) HOK.out Z3.out.1 Z3.out.2 g5' b5 HCS.out o5) (WiG.kept HB.out.2.1 g5' (fun k e => by have := (HCS.out.lt k (by first | exact e | exact e.symm)).1; omega)))
        have HP : Hid (SlN (lb.length + 1) w5 v5) := Lib.hid (SlN.of o5)
        clear o5 g5' b5
        show K _ _; have := H.out _ _ HA.out HP.out; rw [HFR.out] at this
        obtain ⟨u1, u4⟩ := HU.out _
        rw [u1, u4] at this
        exact this
       ·rintro L A W K hL hC hW ⟨V, rfl, HV, s0, s1, s2, f3, f4, f5⟩ hK
        have H := Lib.hid (show ∀ W', Ext W W' → K (fr (upd V 6 (.pointer (some ⟨g5, 0, none⟩)))) W' from fun W' he => hK _ _ ⟨_, rfl, HV.us 6 _ rfl, fun h0 => WiGT.ext (s0 (mnf h0 rfl)) he, fun h0 h1 => WiGU.ext (s1 (more_ne h0 rfl) (mnf h1 rfl)) he, fun h0 => WiGV.ext (s2 (more_ne h0 rfl)) he, fun h0 h1 => PlC.ext (f3 (mnf h0 rfl) (more_ne h1 rfl)) he, fun h0 h1 => PlD.ext (f4 (mnf h0 rfl) (more_ne h1 rfl)) he, fun h0 h1 => SlN.ext (f5 (mnf h0 rfl) (more_ne h1 rfl)) he⟩)
        clear hK hC hW hL HV s0 s1 s2 f3 f4 f5
        rw [HFR.out]
        go_wp2_with fail
        show K _ _; have := H.out _ (Ext.refl _); rw [HFR.out] at this
        exact this
       ·rintro L A W K hL hC hW ⟨V, rfl, HV, s0, s1, s2, f3, f4, f5⟩ hK
        have e6 := HV 6 _ rfl (hW 6 rfl)
        have hB := s1 (hW 5 rfl) hL
        have q5 := f5 hL (hW 5 rfl)
        obtain ⟨A5, c5, e5⟩ := q5
        have H := Lib.hid (show ∀ W', (∃ vT', FwS lo g5 vT' vT' (lb ++ [p]) w W' ∧ WiG lo g2 gx x ux vx W') → K (fr (V)) W' from fun W' hA => hK _ _ ⟨V, rfl, HV.st 7 rfl, fun h0 => mtf (mnf h0 rfl) (hW 5 rfl), fun h0 h1 => msf h1, fun h0 => hA, fun h0 h1 => mtf (mnf h0 rfl) (hW 5 rfl), fun h0 h1 => mtf (mnf h0 rfl) (hW 5 rfl), fun h0 h1 => msf h0⟩)
        have HU := Lib.hid (show (V) 6 = .pointer (some ⟨g5, 0, none⟩) ∧ (V) 5 = .slice A5 (lb.length + 1) c5 from ⟨e6, e5⟩)
        clear hK hC hW hL HV s0 s1 s2 f3 f4 f5
        rw [HFR.out, e6, e5]
        clear e6 e5
        have HB := Lib.hid hB
        have hc : W.cell? ⟨g5, 0, none⟩ = some (.slice AT lb.length cT) := hB.1.1.cell 0 _ rfl
        have hf : W.frozen? ⟨g5, 0, none⟩ = false := hB.1.1.frozen 0
        clear hB
        go_wp2_with fail
        have HA : Hid (∃ vT', FwS lo g5 vT' vT' (lb ++ [p]) w (W.setCell ⟨g5, 0, none⟩ (.slice A5 (lb.length + 1) c5)) ∧ WiG lo g2 gx x ux vx (W.setCell ⟨g5, 0, none⟩ (.slice A5 (lb.length + 1) c5))) := Lib.hid ⟨_, by have h := HB.out.1; rw [HU.out.2] at h; exact h.store (by have := HG.out; omega), WiG.kept HB.out.2 (grown_set _ _ _ _) (fun k e => by cases e; have := HG.out; omega)⟩
        show K _ _; have := H.out _ HA.out; rw [HFR.out] at this
        obtain ⟨u6, u5⟩ := HU.out
        rw [u6, u5] at this
        exact this
       ·rintro L A W hL ⟨V, rfl, HV, s0, s1, s2, f3, f4, f5⟩
        have e0 := HV 0 _ rfl (hL 0 (by simp))
        have e1 := HV 1 _ rfl (hL 1 (by simp))
        have e2 := HV 2 _ rfl (hL 2 (by simp))
        have e6 := HV 6 _ rfl (hL 6 (by simp))
        have hA := s2 (hL 7 (by simp))
        rw [HFR.out, e0, e1, e2, e6]
        clear hL HV HFR e0 e1 e2 e6 s0 s1 s2 f3 f4 f5
        obtain ⟨vT', hA, hG2⟩ := hA
        have HF := Lib.hid hA
        have HG2 := Lib.hid hG2
        clear hA hG2
        go_wp2_with fail
        exact ⟨⟨k + 1, by omega, by first | (rw [HSN.out]; done) | (rw [HSN.out]; rfl), by go_num, Lib.hid ⟨HG2.out, vT', by rw [HSN.out]; exact HF.out⟩⟩, by simp [intOf]; omega⟩
     ·have fl : decide (((x.addr : Nat) : Int) < (p.addr : Int)) = false := decide_eq_false (by omega)
      have fl2 : decide (x.addr < p.addr) = false := decide_eq_false hlx
      have HSN := Lib.hid (show wiF (l.take (k + 1)) x = (lb ++ [p], false) by rw [HSN.out, if_neg (fun h => hlx h.2)])
      have HLL := Lib.hid (show lb.length + 1 ≤ 1099511627776 by have := HLL0.out; omega)
      clear hlx
      go_upto_region 9 with fail
      clear qx qy
      have HS0 := Lib.hid (show FwS lo g5 (.slice AT lb.length cT) (.slice AT lb.length cT) lb w w4 ∧ Ab w4 B p u s' from ⟨HF.out, HPB.out⟩)
      clear HF HPB
      refine wp_named fun a0 ha0 => ?_
      obtain ⟨fr, hfr⟩ : ∃ fr : (Nat → Value) → Act, ∀ V, fr V = (((((((a0.put (some 39) (V 0)).put (some 40) (V 1)).put (some 41) (V 2)).put (some 42) (V 3)).put (some 43) (V 4)).put (some 44) (V 5)).put (some 45) (V 6)) := ⟨_, fun _ => rfl⟩
      rw [ha0] at hfr
      simp only [Act.put, List.setIfInBounds_toArray, List.set_cons_zero, List.set_cons_succ] at hfr
      have HFR := Lib.hid hfr
      clear hfr
      refine wp_region_inv (by kernel_rfl) (by kernel_rfl) (fun L A W => ∃ V : Nat → Value, A = fr V ∧ Vals (fun j => ([some (.pointer (some ⟨g5, 0, none⟩)), some (.slice AT lb.length cT), some (.agg (acc p u s')), none, none, none, some (.pointer (some ⟨g5, 0, none⟩)), none] : List (Option Value)).getD j none) L V ∧ (L 5 = false → (FwS lo g5 (.slice AT lb.length cT) (.slice AT lb.length cT) lb w W ∧ Ab W B p u s') ∧ WiG lo g2 gx x ux vx W ∧ Ext w4 W) ∧ (L 5 = true → L 7 = false → FwS lo g5 (.slice AT lb.length cT) (V 5) (lb ++ [p]) w W ∧ WiG lo g2 gx x ux vx W) ∧ (L 7 = true → ∃ vT', FwS lo g5 vT' vT' (lb ++ [p]) w W ∧ WiG lo g2 gx x ux vx W) ∧ (L 5 = false → L 3 = true → PlC lo (.slice AT lb.length cT) (.slice none 0 0) p W (V 3)) ∧ (L 5 = false → L 4 = true → PlD lo (.slice AT lb.length cT) (.slice none 0 0) p W (V 4)) ∧ (L 7 = false → L 5 = true → SlN (lb.length + 1) W (V 5))) ?_ ⟨?_, ?_, ?_, ?_, ?_, ?_, ?_, ?_, trivial⟩ ?_
      ·refine ⟨fun j => a0.tmps.getD (([39, 40, 41, 42, 43, 44, 45, 0] : List Nat).getD j 0) undef, ?_, Vals.no _ _ _ (far_none _ _ rfl), fun _ => ⟨⟨HS0.out.1.ext (Ext.refl _).drew, HS0.out.2.ext (Ext.refl _).drew⟩, HG2.out.ext (Ext.refl _).drew, (Ext.refl _).drew⟩, fun h0 h1 => absurd h0 (by decide), fun h0 => absurd h0 (by decide), fun h0 h1 => absurd h1 (by decide), fun h0 h1 => absurd h1 (by decide), fun h0 h1 => absurd h1 (by decide)⟩
       rw [HFR.out, ha0]
       rfl
      all_goals clear ha0
      ·rintro L A W K hL hC hW ⟨V, rfl, HV, s0, s1, s2, f3, f4, f5⟩ hK
       have H := Lib.hid (show ∀ W', Ext W W' → K (fr (upd V 0 (.pointer (some ⟨g5, 0, none⟩)))) W' from fun W' he => hK _ _ ⟨_, rfl, HV.us 0 _ rfl, fun h0 => WiGT.ext (s0 (mnf h0 rfl)) he, fun h0 h1 => WiGU.ext (s1 (more_ne h0 rfl) (mnf h1 rfl)) he, fun h0 => WiGV.ext (s2 (more_ne h0 rfl)) he, fun h0 h1 => PlC.ext (f3 (mnf h0 rfl) (more_ne h1 rfl)) he, fun h0 h1 => PlD.ext (f4 (mnf h0 rfl) (more_ne h1 rfl)) he, fun h0 h1 => SlN.ext (f5 (mnf h0 rfl) (more_ne h1 rfl)) he⟩)
       clear hK hC hW hL HV s0 s1 s2 f3 f4 f5
       rw [HFR.out]
       go_wp2_with fail
       show K _ _; have := H.out _ (Ext.refl _); rw [HFR.out] at this
       exact this
      ·rintro L A W K hL hC hW ⟨V, rfl, HV, s0, s1, s2, f3, f4, f5⟩ hK
       have e0 := HV 0 _ rfl (hW 0 rfl)
       have hB := s0 (hC.no hL 5 _ rfl rfl)
       have H := Lib.hid (show ∀ W', Ext W W' → K (fr (upd V 1 (.slice AT lb.length cT))) W' from fun W' he => hK _ _ ⟨_, rfl, HV.us 1 _ rfl, fun h0 => WiGT.ext (s0 (mnf h0 rfl)) he, fun h0 h1 => WiGU.ext (s1 (more_ne h0 rfl) (mnf h1 rfl)) he, fun h0 => WiGV.ext (s2 (more_ne h0 rfl)) he, fun h0 h1 => PlC.ext (f3 (mnf h0 rfl) (more_ne h1 rfl)) he, fun h0 h1 => PlD.ext (f4 (mnf h0 rfl) (more_ne h1 rfl)) he, fun h0 h1 => SlN.ext (f5 (mnf h0 rfl) (more_ne h1 rfl)) he⟩)
       have HU := Lib.hid (show (upd V 1 (.slice AT lb.length cT)) 0 = .pointer (some ⟨g5, 0, none⟩) from e0)
       clear hK hC hW hL HV s0 s1 s2 f3 f4 f5
       rw [HFR.out, e0]
       clear e0
       have hcl : W.cell? ⟨g5, 0, none⟩ = some (.slice AT lb.length cT) := hB.1.1.1.cell 0 _ rfl
       clear hB
       go_wp2_with fail
       show K _ _; have := H.out _ (Ext.refl _); rw [HFR.out] at this
       obtain u0 := HU.out
       rw [u0] at this
       exact this
      ·rintro L A W K hL hC hW ⟨V, rfl, HV, s0, s1, s2, f3, f4, f5⟩ hK
       have hB := s0 (hC.no (hC.no (hC.no hL 3 _ rfl rfl) 4 _ rfl rfl) 5 _ rfl rfl)
       have H := Lib.hid (show ∀ W', Ext W W' → K (fr (upd V 2 (.agg (acc p u s')))) W' from fun W' he => hK _ _ ⟨_, rfl, HV.us 2 _ rfl, fun h0 => WiGT.ext (s0 (mnf h0 rfl)) he, fun h0 h1 => WiGU.ext (s1 (more_ne h0 rfl) (mnf h1 rfl)) he, fun h0 => WiGV.ext (s2 (more_ne h0 rfl)) he, fun h0 h1 => PlC.ext (f3 (mnf h0 rfl) (more_ne h1 rfl)) he, fun h0 h1 => PlD.ext (f4 (mnf h0 rfl) (more_ne h1 rfl)) he, fun h0 h1 => SlN.ext (f5 (mnf h0 rfl) (more_ne h1 rfl)) he⟩)
       clear hK hC hW hL HV s0 s1 s2 f3 f4 f5
       rw [HFR.out]
       have HWD := Lib.hid hB.1.2.range
       clear hB
       refine wpList_load_ac rfl (.tmp 8) rfl B 0 p u s' rfl HWD.out ?_
       show K _ _; have := H.out _ (Ext.refl _); rw [HFR.out] at this
       exact this
      ·rintro L A W K hL hC hW ⟨V, rfl, HV, s0, s1, s2, f3, f4, f5⟩ hK
       have e2 := HV 2 _ rfl (hW 2 rfl)
       have hB := s0 (hC.no (hC.no hL 4 _ rfl rfl) 5 _ rfl rfl)
       have H := Lib.hid (show ∀ v W', Ext W W' → (PlC lo (.slice AT lb.length cT) (.slice none 0 0) p W' v) → K (fr (upd V 3 v)) W' from fun v W' he hp => hK _ _ ⟨_, rfl, HV.un 3 _ rfl, fun h0 => WiGT.ext (s0 (mnf h0 rfl)) he, fun h0 h1 => WiGU.ext (s1 (more_ne h0 rfl) (mnf h1 rfl)) he, fun h0 => WiGV.ext (s2 (more_ne h0 rfl)) he, fun h0 h1 => hp, fun h0 h1 => PlD.ext (f4 (mnf h0 rfl) (more_ne h1 rfl)) he, fun h0 h1 => SlN.ext (f5 (mnf h0 rfl) (more_ne h1 rfl)) he⟩)
       have HU := Lib.hid (show ∀ v, (upd V 3 v) 2 = .agg (acc p u s') from fun v => e2)
       clear hK hC hW hL HV s0 s1 s2 f3 f4 f5
       rw [HFR.out, e2]
       clear e2
       have HB := Lib.hid hB
       clear hB
       go_wp2_with fail
       refine (HCO.out _ HB.out.1.1.2.2.1).mono ?_
       rintro e wx ⟨u', v', rfl, ho, he⟩
       have := H.out _ _ he (FwC.new HB.out.1.1 ho)
       clear H
       go_wp2_with fail
       show K _ _
       rw [HFR.out] at this
       obtain u2 := HU.out _
       rw [u2] at this
       exact this
      ·rintro L A W K hL hC hW ⟨V, rfl, HV, s0, s1, s2, f3, f4, f5⟩ hK
       have hB := s0 (hC.no hL 5 _ rfl rfl)
       have q3 := f3 (hC.no hL 5 _ rfl rfl) (hW 3 rfl)
       obtain ⟨u3, v3, e3, z3⟩ := q3
       have H := Lib.hid (show ∀ v W', Ext W W' → (PlD lo (.slice AT lb.length cT) (.slice none 0 0) p W' v) → K (fr (upd V 4 v)) W' from fun v W' he hp => hK _ _ ⟨_, rfl, HV.un 4 _ rfl, fun h0 => WiGT.ext (s0 (mnf h0 rfl)) he, fun h0 h1 => WiGU.ext (s1 (more_ne h0 rfl) (mnf h1 rfl)) he, fun h0 => WiGV.ext (s2 (more_ne h0 rfl)) he, fun h0 h1 => PlC.ext (f3 (mnf h0 rfl) (more_ne h1 rfl)) he, fun h0 h1 => hp, fun h0 h1 => SlN.ext (f5 (mnf h0 rfl) (more_ne h1 rfl)) he⟩)
       have HU := Lib.hid (show ∀ v, (upd V 4 v) 3 = .agg (acc p u3 v3) from fun v => e3)
       clear hK hC hW hL HV s0 s1 s2 f3 f4 f5
       rw [HFR.out, e3]
       clear e3
       clear hB
       refine wpList_build_one rfl (.tmp 42) 22 37 rfl Try.underlying22 _ 8 96 acinfo3 (by decide) (by decide) (acc p u3 v3) rfl rfl ?_
       show K _ _; have := H.out (.slice (some ⟨W.heap.size, 0, none⟩) 1 1) _ ((Ext.refl W).alloc (.cells (acc p u3 v3) 37)) (PlD.new z3); rw [HFR.out] at this
       obtain u3 := HU.out _
       rw [u3] at this
       exact this
      ·rintro L A W K hL hC hW ⟨V, rfl, HV, s0, s1, s2, f3, f4, f5⟩ hK
       have e1 := HV 1 _ rfl (hW 1 rfl)
       have hB := s0 hL
       have q4 := f4 hL (hW 4 rfl)
       obtain ⟨g4, u4, v4, e4, k4, z4⟩ := q4
       have H := Lib.hid (show ∀ v W', (FwS lo g5 (.slice AT lb.length cT) v (lb ++ [p]) w W' ∧ WiG lo g2 gx x ux vx W') → (SlN (lb.length + 1) W' v) → K (fr (upd V 5 v)) W' from fun v W' hA hp => hK _ _ ⟨_, rfl, HV.un 5 _ rfl, fun h0 => msf h0, fun h0 h1 => hA, fun h0 => mtf (hC.no hL 7 _ rfl rfl) (more_ne h0 rfl), fun h0 h1 => msf h0, fun h0 h1 => msf h0, fun h0 h1 => hp⟩)
       have HU := Lib.hid (show ∀ v, (upd V 5 v) 1 = .slice AT lb.length cT ∧ (upd V 5 v) 4 = .slice (some ⟨g4, 0, none⟩) 1 1 from fun v => ⟨e1, e4⟩)
       clear hK hC hW hL HV s0 s1 s2 f3 f4 f5
       rw [HFR.out, e1, e4]
       clear e1 e4
       have HB := Lib.hid hB
       have K3 := Lib.hid k4
       have Z3 := Lib.hid z4
       clear hB k4 z4
       obtain ⟨cs, hcs⟩ := HB.out.1.1.2.1.own
       have HCS := Lib.hid hcs
       clear hcs
       refine wpList_append_row rfl (.tmp 40) (.tmp 43) 22 rfl lo 37 Try.underlying22 _ 8 96 acinfo3 rfl (by decide) (.slice AT lb.length cT) lb.length cs rfl HCS.out (.slice (some ⟨g4, 0, none⟩) 1 1) 1 (acc p u4 v4).toList rfl (rs_one K3.out) (acc_ones Z3.out.1) HLL.out (by decide) HB.out.1.1.2.2.2 ?_
       intro v5 w5 o5 g5' b5
       have HA := Lib.hid (And.intro (HB.out.1.1.append (by have := HG.out; omega) (by have := HG.out; omega) HOK.out Z3.out.1 Z3.out.2 g5' b5 HCS.out o5) (WiG.kept HB.out.2.1 g5' (fun k e => by have := (HCS.out.lt k (by first | exact e | exact e.symm)).1; omega)))
       have HP : Hid (SlN (lb.length + 1) w5 v5) := Lib.hid (SlN.of o5)
       clear o5 g5' b5
       show K _ _; have := H.out _ _ HA.out HP.out; rw [HFR.out] at this
       obtain ⟨u1, u4⟩ := HU.out _
       rw [u1, u4] at this
       exact this
      ·rintro L A W K hL hC hW ⟨V, rfl, HV, s0, s1, s2, f3, f4, f5⟩ hK
       have H := Lib.hid (show ∀ W', Ext W W' → K (fr (upd V 6 (.pointer (some ⟨g5, 0, none⟩)))) W' from fun W' he => hK _ _ ⟨_, rfl, HV.us 6 _ rfl, fun h0 => WiGT.ext (s0 (mnf h0 rfl)) he, fun h0 h1 => WiGU.ext (s1 (more_ne h0 rfl) (mnf h1 rfl)) he, fun h0 => WiGV.ext (s2 (more_ne h0 rfl)) he, fun h0 h1 => PlC.ext (f3 (mnf h0 rfl) (more_ne h1 rfl)) he, fun h0 h1 => PlD.ext (f4 (mnf h0 rfl) (more_ne h1 rfl)) he, fun h0 h1 => SlN.ext (f5 (mnf h0 rfl) (more_ne h1 rfl)) he⟩)
       clear hK hC hW hL HV s0 s1 s2 f3 f4 f5
       rw [HFR.out]
       go_wp2_with fail
       show K _ _; have := H.out _ (Ext.refl _); rw [HFR.out] at this
       exact this
      ·rintro L A W K hL hC hW ⟨V, rfl, HV, s0, s1, s2, f3, f4, f5⟩ hK
       have e6 := HV 6 _ rfl (hW 6 rfl)
       have hB := s1 (hW 5 rfl) hL
       have q5 := f5 hL (hW 5 rfl)
       obtain ⟨A5, c5, e5⟩ := q5
       have H := Lib.hid (show ∀ W', (∃ vT', FwS lo g5 vT' vT' (lb ++ [p]) w W' ∧ WiG lo g2 gx x ux vx W') → K (fr (V)) W' from fun W' hA => hK _ _ ⟨V, rfl, HV.st 7 rfl, fun h0 => mtf (mnf h0 rfl) (hW 5 rfl), fun h0 h1 => msf h1, fun h0 => hA, fun h0 h1 => mtf (mnf h0 rfl) (hW 5 rfl), fun h0 h1 => mtf (mnf h0 rfl) (hW 5 rfl), fun h0 h1 => msf h0⟩)
       have HU := Lib.hid (show (V) 6 = .pointer (some ⟨g5, 0, none⟩) ∧ (V) 5 = .slice A5 (lb.length + 1) c5 from ⟨e6, e5⟩)
       clear hK hC hW hL HV s0 s1 s2 f3 f4 f5
       rw [HFR.out, e6, e5]
       clear e6 e5
       have HB := Lib.hid hB
       have hc : W.cell? ⟨g5, 0, none⟩ = some (.slice AT lb.length cT) := hB.1.1.cell 0 _ rfl
       have hf : W.frozen? ⟨g5, 0, none⟩ = false := hB.1.1.frozen 0
       clear hB
       go_wp2_with fail
       have HA : Hid (∃ vT', FwS lo g5 vT' vT' (lb ++ [p]) w (W.setCell ⟨g5, 0, none⟩ (.slice A5 (lb.length + 1) c5)) ∧ WiG lo g2 gx x ux vx (W.setCell ⟨g5, 0, none⟩ (.slice A5 (lb.length + 1) c5))) := Lib.hid ⟨_, by have h := HB.out.1; rw [HU.out.2] at h; exact h.store (by have := HG.out; omega), WiG.kept HB.out.2 (grown_set _ _ _ _) (fun k e => by cases e; have := HG.out; omega)⟩
       show K _ _; have := H.out _ HA.out; rw [HFR.out] at this
       obtain ⟨u6, u5⟩ := HU.out
       rw [u6, u5] at this
       exact this
      ·rintro L A W hL ⟨V, rfl, HV, s0, s1, s2, f3, f4, f5⟩
       have e0 := HV 0 _ rfl (hL 0 (by simp))
       have e1 := HV 1 _ rfl (hL 1 (by simp))
       have e2 := HV 2 _ rfl (hL 2 (by simp))
       have e6 := HV 6 _ rfl (hL 6 (by simp))
       have hA := s2 (hL 7 (by simp))
       rw [HFR.out, e0, e1, e2, e6]
       clear hL HV HFR e0 e1 e2 e6 s0 s1 s2 f3 f4 f5
       obtain ⟨vT', hA, hG2⟩ := hA
       have HF := Lib.hid hA
       have HG2 := Lib.hid hG2
       clear hA hG2
       go_wp2_with fail
       exact ⟨⟨k + 1, by omega, by first | (rw [HSN.out]; done) | (rw [HSN.out]; rfl), by go_num, Lib.hid ⟨HG2.out, vT', by rw [HSN.out]; exact HF.out⟩⟩, by simp [intOf]; omega⟩
  ·obtain rfl : k = l.length := by omega
   obtain ⟨v0, hv0⟩ := HJ.out.2
   have HG2 := Lib.hid HJ.out.1
   rw [List.take_length] at hv0 ⊢
   have HLL0 := Lib.hid (show (wiF l x).1.length + 1 ≤ 1099511627776 by have := HLEN.out l.length; rw [List.take_length] at this; omega)
   obtain ⟨⟨lb, laid⟩, htt⟩ : ∃ tt, wiF l x = tt := ⟨_, rfl⟩
   rw [htt] at hv0 HWL HLL0 ⊢
   dsimp only at hv0 HLL0 ⊢
   clear htt HJ
   have HF := Lib.hid hv0
   clear hv0
   cases laid with
   | true =>
    have HLB := Lib.hid (show wiL l x = lb by rw [HWL.out]; rfl)
    clear HWL HLL0
    obtain ⟨lc, hlc⟩ : ∃ lc, lb = lc := ⟨_, rfl⟩
    rw [hlc] at HF HLB
    clear hlc
    obtain ⟨AT, cT, rfl⟩ := HF.out.2.1.shape
    have c5 : wr.cell? ⟨g5, 0, none⟩ = some (.slice AT lc.length cT) := HF.out.1.cell 0 _ rfl
    have c2 : wr.cell? ⟨g2, 0, none⟩ = some (.slice none 0 0) := HG2.out.1.1.cell 0 _ rfl
    have f2 : wr.frozen? ⟨g2, 0, none⟩ = false := HG2.out.1.1.frozen 0
    go_wp2_with fail
    refine bodyPost_ret (results_cell_row Try.results94 _ _ g2 24 #[.slice AT lc.length cT] (0, 0) _ rfl (show Cs _ g2 _ _ from by simpa using Cs.set HG2.out.1.1 0 (.slice AT lc.length cT)) Try.underlying24 rfl stinfo) rfl ?_
    rw [HLB.out]
    exact ⟨_, rfl, (HF.out.2.1.keptS (grown_set _ _ _ _) HG2.out.1.1).low (show w.heap.size ≤ lo by have := HG.out; omega), HF.out.2.2.1.grown (grown_set _ _ _ _) (by have := HG.out; omega)⟩
   | false =>
    have HLB := Lib.hid (show wiL l x = lb ++ [x] by rw [HWL.out]; rfl)
    clear HWL
    have HLL := Lib.hid HLL0.out
    obtain ⟨AT, cT, rfl⟩ := HF.out.2.1.shape
    have HS0 := Lib.hid (show FwS lo g5 (.slice AT lb.length cT) (.slice AT lb.length cT) lb w wr ∧ Ab wr gx x ux vx from ⟨HF.out, HG2.out.1.2⟩)
    clear HLL0 HF
    go_upto_region 12 with fail
    obtain ⟨w4, hw4⟩ : ∃ w', wr = w' := ⟨_, rfl⟩
    rw [hw4] at HS0 HG2 ⊢
    clear hw4
    refine wp_named fun a0 ha0 => ?_
    obtain ⟨fr, hfr⟩ : ∃ fr : (Nat → Value) → Act, ∀ V, fr V = (((((((a0.put (some 49) (V 0)).put (some 50) (V 1)).put (some 51) (V 2)).put (some 52) (V 3)).put (some 53) (V 4)).put (some 54) (V 5)).put (some 55) (V 6)) := ⟨_, fun _ => rfl⟩
    rw [ha0] at hfr
    simp only [Act.put, List.setIfInBounds_toArray, List.set_cons_zero, List.set_cons_succ] at hfr
    have HFR := Lib.hid hfr
    clear hfr
    refine wp_region_inv (by kernel_rfl) (by kernel_rfl) (fun L A W => ∃ V : Nat → Value, A = fr V ∧ Vals (fun j => ([some (.pointer (some ⟨g5, 0, none⟩)), some (.slice AT lb.length cT), some (.agg (acc x ux vx)), none, none, none, some (.pointer (some ⟨g5, 0, none⟩)), none] : List (Option Value)).getD j none) L V ∧ (L 5 = false → (FwS lo g5 (.slice AT lb.length cT) (.slice AT lb.length cT) lb w W ∧ Ab W gx x ux vx) ∧ WiG lo g2 gx x ux vx W ∧ Ext w4 W) ∧ (L 5 = true → L 7 = false → FwS lo g5 (.slice AT lb.length cT) (V 5) (lb ++ [x]) w W ∧ WiG lo g2 gx x ux vx W) ∧ (L 7 = true → ∃ vT', FwS lo g5 vT' vT' (lb ++ [x]) w W ∧ WiG lo g2 gx x ux vx W) ∧ (L 5 = false → L 3 = true → PlC lo (.slice AT lb.length cT) (.slice none 0 0) x W (V 3)) ∧ (L 5 = false → L 4 = true → PlD lo (.slice AT lb.length cT) (.slice none 0 0) x W (V 4)) ∧ (L 7 = false → L 5 = true → SlN (lb.length + 1) W (V 5))) ?_ ⟨?_, ?_, ?_, ?_, ?_, ?_, ?_, ?_, trivial⟩ ?_
    ·refine ⟨fun j => a0.tmps.getD (([49, 50, 51, 52, 53, 54, 55, 0] : List Nat).getD j 0) undef, ?_, Vals.no _ _ _ (far_none _ _ rfl), fun _ => ⟨⟨HS0.out.1.ext (Ext.refl _).drew, HS0.out.2.ext (Ext.refl _).drew⟩, HG2.out.ext (Ext.refl _).drew, (Ext.refl _).drew⟩, fun h0 h1 => absurd h0 (by decide), fun h0 => absurd h0 (by decide), fun h0 h1 => absurd h1 (by decide), fun h0 h1 => absurd h1 (by decide), fun h0 h1 => absurd h1 (by decide)⟩
     rw [HFR.out, ha0]
     rfl
    all_goals clear ha0
    ·rintro L A W K hL hC hW ⟨V, rfl, HV, s0, s1, s2, f3, f4, f5⟩ hK
     have H := Lib.hid (show ∀ W', Ext W W' → K (fr (upd V 0 (.pointer (some ⟨g5, 0, none⟩)))) W' from fun W' he => hK _ _ ⟨_, rfl, HV.us 0 _ rfl, fun h0 => WiGT.ext (s0 (mnf h0 rfl)) he, fun h0 h1 => WiGU.ext (s1 (more_ne h0 rfl) (mnf h1 rfl)) he, fun h0 => WiGV.ext (s2 (more_ne h0 rfl)) he, fun h0 h1 => PlC.ext (f3 (mnf h0 rfl) (more_ne h1 rfl)) he, fun h0 h1 => PlD.ext (f4 (mnf h0 rfl) (more_ne h1 rfl)) he, fun h0 h1 => SlN.ext (f5 (mnf h0 rfl) (more_ne h1 rfl)) he⟩)
     clear hK hC hW hL HV s0 s1 s2 f3 f4 f5
     rw [HFR.out]
     go_wp2_with fail
     show K _ _; have := H.out _ (Ext.refl _); rw [HFR.out] at this
     exact this
    ·rintro L A W K hL hC hW ⟨V, rfl, HV, s0, s1, s2, f3, f4, f5⟩ hK
     have e0 := HV 0 _ rfl (hW 0 rfl)
     have hB := s0 (hC.no hL 5 _ rfl rfl)
     have H := Lib.hid (show ∀ W', Ext W W' → K (fr (upd V 1 (.slice AT lb.length cT))) W' from fun W' he => hK _ _ ⟨_, rfl, HV.us 1 _ rfl, fun h0 => WiGT.ext (s0 (mnf h0 rfl)) he, fun h0 h1 => WiGU.ext (s1 (more_ne h0 rfl) (mnf h1 rfl)) he, fun h0 => WiGV.ext (s2 (more_ne h0 rfl)) he, fun h0 h1 => PlC.ext (f3 (mnf h0 rfl) (more_ne h1 rfl)) he, fun h0 h1 => PlD.ext (f4 (mnf h0 rfl) (more_ne h1 rfl)) he, fun h0 h1 => SlN.ext (f5 (mnf h0 rfl) (more_ne h1 rfl)) he⟩)
     have HU := Lib.hid (show (upd V 1 (.slice AT lb.length cT)) 0 = .pointer (some ⟨g5, 0, none⟩) from e0)
     clear hK hC hW hL HV s0 s1 s2 f3 f4 f5
     rw [HFR.out, e0]
     clear e0
     have hcl : W.cell? ⟨g5, 0, none⟩ = some (.slice AT lb.length cT) := hB.1.1.1.cell 0 _ rfl
     clear hB
     go_wp2_with fail
     show K _ _; have := H.out _ (Ext.refl _); rw [HFR.out] at this
     obtain u0 := HU.out
     rw [u0] at this
     exact this
    ·rintro L A W K hL hC hW ⟨V, rfl, HV, s0, s1, s2, f3, f4, f5⟩ hK
     have hB := s0 (hC.no (hC.no (hC.no hL 3 _ rfl rfl) 4 _ rfl rfl) 5 _ rfl rfl)
     have H := Lib.hid (show ∀ W', Ext W W' → K (fr (upd V 2 (.agg (acc x ux vx)))) W' from fun W' he => hK _ _ ⟨_, rfl, HV.us 2 _ rfl, fun h0 => WiGT.ext (s0 (mnf h0 rfl)) he, fun h0 h1 => WiGU.ext (s1 (more_ne h0 rfl) (mnf h1 rfl)) he, fun h0 => WiGV.ext (s2 (more_ne h0 rfl)) he, fun h0 h1 => PlC.ext (f3 (mnf h0 rfl) (more_ne h1 rfl)) he, fun h0 h1 => PlD.ext (f4 (mnf h0 rfl) (more_ne h1 rfl)) he, fun h0 h1 => SlN.ext (f5 (mnf h0 rfl) (more_ne h1 rfl)) he⟩)
     clear hK hC hW hL HV s0 s1 s2 f3 f4 f5
     rw [HFR.out]
     have HWD := Lib.hid hB.1.2.range
     clear hB
     refine wpList_load_ac rfl (.tmp 3) rfl gx 0 x ux vx rfl HWD.out ?_
     show K _ _; have := H.out _ (Ext.refl _); rw [HFR.out] at this
     exact this
    ·rintro L A W K hL hC hW ⟨V, rfl, HV, s0, s1, s2, f3, f4, f5⟩ hK
     have e2 := HV 2 _ rfl (hW 2 rfl)
     have hB := s0 (hC.no (hC.no hL 4 _ rfl rfl) 5 _ rfl rfl)
     have H := Lib.hid (show ∀ v W', Ext W W' → (PlC lo (.slice AT lb.length cT) (.slice none 0 0) x W' v) → K (fr (upd V 3 v)) W' from fun v W' he hp => hK _ _ ⟨_, rfl, HV.un 3 _ rfl, fun h0 => WiGT.ext (s0 (mnf h0 rfl)) he, fun h0 h1 => WiGU.ext (s1 (more_ne h0 rfl) (mnf h1 rfl)) he, fun h0 => WiGV.ext (s2 (more_ne h0 rfl)) he, fun h0 h1 => hp, fun h0 h1 => PlD.ext (f4 (mnf h0 rfl) (more_ne h1 rfl)) he, fun h0 h1 => SlN.ext (f5 (mnf h0 rfl) (more_ne h1 rfl)) he⟩)
     have HU := Lib.hid (show ∀ v, (upd V 3 v) 2 = .agg (acc x ux vx) from fun v => e2)
     clear hK hC hW hL HV s0 s1 s2 f3 f4 f5
     rw [HFR.out, e2]
     clear e2
     have HB := Lib.hid hB
     clear hB
     go_wp2_with fail
     refine (HCOX.out _ HB.out.1.1.2.2.1).mono ?_
     rintro e wx ⟨u', v', rfl, ho, he⟩
     have := H.out _ _ he (FwC.new HB.out.1.1 ho)
     clear H
     go_wp2_with fail
     show K _ _
     rw [HFR.out] at this
     obtain u2 := HU.out _
     rw [u2] at this
     exact this
    ·rintro L A W K hL hC hW ⟨V, rfl, HV, s0, s1, s2, f3, f4, f5⟩ hK
     have hB := s0 (hC.no hL 5 _ rfl rfl)
     have q3 := f3 (hC.no hL 5 _ rfl rfl) (hW 3 rfl)
     obtain ⟨u3, v3, e3, z3⟩ := q3
     have H := Lib.hid (show ∀ v W', Ext W W' → (PlD lo (.slice AT lb.length cT) (.slice none 0 0) x W' v) → K (fr (upd V 4 v)) W' from fun v W' he hp => hK _ _ ⟨_, rfl, HV.un 4 _ rfl, fun h0 => WiGT.ext (s0 (mnf h0 rfl)) he, fun h0 h1 => WiGU.ext (s1 (more_ne h0 rfl) (mnf h1 rfl)) he, fun h0 => WiGV.ext (s2 (more_ne h0 rfl)) he, fun h0 h1 => PlC.ext (f3 (mnf h0 rfl) (more_ne h1 rfl)) he, fun h0 h1 => hp, fun h0 h1 => SlN.ext (f5 (mnf h0 rfl) (more_ne h1 rfl)) he⟩)
     have HU := Lib.hid (show ∀ v, (upd V 4 v) 3 = .agg (acc x u3 v3) from fun v => e3)
     clear hK hC hW hL HV s0 s1 s2 f3 f4 f5
     rw [HFR.out, e3]
     clear e3
     clear hB
     refine wpList_build_one rfl (.tmp 52) 22 37 rfl Try.underlying22 _ 8 96 acinfo3 (by decide) (by decide) (acc x u3 v3) rfl rfl ?_
     show K _ _; have := H.out (.slice (some ⟨W.heap.size, 0, none⟩) 1 1) _ ((Ext.refl W).alloc (.cells (acc x u3 v3) 37)) (PlD.new z3); rw [HFR.out] at this
     obtain u3 := HU.out _
     rw [u3] at this
     exact this
    ·rintro L A W K hL hC hW ⟨V, rfl, HV, s0, s1, s2, f3, f4, f5⟩ hK
     have e1 := HV 1 _ rfl (hW 1 rfl)
     have hB := s0 hL
     have q4 := f4 hL (hW 4 rfl)
     obtain ⟨g4, u4, v4, e4, k4, z4⟩ := q4
     have H := Lib.hid (show ∀ v W', (FwS lo g5 (.slice AT lb.length cT) v (lb ++ [x]) w W' ∧ WiG lo g2 gx x ux vx W') → (SlN (lb.length + 1) W' v) → K (fr (upd V 5 v)) W' from fun v W' hA hp => hK _ _ ⟨_, rfl, HV.un 5 _ rfl, fun h0 => msf h0, fun h0 h1 => hA, fun h0 => mtf (hC.no hL 7 _ rfl rfl) (more_ne h0 rfl), fun h0 h1 => msf h0, fun h0 h1 => msf h0, fun h0 h1 => hp⟩)
     have HU := Lib.hid (show ∀ v, (upd V 5 v) 1 = .slice AT lb.length cT ∧ (upd V 5 v) 4 = .slice (some ⟨g4, 0, none⟩) 1 1 from fun v => ⟨e1, e4⟩)
     clear hK hC hW hL HV s0 s1 s2 f3 f4 f5
     rw [HFR.out, e1, e4]
     clear e1 e4
     have HB := Lib.hid hB
     have K3 := Lib.hid k4
     have Z3 := Lib.hid z4
     clear hB k4 z4
     obtain ⟨cs, hcs⟩ := HB.out.1.1.2.1.own
     have HCS := Lib.hid hcs
     clear hcs
     refine wpList_append_row rfl (.tmp 50) (.tmp 53) 22 rfl lo 37 Try.underlying22 _ 8 96 acinfo3 rfl (by decide) (.slice AT lb.length cT) lb.length cs rfl HCS.out (.slice (some ⟨g4, 0, none⟩) 1 1) 1 (acc x u4 v4).toList rfl (rs_one K3.out) (acc_ones Z3.out.1) HLL.out (by decide) HB.out.1.1.2.2.2 ?_
     intro v5 w5 o5 g5' b5
     have HA := Lib.hid (And.intro (HB.out.1.1.append (by have := HG.out; omega) (by have := HG.out; omega) HOKX.out Z3.out.1 Z3.out.2 g5' b5 HCS.out o5) (WiG.kept HB.out.2.1 g5' (fun k e => by have := (HCS.out.lt k (by first | exact e | exact e.symm)).1; omega)))
     have HP : Hid (SlN (lb.length + 1) w5 v5) := Lib.hid (SlN.of o5)
     clear o5 g5' b5
     show K _ _; have := H.out _ _ HA.out HP.out; rw [HFR.out] at this
     obtain ⟨u1, u4⟩ := HU.out _
     rw [u1, u4] at this
     exact this
    ·rintro L A W K hL hC hW ⟨V, rfl, HV, s0, s1, s2, f3, f4, f5⟩ hK
     have H := Lib.hid (show ∀ W', Ext W W' → K (fr (upd V 6 (.pointer (some ⟨g5, 0, none⟩)))) W' from fun W' he => hK _ _ ⟨_, rfl, HV.us 6 _ rfl, fun h0 => WiGT.ext (s0 (mnf h0 rfl)) he, fun h0 h1 => WiGU.ext (s1 (more_ne h0 rfl) (mnf h1 rfl)) he, fun h0 => WiGV.ext (s2 (more_ne h0 rfl)) he, fun h0 h1 => PlC.ext (f3 (mnf h0 rfl) (more_ne h1 rfl)) he, fun h0 h1 => PlD.ext (f4 (mnf h0 rfl) (more_ne h1 rfl)) he, fun h0 h1 => SlN.ext (f5 (mnf h0 rfl) (more_ne h1 rfl)) he⟩)
     clear hK hC hW hL HV s0 s1 s2 f3 f4 f5
     rw [HFR.out]
     go_wp2_with fail
     show K _ _; have := H.out _ (Ext.refl _); rw [HFR.out] at this
     exact this
    ·rintro L A W K hL hC hW ⟨V, rfl, HV, s0, s1, s2, f3, f4, f5⟩ hK
     have e6 := HV 6 _ rfl (hW 6 rfl)
     have hB := s1 (hW 5 rfl) hL
     have q5 := f5 hL (hW 5 rfl)
     obtain ⟨A5, c5, e5⟩ := q5
     have H := Lib.hid (show ∀ W', (∃ vT', FwS lo g5 vT' vT' (lb ++ [x]) w W' ∧ WiG lo g2 gx x ux vx W') → K (fr (V)) W' from fun W' hA => hK _ _ ⟨V, rfl, HV.st 7 rfl, fun h0 => mtf (mnf h0 rfl) (hW 5 rfl), fun h0 h1 => msf h1, fun h0 => hA, fun h0 h1 => mtf (mnf h0 rfl) (hW 5 rfl), fun h0 h1 => mtf (mnf h0 rfl) (hW 5 rfl), fun h0 h1 => msf h0⟩)
     have HU := Lib.hid (show (V) 6 = .pointer (some ⟨g5, 0, none⟩) ∧ (V) 5 = .slice A5 (lb.length + 1) c5 from ⟨e6, e5⟩)
     clear hK hC hW hL HV s0 s1 s2 f3 f4 f5
     rw [HFR.out, e6, e5]
     clear e6 e5
     have HB := Lib.hid hB
     have hc : W.cell? ⟨g5, 0, none⟩ = some (.slice AT lb.length cT) := hB.1.1.cell 0 _ rfl
     have hf : W.frozen? ⟨g5, 0, none⟩ = false := hB.1.1.frozen 0
     clear hB
     go_wp2_with fail
     have HA : Hid (∃ vT', FwS lo g5 vT' vT' (lb ++ [x]) w (W.setCell ⟨g5, 0, none⟩ (.slice A5 (lb.length + 1) c5)) ∧ WiG lo g2 gx x ux vx (W.setCell ⟨g5, 0, none⟩ (.slice A5 (lb.length + 1) c5))) := Lib.hid ⟨_, by have h := HB.out.1; rw [HU.out.2] at h; exact h.store (by have := HG.out; omega), WiG.kept HB.out.2 (grown_set _ _ _ _) (fun k e => by cases e; have := HG.out; omega)⟩
     show K _ _; have := H.out _ HA.out; rw [HFR.out] at this
     obtain ⟨u6, u5⟩ := HU.out
     rw [u6, u5] at this
     exact this
    ·rintro L A W hL ⟨V, rfl, HV, s0, s1, s2, f3, f4, f5⟩
     have e0 := HV 0 _ rfl (hL 0 (by simp))
     have e1 := HV 1 _ rfl (hL 1 (by simp))
     have e2 := HV 2 _ rfl (hL 2 (by simp))
     have e6 := HV 6 _ rfl (hL 6 (by simp))
     have hA := s2 (hL 7 (by simp))
     rw [HFR.out, e0, e1, e2, e6]
     clear hL HV HFR e0 e1 e2 e6 s0 s1 s2 f3 f4 f5
     obtain ⟨vT', hA, hG2⟩ := hA
     have HF := Lib.hid hA
     have HG2 := Lib.hid hG2
     clear hA hG2
     generalize lb ++ [x] = lc at *
     obtain ⟨AT, cT, rfl⟩ := HF.out.2.1.shape
     have c5 : W.cell? ⟨g5, 0, none⟩ = some (.slice AT lc.length cT) := HF.out.1.cell 0 _ rfl
     have c2 : W.cell? ⟨g2, 0, none⟩ = some (.slice none 0 0) := HG2.out.1.1.cell 0 _ rfl
     have f2 : W.frozen? ⟨g2, 0, none⟩ = false := HG2.out.1.1.frozen 0
     go_wp2_with fail
     refine bodyPost_ret (results_cell_row Try.results94 _ _ g2 24 #[.slice AT lc.length cT] (0, 0) _ rfl (show Cs _ g2 _ _ from by simpa using Cs.set HG2.out.1.1 0 (.slice AT lc.length cT)) Try.underlying24 rfl stinfo) rfl ?_
     rw [HLB.out]
     exact ⟨_, rfl, (HF.out.2.1.keptS (grown_set _ _ _ _) HG2.out.1.1).low (show w.heap.size ≤ lo by have := HG.out; omega), HF.out.2.2.1.grown (grown_set _ _ _ _) (by have := HG.out; omega)⟩
end Go.Proofs.Ytiojfpdjnblkhaa
