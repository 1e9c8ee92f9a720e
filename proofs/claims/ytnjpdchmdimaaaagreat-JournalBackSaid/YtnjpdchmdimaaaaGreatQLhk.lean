/- Package ledger: what a ledger tells; which are the same. -/
import Derived.Test.YtnjpdchmdimaaaaGreatQLhe
import Derived.Deep.DeepAppendWide
import Derived.Lib.AppendZerosOnto
import Derived.Lib.Overlaps
import Derived.Test.YtnjpdchmdimaaaaGreatQNod
namespace Go.Proofs.YtnjpdchmdimaaaaGreat
open Go.ChangeShapes Go.WideShapes Go.ChangeAt Go.RowKit Go.Shelf

end Go.Proofs.YtnjpdchmdimaaaaGreat
namespace Go.Proofs.YtnjpdchmdimaaaaGreat
open Go.ChangeShapes Go.WideShapes Go.ChangeAt Go.RowKit Go.Shelf

theorem OwnH.sl {W : World} {base : Nat} {v : Value} {l : List Hd} (h : OwnH W base v l) : ∃ A c, v = .slice A l.length c ∧ l.length ≤ c ∧ c ≤ 9223372036854775807 := by
 obtain ⟨A, c, e, h1, h2⟩ := h.hds.len
 exact ⟨A, c, e, h1, by unfold maxLen at h2; omega⟩
theorem OwnH.lt {W : World} {base : Nat} {v : Value} {l : List Hd} (h : OwnH W base v l) (g : Nat) (hg : v.ownBlock = some g) : base ≤ g ∧ g < W.heap.size := h.rowO.lt g hg
theorem OwnH.len {l m : List Hd} (h : l = m) {W : World} {base : Nat} {v : Value} (k : OwnH W base v l) : OwnH W base v m := h ▸ k
theorem OwnH.keptT {W W' : World} {lo g : Nat} {t : TypeId} {v : Value} {l : List Hd} {cs : Array Value} (h : OwnH W lo v l) (hg : W.grownBy W' (some g)) (hs : Cs W g t cs) (ht : t ≠ 109) : OwnH W' lo v l := by
 refine ⟨h.1.kept hg ?_, h.2⟩
 rcases h.1.2 with ⟨e, _⟩ | ⟨g', cap, cur, e, _, hgg, _⟩
 ·exact .inl (by rw [e]; rfl)
 ·refine .inr (fun e' => ?_)
  rw [e] at e'
  injection e' with e'
  subst e'
  rw [show W.heap[g']? = _ from hs] at hgg
  cases hgg
  exact ht rfl
end Go.Proofs.YtnjpdchmdimaaaaGreat
namespace Go.Proofs.YtnjpdchmdimaaaaGreat
open Go.ChangeShapes Go.WideShapes Go.ChangeAt Go.RowKit Go.Shelf

theorem rightG_parts {l : List Hd} (h : rightG l = true) : l.length ≤ 24 ∧ (∀ i, i < l.length → rgB l i = true) ∧ (sumW (flatH l)).2 = false := by
 unfold rightG at h
 simp only [Bool.and_eq_true, decide_eq_true_eq, List.all_eq_true, List.mem_range, Bool.not_eq_true'] at h
 exact h
end Go.Proofs.YtnjpdchmdimaaaaGreat
namespace Go.Proofs.YtnjpdchmdimaaaaGreat
open Go.ChangeShapes Go.WideShapes Go.ChangeAt Go.RowKit Go.Shelf

end Go.Proofs.YtnjpdchmdimaaaaGreat
namespace Go.Proofs.YtnjpdchmdimaaaaGreat
open Go.ChangeShapes Go.WideShapes Go.ChangeAt Go.RowKit Go.Shelf

end Go.Proofs.YtnjpdchmdimaaaaGreat
namespace Go.Proofs.YtnjpdchmdimaaaaGreat
open Go.ChangeShapes Go.WideShapes Go.ChangeAt Go.RowKit Go.Shelf
def nnf (l : List Nn) : List Value := (l.map fun p => (nnc p).toList).flatten
theorem Nns.rs {W : World} {v : Value} {l : List Nn} (h : Nns W v l) : Rs W 6 v l.length (nnf l) := Sl.rsL (by decide) (fun p => (nnc p).toList) (fun _ => rfl) (fun _ _ h => h.2) h
theorem nnf_one (l : List Nn) : ∀ u ∈ nnf l, u.oneCell' = true := by
 intro u hu
 obtain ⟨cs, hcs, hu⟩ := List.mem_flatten.1 hu
 obtain ⟨p, _, rfl⟩ := List.mem_map.1 hcs
 exact nnc_ones p u hu
def OwnN (W : World) (base : Nat) (v : Value) (l : List Nn) : Prop := W.ownsRow base 112 6 v l.length (nnf l) ∧ ∀ p ∈ l, p.ok
theorem OwnN.ext {W W' : World} {base : Nat} {v : Value} {l : List Nn} (h : OwnN W base v l) (he : Ext W W') : OwnN W' base v l := ⟨own_ext h.1 he, h.2⟩
theorem OwnN.mono {W : World} {base base' : Nat} {v : Value} {l : List Nn} (h : OwnN W base v l) (hb : base' ≤ base) : OwnN W base' v l := ⟨own_mono h.1 hb, h.2⟩
theorem OwnN.rowO {W : World} {base : Nat} {v : Value} {l : List Nn} (h : OwnN W base v l) : RowO 112 6 (fun _ => NnR) No base W v l :=
 ⟨l.map fun p => (nnc p).toList, by simp, by intro cs hc; obtain ⟨p, _, rfl⟩ := List.mem_map.1 hc; rfl, h.1, fun i cs x hc hx => Far.true _ _ _ fun W => by
  rw [List.getElem?_map, hx] at hc
  simp at hc
  have := h.2 x (List.mem_of_getElem? hx)
  exact ⟨this, hc.symm⟩⟩
theorem OwnN.nns {W : World} {base : Nat} {v : Value} {l : List Nn} (h : OwnN W base v l) : Nns W v l := h.rowO.sl
theorem OwnN.nil (W : World) (base : Nat) : OwnN W base (.slice none 0 0) [] := ⟨World.ownsRow_nil _ _ _ _, fun _p hp => nomatch hp⟩
set_option maxRecDepth 100000 in
set_option maxHeartbeats 1000000 in
theorem cloneN_any (mv : Value) (l : List Nn) (w : World) (hm : Nns w mv l) (hl : l.length ≤ 100000) : Calls Tryz.prog 61 #[mv] w fun e w' => ∃ v, e = .returned v ∧ OwnN w' w.heap.size v l ∧ Ext w w' := by
 have HR := Lib.hid hm.rs
 have HK := Lib.hid hm.oks
 obtain ⟨A, c, rfl, h1, h2, h3⟩ := hm
 have hnil := fun (w : World) (n : Nat) => Lib.run_eql_slice_nil (P := Tryz.prog) w 28 112 A n c 0 0 Tryz.underlying28
 cases A with
 | none =>
  have h0 : l = [] := by
   cases l with
   | nil => rfl
   | cons x l =>
    obtain ⟨b, o, e, _⟩ := h3 (by simp)
    cases e
  subst h0
  clear h3
  go_enter Tryz.func61, Tryz.ntmps61
  go_wp2_with fail
  go_ret
  exact ⟨_, rfl, OwnN.nil _ _, Ext.refl _⟩
 | some ad =>
  clear h3
  have HO : Hid ((w.alloc (.cells #[] 112)).ownsRow w.heap.size 112 6 (.slice (some ⟨w.heap.size, 0, none⟩) 0 0) 0 []) := Lib.hid ⟨by simp, .inr ⟨w.heap.size, 0, #[], rfl, Nat.le_refl _, heap_alloc_new _ _, Nat.le_refl _, by unfold maxLen; omega, by simp, by simp⟩⟩
  go_enter Tryz.func61, Tryz.ntmps61
  go_wp2_with (first
   | (at_builtin; go_loud (refine wpList_append_row ?_ (.tmp 5) (.tmp 6) 28 rfl w.heap.size 112 Tryz.underlying28 _ 6 48 nninfo3 rfl (by decide) _ 0 [] rfl HO.out _ l.length (nnf l) rfl (HR.out.ext ((Ext.refl w).alloc _)) (nnf_one l) (by omega) (by decide) (by simp) ?_; (exact rfl); intro v5 w5 o5 g5 b5; have O5 := Lib.hid o5; have E5 := Lib.hid (((Ext.refl w).alloc (.cells #[] 112)).grown (g := w.heap.size) g5 (Nat.le_refl _)); clear o5 g5 b5)))
  go_ret
  have := O5.out
  rw [Nat.zero_add, List.nil_append] at this
  exact ⟨_, rfl, ⟨this, HK.out⟩, E5.out⟩

end Go.Proofs.YtnjpdchmdimaaaaGreat
namespace Go.Proofs.YtnjpdchmdimaaaaGreat
open Go.ChangeShapes Go.WideShapes Go.ChangeAt Go.RowKit Go.Shelf

theorem OwnN.sl {W : World} {base : Nat} {v : Value} {l : List Nn} (h : OwnN W base v l) : ∃ A c, v = .slice A l.length c ∧ l.length ≤ c ∧ c ≤ 9223372036854775807 := by
 obtain ⟨A, c, e, h1, h2⟩ := h.nns.len
 exact ⟨A, c, e, h1, by unfold maxLen at h2; omega⟩
theorem OwnN.lt {W : World} {base : Nat} {v : Value} {l : List Nn} (h : OwnN W base v l) (g : Nat) (hg : v.ownBlock = some g) : base ≤ g ∧ g < W.heap.size := h.rowO.lt g hg
theorem OwnN.len {l m : List Nn} (h : l = m) {W : World} {base : Nat} {v : Value} (k : OwnN W base v l) : OwnN W base v m := h ▸ k
theorem OwnN.keptT {W W' : World} {lo g : Nat} {t : TypeId} {v : Value} {l : List Nn} {cs : Array Value} (h : OwnN W lo v l) (hg : W.grownBy W' (some g)) (hs : Cs W g t cs) (ht : t ≠ 112) : OwnN W' lo v l := by
 refine ⟨h.1.kept hg ?_, h.2⟩
 rcases h.1.2 with ⟨e, _⟩ | ⟨g', cap, cur, e, _, hgg, _⟩
 ·exact .inl (by rw [e]; rfl)
 ·refine .inr (fun e' => ?_)
  rw [e] at e'
  injection e' with e'
  subst e'
  rw [show W.heap[g']? = _ from hs] at hgg
  cases hgg
  exact ht rfl
end Go.Proofs.YtnjpdchmdimaaaaGreat
namespace Go.Proofs.YtnjpdchmdimaaaaGreat
open Go.ChangeShapes Go.WideShapes Go.ChangeAt Go.RowKit Go.Shelf

end Go.Proofs.YtnjpdchmdimaaaaGreat
namespace Go.Proofs.YtnjpdchmdimaaaaGreat
open Go.ChangeShapes Go.WideShapes Go.ChangeAt Go.RowKit Go.Shelf

def sameG (l m : List Hd) : Bool := l.length == m.length && (List.range l.length).all fun i => (l.getD i hz0).eqB (m.getD i hz0)
theorem sameG_iff (l m : List Hd) : sameG l m = true ↔ l = m := by
 unfold sameG
 rw [Bool.and_eq_true, beq_iff_eq, List.all_eq_true]
 constructor
 ·rintro ⟨h1, h2⟩
  apply List.ext_getElem h1
  intro i hi hj
  have := (Hd.eqB_iff _ _).1 (h2 i (List.mem_range.2 hi))
  rwa [List.getD_eq_getElem?_getD, List.getD_eq_getElem?_getD, List.getElem?_eq_getElem hi, List.getElem?_eq_getElem hj] at this
 ·rintro rfl
  exact ⟨rfl, fun i _ => Hd.eqB_self _⟩
theorem sameG_len {l m : List Hd} (h : l.length ≠ m.length) : sameG l m = false := by unfold sameG; rw [beq_eq_false_iff_ne.2 h]; rfl
theorem sameG_at {l m : List Hd} (i : Nat) (_hi : i < l.length) (h : (l.getD i hz0).eqB (m.getD i hz0) = false) : sameG l m = false := by
 cases hs : sameG l m with
 | false => rfl
 | true =>
  rw [(sameG_iff l m).1 hs, Hd.eqB_self] at h
  cases h
theorem sameG_all {l m : List Hd} (h : l.length = m.length) (ha : ∀ i, i < l.length → (l.getD i hz0).eqB (m.getD i hz0) = true) : sameG l m = true := by
 unfold sameG
 rw [Bool.and_eq_true, beq_iff_eq, List.all_eq_true]
 exact ⟨h, fun i hi => ha i (List.mem_range.1 hi)⟩
set_option maxRecDepth 100000 in
set_option maxHeartbeats 1000000 in
theorem same1_any (p q : Hd) (w : World) (hp : p.ok) (hq : q.ok) : Calls Tryz.prog 105 #[.agg (hdc p), .agg (hdc q)] w fun e w' => e = .returned (.bool (p.eqB q)) ∧ Ext w w' := by
 have HP := Lib.hid hp
 have HQ := Lib.hid hq
 obtain ⟨w0, hw0⟩ : ∃ w0, (w.alloc (.cells (hdc p) 109)).alloc (.cells (hdc q) 109) = w0 := ⟨_, rfl⟩
 have HW0 := Lib.hid hw0
 have H1 : Hid (Cs w0 w.heap.size 109 (hdc p)) := Lib.hid (by rw [← hw0]; exact Cs.alloc (Cs.new _ _ _ _ rfl) _)
 have H2 : Hid (Cs w0 (w.heap.size + 1) 109 (hdc q)) := Lib.hid (by rw [← hw0]; exact Cs.new _ _ _ _ (by rw [World.size_alloc]))
 have HE : Hid (Ext w w0) := Lib.hid (by rw [← hw0]; exact ((Ext.refl w).alloc _).alloc _)
 have R1 := Lib.hid (Cs.rg H1.out)
 have R2 := Lib.hid (Cs.rg H2.out)
 obtain ⟨pc, hpc⟩ : ∃ pc, hdc p = pc := ⟨_, rfl⟩
 obtain ⟨qc, hqc⟩ : ∃ qc, hdc q = qc := ⟨_, rfl⟩
 rw [hpc, hqc] at HW0 ⊢
 clear hw0 hp hq hpc hqc
 go_enter Tryz.func105, Tryz.ntmps105
 go_upto_region 1 with fail
 rw [HW0.out]
 go_wp2_with (first
  | ((with_reducible refine wpList_load_hd ?_ (.tmp 2) ?_ (w.heap.size) 0 p ?_ ?_ ?_); (exact rfl); (exact rfl); (exact rfl); (exact R1.out))
  | ((with_reducible refine wpList_load_hd ?_ (.tmp 3) ?_ (w.heap.size + 1) 0 q ?_ ?_ ?_); (exact rfl); (exact rfl); (exact rfl); (exact R2.out))
  | ((with_reducible refine wpList_eql_hd ?_ (.tmp 5) (.tmp 6) ?_ p q HP.out HQ.out ?_ ?_ ?_); (exact rfl); (exact rfl); (exact rfl); (exact rfl)))
 go_ret
 exact ⟨rfl, HE.out⟩
set_option maxRecDepth 100000 in
set_option maxHeartbeats 4000000 in
theorem equalH_any (v u : Value) (l m : List Hd) (w : World) (hs : Hds w v l) (ht : Hds w u m) :
  Calls Tryz.prog 104 #[v, u, .func (.func 105) #[] #[]] w fun e w' => e = .returned (.bool (sameG l m)) ∧ Ext w w' := by
 have HS := Lib.hid hs
 have HT := Lib.hid ht
 obtain ⟨A1, c1, rfl, h1, h2⟩ := hs.len
 obtain ⟨A2, c2, rfl, h3, h4⟩ := ht.len
 unfold maxLen at h2 h4
 clear hs ht
 go_enter Tryz.func104, Tryz.ntmps104
 by_cases hl : l.length = m.length
 ·have HLEN := Lib.hid hl
  rw [← hl] at HT h3 ⊢
  have e1 : ((l.length : Int) != (l.length : Int)) = false := by simp
  have e2 : (l.length != l.length) = false := by simp
  clear hl
  go_wp2_with fail
  go_loopw [17] (fun iv wr => ∃ k : Nat, k ≤ l.length ∧ iv = .int .i64 k ∧ Hid ((∀ i, i < k → (l.getD i hz0).eqB (m.getD i hz0) = true) ∧ Ext w wr)) (fun iv _ => l.length - (intOf iv).toNat)
  case atStart => exact ⟨0, by omega, rfl, Lib.hid ⟨fun i hi => absurd hi (by omega), Ext.refl _⟩⟩
  case round =>
   obtain ⟨k, hk, rfl, HJ⟩ := hrel
   by_cases hlt : k < l.length
   ·have hd : decide (k < l.length) = true := decide_eq_true hlt
    have hd2 : decide ((k : Int) < (l.length : Int)) = true := decide_eq_true (by omega)
    obtain ⟨b1, o1, rfl, hr1, hp⟩ := (HS.out.ext HJ.out.2).at k hlt
    obtain ⟨b2, o2, rfl, hr2, hq⟩ := (HT.out.ext HJ.out.2).at k (by rw [← HLEN.out]; exact hlt)
    have HR1 := Lib.hid hr1
    have HR2 := Lib.hid hr2
    have HPK := Lib.hid hp
    have HQK := Lib.hid hq
    have HAT := Lib.hid (fun h => sameG_at (l := l) (m := m) k hlt h)
    clear hr1 hr2 hp hq
    generalize hpp : l.getD k hz0 = p at *
    generalize hqq : m.getD k hz0 = q at *
    have HPQ := Lib.hid (And.intro hpp hqq)
    clear hpp hqq
    have HP0 := Lib.hid (hdc_one p)
    have HQ0 := Lib.hid (hdc_one q)
    obtain ⟨pc, hpc⟩ : ∃ pc, hdc p = pc := ⟨_, rfl⟩
    obtain ⟨qc, hqc⟩ : ∃ qc, hdc q = qc := ⟨_, rfl⟩
    have HPC := Lib.hid hpc
    have HQC := Lib.hid hqc
    have HPS := Lib.hid (show pc.size = 11 by rw [← hpc]; rfl)
    have HQS := Lib.hid (show qc.size = 11 by rw [← hqc]; rfl)
    rw [hpc] at HP0
    rw [hqc] at HQ0
    clear hpc hqc
    go_upto_region 6 with (first
     | ((with_reducible refine wpList_load_hd ?_ (.tmp 20) ?_ (b1) (o1 + k * 11) (p) ?_ ?_ ?_); (exact rfl); (exact rfl); (exact rfl); (exact HR1.out); rw [HPC.out])
     | ((with_reducible refine wpList_store_agg ?_ ?_ 109 (.tmp 8) (.tmp 21) ?_ hdinfo wr.heap.size (hdc hz0) pc ?_ ?_ ?_ ?_ ?_ ?_ ?_); (exact rfl); (exact rfl); (exact rfl); (exact HP0.out); (exact rfl); (exact rfl); (exact Cs.new _ _ _ _ rfl); (exact rfl); (exact HPS.out); intro w4 k4 g4; have K4 := Lib.hid k4; have HX4 := Lib.hid (((Ext.refl wr).alloc _).grown g4 (Nat.le_refl _)); clear k4 g4))
    have HR2 := Lib.hid (fun j x hx => HX4.out.cell (HR2.out j x hx))
    go_upto_region 7 with (first
     | ((with_reducible refine wpList_load_hd ?_ (.tmp 24) ?_ (b2) (o2 + k * 11) (q) ?_ ?_ ?_); (exact rfl); (exact rfl); (exact rfl); (exact HR2.out); rw [HQC.out])
     | ((with_reducible refine wpList_store_agg ?_ ?_ 109 (.tmp 9) (.tmp 25) ?_ hdinfo w4.heap.size (hdc hz0) qc ?_ ?_ ?_ ?_ ?_ ?_ ?_); (exact rfl); (exact rfl); (exact rfl); (exact HQ0.out); (exact rfl); (exact rfl); (exact Cs.new _ _ _ _ rfl); (exact rfl); (exact HQS.out); intro w6 k6 g6; have K6 := Lib.hid k6; have HX6 := Lib.hid (((Ext.refl w4).alloc _).grown g6 (Nat.le_refl _)); clear k6 g6))
    have R1 := Lib.hid (show w6.rangeAt wr.heap.size 0 (hdc p).toList by rw [HPC.out]; exact Cs.rg (Cs.ext K4.out HX6.out))
    have R2 := Lib.hid (show w6.rangeAt w4.heap.size 0 (hdc q).toList by rw [HQC.out]; exact Cs.rg K6.out)
    have HE6 := Lib.hid (HJ.out.2.trans (HX4.out.trans HX6.out))
    have HJA := Lib.hid HJ.out.1
    clear HJ K4 K6 HX4 HX6
    go_wp2_with (first
     | ((with_reducible refine wpList_load_hd ?_ (.tmp 8) ?_ (wr.heap.size) (0) (p) ?_ ?_ ?_); (exact rfl); (exact rfl); (exact rfl); (exact R1.out))
     | ((with_reducible refine wpList_load_hd ?_ (.tmp 9) ?_ (w4.heap.size) (0) (q) ?_ ?_ ?_); (exact rfl); (exact rfl); (exact rfl); (exact R2.out)))
    refine (same1_any p q _ HPK.out HQK.out).mono ?_
    rintro e w7 ⟨rfl, he⟩
    have HE7 := Lib.hid (HE6.out.trans he)
    clear he
    cases heq : p.eqB q with
    | false =>
     have HF := Lib.hid (HAT.out heq)
     clear heq
     go_wp2_with fail
     refine bodyPost_ret (results_tmp rfl _ _ _) rfl ?_
     exact ⟨by rw [HF.out]; rfl, HE7.out⟩
    | true =>
     have HEQ := Lib.hid heq
     clear heq
     go_wp2_with fail
     refine ⟨⟨k + 1, by omega, by go_num, Lib.hid ⟨fun i hi => ?_, HE7.out⟩⟩, by simp [intOf]; omega⟩
     by_cases hik : i = k
     ·subst hik; rw [HPQ.out.1, HPQ.out.2]; exact HEQ.out
     ·exact HJA.out i (by omega)
   ·obtain rfl : k = l.length := by omega
    have hd : decide (l.length < l.length) = false := decide_eq_false (by omega)
    have hd2 : decide ((l.length : Int) < (l.length : Int)) = false := decide_eq_false (by omega)
    have HF := Lib.hid (sameG_all HLEN.out HJ.out.1)
    have HJE := Lib.hid HJ.out.2
    clear HJ
    go_wp2_with fail
    go_ret
    exact ⟨by rw [HF.out]; rfl, HJE.out⟩
 ·have e1 : ((l.length : Int) != (m.length : Int)) = true := by simp; omega
  have e2 : (l.length != m.length) = true := by simpa using hl
  have HF := Lib.hid (sameG_len hl)
  clear hl
  go_wp2_with fail
  go_ret
  exact ⟨by rw [HF.out]; rfl, Ext.refl _⟩
set_option maxRecDepth 100000 in
set_option maxHeartbeats 1000000 in
theorem sameL_any (v u : Value) (l m : List Hd) (w : World) (hs : Hds w v l) (ht : Hds w u m) : Calls Tryz.prog 48 #[.agg #[v], .agg #[u]] w fun e w' => e = .returned (.bool (sameG l m)) ∧ Ext w w' := by
 have HS := Lib.hid hs
 have HT := Lib.hid ht
 have HE : Hid (Ext w ((w.alloc (.cells #[v] 27)).alloc (.cells #[u] 27))) := Lib.hid (((Ext.refl w).alloc _).alloc _)
 have q1 := (Cs.alloc (Cs.new w #[v] 27 _ rfl) (.cells #[u] 27)).cell 0 _ rfl
 have q2 := (Cs.new (w.alloc (.cells #[v] 27)) #[u] 27 (w.heap.size + 1) (by rw [World.size_alloc])).cell 0 _ rfl
 clear hs ht
 go_enter Tryz.func48, Tryz.ntmps48
 go_wp2_with fail
 refine (equalH_any v u l m _ (HS.out.ext HE.out) (HT.out.ext HE.out)).mono ?_
 rintro e w3 ⟨rfl, he⟩
 have HE3 := Lib.hid (HE.out.trans he)
 obtain ⟨sb, hsb⟩ : ∃ sb, sameG l m = sb := ⟨_, rfl⟩
 have HSB := Lib.hid hsb
 rw [hsb]
 clear he hsb
 go_wp2_with fail
 go_ret
 exact ⟨by rw [HSB.out]; rfl, HE3.out⟩
end Go.Proofs.YtnjpdchmdimaaaaGreat
