/- slices.Clone, slices.Delete at rows of a ledger. -/
import Derived.Test.YtnjpdchmdimaaaaGreatQLhb
import Derived.Great.BuildSlice
import Derived.Lib.SliceRun
namespace Go.Proofs.YtnjpdchmdimaaaaGreat
open Go.ChangeShapes Go.WideShapes Go.ChangeAt Go.RowKit Go.Shelf

theorem fill_two (a b : Nat) : Instr.fill (fun i => some (i * 4, 4)) ((Array.range (2 * 4)).map ((wv 0).cells[· % (wv 0).cells.size]!)) [(0, wv a), (1, wv b)] = some (wc a ++ wc b) := by kernel_rfl
set_option maxRecDepth 100000 in
theorem wpList_build_two {ops : Array Oper} {rest : List Oper} {o : Oper} {a : Act} {w : World} {Q : Exit → Act → World → Prop} (hg : o.guard = none) (x y : Operand) (ho : o.op = .buildSlice 168 2 #[(0, x), (1, y)]) (n m : Nat) (hx : a.eval x = wv n) (hy : a.eval y = wv m)
  (h : wpList Tryz.prog ops Q rest (a.put o.dst (.slice (some ⟨w.heap.size, 0, none⟩) 2 2)) (w.alloc (.cells (wc n ++ wc m) 75))) : wpList Tryz.prog ops Q (o :: rest) a w := by
 obtain ⟨i0, hi, hz0, hz1, hz2⟩ := info_parts winfo3
 refine wpList_buildSlice hg 168 75 2 _ ho (wc n ++ wc m) i0 (wv 0) Tryz.underlying168 hi hz0 (by rw [hz1]; decide) (by rw [hz1]; decide) ?_ h
 rw [hz1]
 have e : (#[(0, x), (1, y)].map fun (i, x) => (i, a.eval x)).toList = [(0, wv n), (1, wv m)] := by simp [hx, hy]
 rw [e]
 exact fill_two n m
theorem Ws.rsL {W : World} {v : Value} {l : List Nat} (h : Ws W v l) : Rs W 4 v l.length (wcs l) := by
 obtain ⟨A, c, e, h1, h2, h3, h4⟩ := h
 refine ⟨wcs_length l, A, c, e, h1, h2, fun hp => ?_⟩
 obtain ⟨b, o, ea, hc⟩ := h3 hp
 refine ⟨b, o, ea, fun i u hu => ?_⟩
 have hi : i < l.length * 4 := by rw [← wcs_length]; exact (List.getElem?_eq_some_iff.1 hu).1
 have e1 : i / 4 * 4 + i % 4 = i := by omega
 have hg := wcs_get l (i / 4) (i % 4) (by omega) (by omega)
 rw [e1, hu] at hg
 rw [Option.some.inj hg, show o + i = o + i / 4 * 4 + i % 4 by omega]
 exact hc _ (by omega) _ (by omega)
theorem wcs_appL (l m : List Nat) : wcs (l ++ m) = wcs l ++ wcs m := by simp [wcs]
set_option maxRecDepth 100000 in
set_option maxHeartbeats 1000000 in
theorem cloneWL_any (mv : Value) (more : List Nat) (w : World) (hm : Ws w mv more) (hl : more.length ≤ 100000) : Calls Tryz.prog 125 #[mv] w fun e w' => ∃ v, e = .returned v ∧ w'.ownsRow w.heap.size 75 4 v more.length (wcs more) ∧ Ext w w' := by
 have HR := Lib.hid hm.rsL
 obtain ⟨A, c, rfl, h1, h2, h3, h4⟩ := hm
 clear h4
 have hnil := fun (w : World) (n : Nat) => Lib.run_eql_slice_nil (P := Tryz.prog) w 168 75 A n c 0 0 Tryz.underlying168
 cases A with
 | none =>
  have h0 : more = [] := by
   cases more with
   | nil => rfl
   | cons x l =>
    obtain ⟨b, o, e, _⟩ := h3 (by simp)
    cases e
  subst h0
  clear h3
  go_enter Tryz.func125, Tryz.ntmps125
  go_wp2_with fail
  go_ret
  exact ⟨_, rfl, World.ownsRow_nil _ _ _ _, Ext.refl _⟩
 | some ad =>
  clear h3
  have HO : Hid ((w.alloc (.cells #[] 75)).ownsRow w.heap.size 75 4 (.slice (some ⟨w.heap.size, 0, none⟩) 0 0) 0 []) := Lib.hid ⟨by simp, .inr ⟨w.heap.size, 0, #[], rfl, Nat.le_refl _, heap_alloc_new _ _, Nat.le_refl _, by unfold maxLen; omega, by simp, by simp⟩⟩
  go_enter Tryz.func125, Tryz.ntmps125
  go_wp2_with (first
   | (at_builtin; go_loud (refine wpList_append_row ?_ (.tmp 5) (.tmp 6) 168 rfl w.heap.size 75 Tryz.underlying168 _ 4 32 winfo3 rfl (by decide) _ 0 [] rfl HO.out _ more.length (wcs more) rfl (HR.out.ext ((Ext.refl w).alloc _)) (wcs_one more) (by omega) (by decide) (by simp) ?_; (exact rfl); intro v5 w5 o5 g5 b5; have O5 := Lib.hid o5; have E5 := Lib.hid (((Ext.refl w).alloc (.cells #[] 75)).grown (g := w.heap.size) g5 (Nat.le_refl _)); clear o5 g5 b5)))
  go_ret
  have := O5.out
  rw [Nat.zero_add, List.nil_append] at this
  exact ⟨_, rfl, this, E5.out⟩


def flatH (l : List Hd) : List Nat := l.flatMap fun h => [h.dep, h.stk]
theorem flatH_snoc (l : List Hd) (k : Nat) (h : k < l.length) : flatH (l.take (k + 1)) = flatH (l.take k) ++ [(l.getD k hz0).dep, (l.getD k hz0).stk] := by
 rw [List.take_succ_eq_append_getElem h]
 unfold flatH
 rw [List.flatMap_append, List.flatMap_cons, List.flatMap_nil, List.append_nil, List.getD_eq_getElem?_getD, List.getElem?_eq_getElem h, Option.getD_some]
theorem flatH_len (l : List Hd) : (flatH l).length = 2 * l.length := by
 induction l with
 | nil => rfl
 | cons x l ih => simp [flatH] at ih ⊢; omega
theorem flatH_lt {l : List Hd} (h : ∀ p ∈ l, p.ok) : ∀ x ∈ flatH l, x < M256 := by
 intro x hx
 obtain ⟨p, hp, hx⟩ := List.mem_flatMap.1 hx
 have := h p hp
 simp at hx
 rcases hx with rfl | rfl
 ·exact this.2.1
 ·exact this.2.2.1
def LsJ (w : World) (more : List Nat) (l : List Hd) (k : Nat) (rv : Value) (W : World) : Prop :=
 W.ownsRow (w.heap.size + 1) 75 4 rv (more.length + 2 * k) (wcs (more ++ flatH (l.take k))) ∧ Cs W w.heap.size 75 (wc 0) ∧ Ext w W
theorem LsJ.ext {w : World} {more : List Nat} {l : List Hd} {k : Nat} {rv : Value} {W W' : World} (h : LsJ w more l k rv W) (he : Ext W W') : LsJ w more l k rv W' := ⟨own_ext h.1 he, Cs.ext h.2.1 he, h.2.2.trans he⟩
theorem wcs_two (a b : Nat) : (wc a ++ wc b).toList = wcs [a, b] := by simp [wcs]
theorem rs_two {W : World} {g a b : Nat} (h : Cs W g 75 (wc a ++ wc b)) : Rs W 4 (.slice (some ⟨g, 0, none⟩) 2 2) 2 (wcs [a, b]) := ⟨by rw [wcs_length]; rfl, _, _, rfl, Nat.le_refl _, by unfold maxLen; omega, fun _ => ⟨g, 0, rfl, fun i z hz => by
 rw [Nat.zero_add]
 exact Cs.cell h i z (by rw [← wcs_two] at hz; rwa [Array.getElem?_toList] at hz)⟩⟩
set_option maxRecDepth 100000 in
set_option maxHeartbeats 4000000 in
theorem ledSum_any (v mv : Value) (l : List Hd) (more : List Nat) (w : World) (hs : Hds w v l) (hm : Ws w mv more) (hl : l.length ≤ 100000) (hml : more.length ≤ 100000) :
  Calls Tryz.prog 92 #[v, mv] w fun e w' => e = .returned (.tuple #[wv (sumW (more ++ flatH l)).1, .bool (sumW (more ++ flatH l)).2]) ∧ Ext w w' := by
 have HS := Lib.hid hs
 have HM := Lib.hid hm
 have HSW := Lib.hid (show ∀ x ∈ more ++ flatH l, x < M256 from fun x hx => by
  rcases List.mem_append.1 hx with hx | hx
  ·exact hm.lt x hx
  ·exact flatH_lt hs.oks x hx)
 obtain ⟨A1, c, rfl, h1, h2⟩ := hs.len
 unfold maxLen at h2
 obtain ⟨w0, hw0⟩ : ∃ w0, w.alloc (.cells (wc 0) 75) = w0 := ⟨_, rfl⟩
 have HG4 : Hid (Cs w0 w.heap.size 75 (wc 0)) := Lib.hid (by rw [← hw0]; exact Cs.new _ _ _ _ rfl)
 have HE0 : Hid (Ext w w0) := Lib.hid (by rw [← hw0]; exact (Ext.refl _).alloc _)
 have HB0 : Hid (w0.heap.size = w.heap.size + 1) := Lib.hid (by rw [← hw0, World.size_alloc])
 have HW0 := Lib.hid hw0
 clear hs hm hw0
 go_enter Tryz.func92, Tryz.ntmps92
 go_upto_region 1 with fail
 rw [show w.alloc (.cells #[.int .u64 0, .int .u64 0, .int .u64 0, .int .u64 0] 75) = w0 from HW0.out]
 clear HW0
 go_wp2_with fail
 refine (cloneWL_any mv more _ (HM.out.ext HE0.out) hml).mono ?_
 rintro e w1 ⟨v0, rfl, ho, he⟩
 have HJ0 : Hid (LsJ w more l 0 v0 w1) := Lib.hid ⟨by rw [HB0.out] at ho; simpa [flatH] using ho, Cs.ext HG4.out he, HE0.out.trans he⟩
 clear ho he HE0 HG4 HB0 HM
 go_wp2_with fail
 go_loopw [13, 6] (fun iv rv wr => ∃ k : Nat, k ≤ l.length ∧ iv = .int .i64 k ∧ Hid (LsJ w more l k rv wr)) (fun iv _ _ => l.length - (intOf iv).toNat)
 case atStart => exact ⟨0, by omega, rfl, HJ0⟩
 case round =>
  clear HJ0
  obtain ⟨k, hk, rfl, HJ⟩ := hrel
  by_cases hlt : k < l.length
  ·have hd : decide (k < l.length) = true := decide_eq_true hlt
   have hd2 : decide ((k : Int) < (l.length : Int)) = true := decide_eq_true (by omega)
   obtain ⟨bb, oo, rfl, hrg, hp⟩ := (HS.out.ext HJ.out.2.2).at k hlt
   have HR := Lib.hid hrg
   have HFL := Lib.hid (flatH_snoc l k hlt)
   clear hrg hp
   generalize l.getD k hz0 = p at *
   obtain ⟨pc, hpc⟩ : ∃ pc, hdc p = pc := ⟨_, rfl⟩
   have HPC := Lib.hid hpc
   have HPS := Lib.hid (show pc.size = 11 by rw [← hpc]; rfl)
   have HPO := Lib.hid (show pc.all (·.oneCell') = true by rw [← hpc]; exact hdc_one p)
   clear hpc
   go_upto_region 5 with (first
    | ((with_reducible refine wpList_load_hd ?_ (.tmp 15) ?_ (bb) (oo + k * 11) (p) ?_ ?_ ?_); (exact rfl); (exact rfl); (exact rfl); (exact HR.out); rw [HPC.out])
    | ((with_reducible refine wpList_store_agg ?_ ?_ 109 (.tmp 8) (.tmp 16) ?_ hdinfo wr.heap.size (hdc hz0) pc ?_ ?_ ?_ ?_ ?_ ?_ ?_); (exact rfl); (exact rfl); (exact rfl); (exact HPO.out); (exact rfl); (exact rfl); (exact Cs.new _ _ _ _ rfl); (exact rfl); (exact HPS.out); intro w4 k4 g4; have K4 := Lib.hid k4; have HX4 := Lib.hid (((Ext.refl wr).alloc _).grown g4 (Nat.le_refl _)); clear k4 g4))
   have KD := Lib.hid (show w4.rangeAt wr.heap.size 1 (wc p.dep).toList from Hb.dep (show Hb w4 wr.heap.size p by unfold Hb; rw [HPC.out]; exact K4.out))
   have KS := Lib.hid (show w4.rangeAt wr.heap.size 5 (wc p.stk).toList from Hb.stk (show Hb w4 wr.heap.size p by unfold Hb; rw [HPC.out]; exact K4.out))
   have HJ4 := Lib.hid (HJ.out.ext HX4.out)
   have HBS := Lib.hid (show w.heap.size + 1 ≤ w4.heap.size by have h1 := HX4.out.size; have h2 := HJ.out.1; have h3 := Cs.lt HJ.out.2.1; omega)
   obtain ⟨g8, hg8⟩ : ∃ g8, wr.heap.size = g8 := ⟨_, rfl⟩
   rw [hg8] at KD KS ⊢
   clear hg8 K4 HX4 HJ HR
   have HLN := Lib.hid (show more.length + 2 * k + 2 ≤ 1099511627776 by omega)
   obtain ⟨n0, hn0⟩ : ∃ n0, more.length + 2 * k = n0 := ⟨_, rfl⟩
   have HN0 := Lib.hid hn0
   go_wp2_with (first
    | ((with_reducible refine wpList_load_wordIn ?_ (.tmp 18) ?_ g8 1 (p.dep) ?_ ?_ ?_); (exact rfl); (exact rfl); (exact rfl); (exact KD.out))
    | ((with_reducible refine wpList_load_wordIn ?_ (.tmp 20) ?_ g8 5 (p.stk) ?_ ?_ ?_); (exact rfl); (exact rfl); (exact rfl); (exact KS.out))
    | ((with_reducible refine wpList_build_two ?_ (.tmp 19) (.tmp 21) ?_ p.dep p.stk ?_ ?_ ?_); (exact rfl); (exact rfl); (exact rfl); (exact rfl))
    | (at_builtin; go_loud (refine wpList_append_row ?_ (.tmp 17) (.tmp 22) 168 rfl (w.heap.size + 1) 75 Tryz.underlying168 _ 4 32 winfo3 rfl (by decide) u6 (more.length + 2 * k) _ rfl (own_ext HJ4.out.1 ((Ext.refl _).alloc _)) _ 2 (wcs [p.dep, p.stk]) rfl (rs_two (Cs.new _ _ _ _ rfl)) (wcs_one _) HLN.out (by decide) (by rw [World.size_alloc]; have := HBS.out; omega) ?_; (exact rfl); intro v5 w5 o5 g5 b5; have O5 := Lib.hid o5; have G5 := Lib.hid g5; clear o5 g5 b5)))
   refine ⟨⟨k + 1, by omega, by go_num, Lib.hid ?_⟩, by simp [intOf]; omega⟩
   have hx := (Ext.refl w4).alloc (.cells (wc p.dep ++ wc p.stk) 75)
   have ho4 := own_ext HJ4.out.1 hx
   refine ⟨?_, own_block ho4 G5.out (by omega) (Ext.block hx HJ4.out.2.1), Ext.appendR (HJ4.out.2.2.trans hx) (own_mono ho4 (by omega)) G5.out⟩
   have := O5.out
   rw [← wcs_appL, List.append_assoc, ← HFL.out] at this
   exact this
  ·obtain rfl : k = l.length := by omega
   have hd : decide (l.length < l.length) = false := decide_eq_false (by omega)
   have hd2 : decide ((l.length : Int) < (l.length : Int)) = false := decide_eq_false (by omega)
   have HJ2 : Hid (LsJ w more l l.length u6 wr) := HJ
   have HLS := Lib.hid (show (more ++ flatH l).length = more.length + 2 * l.length by rw [List.length_append, flatH_len])
   obtain ⟨all, hall⟩ : ∃ all, more ++ flatH l = all := ⟨_, rfl⟩
   have HO := Lib.hid (show wr.ownsRow (w.heap.size + 1) 75 4 u6 (more.length + 2 * l.length) (wcs all) by have := HJ.out.1; rw [List.take_length, hall] at this; exact this)
   have HALL := Lib.hid hall
   rw [hall] at HLS HSW
   clear hall
   have HWS := Lib.hid (own_ws HO.out HLS.out.symm HSW.out)
   go_wp2_with fail
   refine (sum_any u6 all _ HWS.out (by have := HLS.out; omega)).mono ?_
   rintro e w5 ⟨rfl, he⟩
   have HG := Lib.hid (Cs.ext HJ2.out.2.1 he)
   have HE := Lib.hid (HJ2.out.2.2.trans he)
   obtain ⟨s, hs⟩ : ∃ s, (sumW all).1 = s := ⟨_, rfl⟩
   obtain ⟨sb, hsb⟩ : ∃ sb, (sumW all).2 = sb := ⟨_, rfl⟩
   have HSS := Lib.hid (And.intro hs hsb)
   rw [hs, hsb]
   clear he hs hsb
   go_wp2_with ((with_reducible refine wpList_store_word rfl rfl 75 (.tmp 4) (.tmp 27) rfl winfo w.heap.size (wc 0) s ?_ ?_ ?_ ?_ ?_); (exact rfl); (exact rfl); (exact HG.out); (exact rfl); intro w6 k6 g6; have K6 := Lib.hid k6; have HE6 := Lib.hid (HE.out.grown g6 (Nat.le_refl _)); clear k6 g6)
   refine bodyPost_ret (results_word_tmp Tryz.results92 _ _ w.heap.size s rfl K6.out Tryz.underlying75 winfo) rfl ?_
   exact ⟨by rw [HALL.out, HSS.out.1, HSS.out.2]; rfl, HE6.out⟩
def lastA (l : List Hd) (k : Nat) : Nat := if k = 0 then 0 else (l.getD (k - 1) hz0).addr
def rgB (l : List Hd) (i : Nat) : Bool := decide (lastA l i < (l.getD i hz0).addr) && (l.getD i hz0).rowB
def rightG (l : List Hd) : Bool := decide (l.length ≤ 24) && ((List.range l.length).all (rgB l) && !(sumW (flatH l)).2)
def chkG (l : List Hd) : Int := if rightG l then 0 else 170
theorem chkG_long {l : List Hd} (h : ¬ l.length ≤ 24) : chkG l = 170 := by unfold chkG rightG; rw [decide_eq_false h]; rfl
theorem chkG_row {l : List Hd} (i : Nat) (hi : i < l.length) (h : rgB l i = false) : chkG l = 170 := by
 have : (List.range l.length).all (rgB l) = false := by
  cases hr : (List.range l.length).all (rgB l) with
  | false => rfl
  | true => rw [List.all_eq_true] at hr; rw [hr i (List.mem_range.2 hi)] at h; cases h
 unfold chkG rightG
 rw [this, Bool.false_and, Bool.and_false]
 rfl
theorem chkG_all {l : List Hd} (h1 : l.length ≤ 24) (h : ∀ i, i < l.length → rgB l i = true) : chkG l = if (sumW (flatH l)).2 then 170 else 0 := by
 have : (List.range l.length).all (rgB l) = true := by
  rw [List.all_eq_true]
  exact fun i hi => h i (List.mem_range.1 hi)
 unfold chkG rightG
 rw [this, decide_eq_true h1]
 cases (sumW (flatH l)).2 <;> rfl
theorem lastA_succ (l : List Hd) (k : Nat) : lastA l (k + 1) = (l.getD k hz0).addr := by unfold lastA; rw [if_neg (by omega)]; rfl
set_option maxRecDepth 100000 in
set_option maxHeartbeats 4000000 in
theorem ledCheck_any (v : Value) (l : List Hd) (w : World) (hs : Hds w v l) : Calls Tryz.prog 41 #[.agg #[v]] w fun e w' => e = .returned (.int .i64 (chkG l)) ∧ Ext w w' := by
 have HS := Lib.hid hs
 obtain ⟨A1, c, rfl, h1, h2⟩ := hs.len
 unfold maxLen at h2
 have HK : Hid (Cs (w.alloc (.cells #[.slice A1 l.length c] 27)) w.heap.size 27 #[.slice A1 l.length c]) := Lib.hid (Cs.new _ _ _ _ rfl)
 have HE := Lib.hid ((Ext.refl w).alloc (.cells #[.slice A1 l.length c] 27))
 have q1 := HK.out.cell 0 _ rfl
 clear hs
 go_enter Tryz.func41, Tryz.ntmps41
 by_cases e3 : l.length ≤ 24
 ·have hl1 : decide ((24 : Int) < (l.length : Int)) = false := decide_eq_false (by omega)
  have hl2 : decide (24 < l.length) = false := decide_eq_false (by omega)
  have HL := Lib.hid e3
  have hlb : (l.length : Int) ≤ 24 := by omega
  go_wp2_with fail
  clear q1
  go_loopw [15, 3] (fun iv av wr => ∃ k : Nat, k ≤ l.length ∧ iv = .int .i64 k ∧ av = .int .u64 (lastA l k : Nat) ∧ Hid ((∀ i, i < k → rgB l i = true) ∧ Cs wr w.heap.size 27 #[.slice A1 l.length c] ∧ Ext w wr)) (fun iv _ _ => l.length - (intOf iv).toNat)
  case atStart => exact ⟨0, by omega, rfl, rfl, Lib.hid ⟨fun i hi => absurd hi (by omega), HK.out, HE.out⟩⟩
  case round =>
   clear HK HE
   obtain ⟨k, hk, rfl, rfl, HJ⟩ := hrel
   by_cases hlt : k < l.length
   ·have hd : decide (k < l.length) = true := decide_eq_true hlt
    have hd2 : decide ((k : Int) < (l.length : Int)) = true := decide_eq_true (by omega)
    obtain ⟨bb, oo, rfl, hrg, hp⟩ := (HS.out.ext HJ.out.2.2).at k hlt
    have HR := Lib.hid hrg
    have HPK := Lib.hid hp
    have HRG := Lib.hid (show rgB l k = (decide (lastA l k < (l.getD k hz0).addr) && (l.getD k hz0).rowB) from rfl)
    have HLA := Lib.hid (lastA_succ l k)
    clear hrg hp
    generalize l.getD k hz0 = p at *
    obtain ⟨la, hla⟩ : ∃ la, lastA l k = la := ⟨_, rfl⟩
    rw [hla] at HRG ⊢
    clear hla
    obtain ⟨pc, hpc⟩ : ∃ pc, hdc p = pc := ⟨_, rfl⟩
    have HPC := Lib.hid hpc
    have HPS := Lib.hid (show pc.size = 11 by rw [← hpc]; rfl)
    have HPO := Lib.hid (show pc.all (·.oneCell') = true by rw [← hpc]; exact hdc_one p)
    clear hpc
    go_upto_region 7 with (first
     | ((with_reducible refine wpList_load_hd ?_ (.tmp 17) ?_ (bb) (oo + k * 11) (p) ?_ ?_ ?_); (exact rfl); (exact rfl); (exact rfl); (exact HR.out); rw [HPC.out])
     | ((with_reducible refine wpList_store_agg ?_ ?_ 109 (.tmp 5) (.tmp 18) ?_ hdinfo wr.heap.size (hdc hz0) pc ?_ ?_ ?_ ?_ ?_ ?_ ?_); (exact rfl); (exact rfl); (exact rfl); (exact HPO.out); (exact rfl); (exact rfl); (exact Cs.new _ _ _ _ rfl); (exact rfl); (exact HPS.out); intro w4 k4 g4; have K4 := Lib.hid k4; have HX4 := Lib.hid (((Ext.refl wr).alloc _).grown g4 (Nat.le_refl _)); clear k4 g4))
    have K5 := Lib.hid (show Hb w4 wr.heap.size p by unfold Hb; rw [HPC.out]; exact K4.out)
    have k5 := K5.out.addr
    have KR := Lib.hid (Cs.rg K5.out)
    have HE4 := Lib.hid (HJ.out.2.2.trans HX4.out)
    have HC4 := Lib.hid (Cs.ext HJ.out.2.1 HX4.out)
    have HJA := Lib.hid HJ.out.1
    obtain ⟨g5, hg5⟩ : ∃ g5, wr.heap.size = g5 := ⟨_, rfl⟩
    rw [hg5] at K5 k5 KR ⊢
    clear hg5 K4 HX4 HJ HR HPC HPS HPO
    by_cases hla : p.addr ≤ la
    ·have e1 : decide ((p.addr : Int) ≤ (la : Int)) = true := decide_eq_true (by omega)
     have e2 : decide (p.addr ≤ la) = true := decide_eq_true hla
     have HF := Lib.hid (chkG_row k hlt (by rw [HRG.out, decide_eq_false (by omega)]; rfl))
     clear hla
     go_wp2_with fail
     refine bodyPost_ret (results_tmp rfl _ _ _) rfl ?_
     exact ⟨by rw [HF.out]; rfl, HE4.out⟩
    ·have e1 : decide ((p.addr : Int) ≤ (la : Int)) = false := decide_eq_false (by omega)
     have e2 : decide (p.addr ≤ la) = false := decide_eq_false hla
     have HLT := Lib.hid (show la < p.addr by omega)
     clear hla
     go_wp2_with ((with_reducible refine wpList_load_hd ?_ (.tmp 5) ?_ (g5) (0) (p) ?_ ?_ ?_); (exact rfl); (exact rfl); (exact rfl); (exact KR.out))
     refine (mayBeH_any p _ HPK.out).mono ?_
     rintro e w5 ⟨rfl, he⟩
     have HE5 := Lib.hid (HE4.out.trans he)
     have HC5 := Lib.hid (Cs.ext HC4.out he)
     have k6 := he.cell k5
     clear he k5 HE4 HC4
     cases hrb : p.rowB with
     | false =>
      have HF := Lib.hid (chkG_row k hlt (by rw [HRG.out, hrb, Bool.and_false]))
      clear hrb
      go_wp2_with fail
      refine bodyPost_ret (results_tmp rfl _ _ _) rfl ?_
      exact ⟨by rw [HF.out]; rfl, HE5.out⟩
     | true =>
      have HT := Lib.hid (show rgB l k = true by rw [HRG.out, hrb, decide_eq_true HLT.out]; rfl)
      clear hrb
      go_wp2_with fail
      refine ⟨⟨k + 1, by omega, by go_num, by rw [HLA.out], Lib.hid ⟨fun i hi => ?_, HC5.out, HE5.out⟩⟩, by simp [intOf]; omega⟩
      by_cases hik : i = k
      ·subst hik; exact HT.out
      ·exact HJA.out i (by omega)
   ·obtain rfl : k = l.length := by omega
    have hd : decide (l.length < l.length) = false := decide_eq_false (by omega)
    have hd2 : decide ((l.length : Int) < (l.length : Int)) = false := decide_eq_false (by omega)
    have q2 := HJ.out.2.1.cell 0 _ rfl
    have HF := Lib.hid (chkG_all HL.out HJ.out.1)
    have HJE := Lib.hid HJ.out.2.2
    clear HJ
    go_wp2_with fail
    refine (ledSum_any _ (.slice none 0 0) l [] _ (HS.out.ext HJE.out) ⟨none, 0, rfl, Nat.le_refl _, Nat.zero_le _, fun h => absurd h (by simp), fun x hx => nomatch hx⟩ (by omega) (by simp)).mono ?_
    rintro e w5 ⟨rfl, he⟩
    rw [List.nil_append]
    have HE5 := Lib.hid (HJE.out.trans he)
    clear he HJE q2
    obtain ⟨s, hs⟩ : ∃ s, (sumW (flatH l)).1 = s := ⟨_, rfl⟩
    rw [hs]
    clear hs
    cases hb : (sumW (flatH l)).2 with
    | false =>
     rw [hb] at HF
     clear hb
     go_wp2_with ((with_reducible refine wpList_store_word rfl rfl 75 (.tmp 6) (.tmp 35) rfl winfo w5.heap.size (wc 0) s ?_ ?_ ?_ ?_ ?_); (exact rfl); (exact rfl); (exact Cs.new _ _ _ _ rfl); (exact rfl); intro w6 k6 g6; have HE6 := Lib.hid (HE5.out.trans (((Ext.refl w5).alloc _).grown g6 (Nat.le_refl _))); clear k6 g6)
     go_ret
     exact ⟨by rw [HF.out]; rfl, HE6.out⟩
    | true =>
     rw [hb] at HF
     clear hb
     go_wp2_with ((with_reducible refine wpList_store_word rfl rfl 75 (.tmp 6) (.tmp 35) rfl winfo w5.heap.size (wc 0) s ?_ ?_ ?_ ?_ ?_); (exact rfl); (exact rfl); (exact Cs.new _ _ _ _ rfl); (exact rfl); intro w6 k6 g6; have HE6 := Lib.hid (HE5.out.trans (((Ext.refl w5).alloc _).grown g6 (Nat.le_refl _))); clear k6 g6)
     go_ret
     exact ⟨by rw [HF.out]; rfl, HE6.out⟩
 ·have hl1 : decide ((24 : Int) < (l.length : Int)) = true := decide_eq_true (by omega)
  have hl2 : decide (24 < l.length) = true := decide_eq_true (by omega)
  have HF := Lib.hid (chkG_long e3)
  clear e3
  go_wp2_with fail
  go_ret
  exact ⟨by rw [HF.out]; rfl, HE.out⟩
end Go.Proofs.YtnjpdchmdimaaaaGreat
namespace Go.Proofs.YtnjpdchmdimaaaaGreat
open Go.ChangeShapes Go.WideShapes Go.ChangeAt Go.RowKit Go.Shelf

end Go.Proofs.YtnjpdchmdimaaaaGreat
namespace Go.Proofs.YtnjpdchmdimaaaaGreat
open Go.ChangeShapes Go.WideShapes Go.ChangeAt Go.RowKit Go.Shelf
theorem flat_invL {s : Nat} (hs : 0 < s) : ∀ (css : List (List Value)), (∀ cs ∈ css, cs.length = s) → ∀ (i : Nat) (u : Value), css.flatten[i]? = some u → ∃ cs, css[i / s]? = some cs ∧ cs[i % s]? = some u
 | [], _, i, u, h => by simp at h
 | c :: css, hc, i, u, h => by
  have hl := hc c List.mem_cons_self
  rw [List.flatten_cons] at h
  by_cases hi : i < s
  ·rw [List.getElem?_append_left (by omega)] at h
   rw [Nat.div_eq_of_lt hi, Nat.mod_eq_of_lt hi]
   exact ⟨c, rfl, h⟩
  ·rw [List.getElem?_append_right (by omega), hl] at h
   obtain ⟨cs, h1, h2⟩ := flat_invL hs css (fun x hx => hc x (List.mem_cons_of_mem _ hx)) _ _ h
   have e1 : i / s = (i - s) / s + 1 := by
    conv => lhs; rw [show i = (i - s) + s by omega]
    exact Nat.add_div_right _ hs
   have e2 : i % s = (i - s) % s := by
    conv => lhs; rw [show i = (i - s) + s by omega]
    exact Nat.add_mod_right _ _
   rw [e1, e2]
   exact ⟨cs, h1, h2⟩
theorem Sl.rsL {α : Type} {W : World} {s : Nat} (hs : 0 < s) {Rd : List Value → α → Prop} (f : α → List Value) (hf : ∀ x, (f x).length = s) (hR : ∀ cs x, Rd cs x → cs = f x) {v : Value} {l : List α} (h : Sl W s Rd v l) : Rs W s v l.length (l.map f).flatten := by
 obtain ⟨A, c, e, h1, h2, h3⟩ := h
 have hlen : (l.map f).flatten.length = l.length * s := by
  rw [flat_len (l.map f) (by intro cs hc; obtain ⟨x, _, rfl⟩ := List.mem_map.1 hc; exact hf x), List.length_map]
 refine ⟨hlen, A, c, e, h1, h2, fun hp => ?_⟩
 obtain ⟨b, o, ea, hc⟩ := h3 hp
 refine ⟨b, o, ea, fun i u hu => ?_⟩
 obtain ⟨cs, k1, k2⟩ := flat_invL hs (l.map f) (by intro cs hc; obtain ⟨x, _, rfl⟩ := List.mem_map.1 hc; exact hf x) i u hu
 rw [List.getElem?_map] at k1
 obtain ⟨x, k3, rfl⟩ := Option.map_eq_some_iff.1 k1
 obtain ⟨cs', _, k5, k6⟩ := hc _ _ k3
 obtain rfl := hR _ _ k5
 have := k6 _ _ k2
 rwa [show o + i / s * s + i % s = o + i by have := Nat.div_add_mod' i s; omega] at this

def hdf (l : List Hd) : List Value := (l.map fun p => (hdc p).toList).flatten
theorem Hds.rs {W : World} {v : Value} {l : List Hd} (h : Hds W v l) : Rs W 11 v l.length (hdf l) := Sl.rsL (by decide) (fun p => (hdc p).toList) (fun _ => rfl) (fun _ _ h => h.2) h
theorem hdf_one (l : List Hd) : ∀ u ∈ hdf l, u.oneCell' = true := by
 intro u hu
 obtain ⟨cs, hcs, hu⟩ := List.mem_flatten.1 hu
 obtain ⟨p, _, rfl⟩ := List.mem_map.1 hcs
 exact hdc_ones p u hu
def OwnH (W : World) (base : Nat) (v : Value) (l : List Hd) : Prop := W.ownsRow base 109 11 v l.length (hdf l) ∧ ∀ p ∈ l, p.ok
theorem OwnH.ext {W W' : World} {base : Nat} {v : Value} {l : List Hd} (h : OwnH W base v l) (he : Ext W W') : OwnH W' base v l := ⟨own_ext h.1 he, h.2⟩
theorem OwnH.mono {W : World} {base base' : Nat} {v : Value} {l : List Hd} (h : OwnH W base v l) (hb : base' ≤ base) : OwnH W base' v l := ⟨own_mono h.1 hb, h.2⟩
theorem OwnH.rowO {W : World} {base : Nat} {v : Value} {l : List Hd} (h : OwnH W base v l) : RowO 109 11 (fun _ => HdR) No base W v l :=
 ⟨l.map fun p => (hdc p).toList, by simp, by intro cs hc; obtain ⟨p, _, rfl⟩ := List.mem_map.1 hc; rfl, h.1, fun i cs x hc hx => Far.true _ _ _ fun W => by
  rw [List.getElem?_map, hx] at hc
  simp at hc
  have := h.2 x (List.mem_of_getElem? hx)
  exact ⟨this, hc.symm⟩⟩
theorem OwnH.hds {W : World} {base : Nat} {v : Value} {l : List Hd} (h : OwnH W base v l) : Hds W v l := h.rowO.sl
theorem OwnH.nil (W : World) (base : Nat) : OwnH W base (.slice none 0 0) [] := ⟨World.ownsRow_nil _ _ _ _, fun _p hp => nomatch hp⟩
set_option maxRecDepth 100000 in
set_option maxHeartbeats 1000000 in
theorem cloneH_any (mv : Value) (l : List Hd) (w : World) (hm : Hds w mv l) (hl : l.length ≤ 100000) : Calls Tryz.prog 60 #[mv] w fun e w' => ∃ v, e = .returned v ∧ OwnH w' w.heap.size v l ∧ Ext w w' := by
 have HR := Lib.hid hm.rs
 have HK := Lib.hid hm.oks
 obtain ⟨A, c, rfl, h1, h2, h3⟩ := hm
 have hnil := fun (w : World) (n : Nat) => Lib.run_eql_slice_nil (P := Tryz.prog) w 25 109 A n c 0 0 Tryz.underlying25
 cases A with
 | none =>
  have h0 : l = [] := by
   cases l with
   | nil => rfl
   | cons x l =>
    obtain ⟨b, o, e, _⟩ := h3 (by simp)
    cases e
  subst h0
  clear h3
  go_enter Tryz.func60, Tryz.ntmps60
  go_wp2_with fail
  go_ret
  exact ⟨_, rfl, OwnH.nil _ _, Ext.refl _⟩
 | some ad =>
  clear h3
  have HO : Hid ((w.alloc (.cells #[] 109)).ownsRow w.heap.size 109 11 (.slice (some ⟨w.heap.size, 0, none⟩) 0 0) 0 []) := Lib.hid ⟨by simp, .inr ⟨w.heap.size, 0, #[], rfl, Nat.le_refl _, heap_alloc_new _ _, Nat.le_refl _, by unfold maxLen; omega, by simp, by simp⟩⟩
  go_enter Tryz.func60, Tryz.ntmps60
  go_wp2_with (first
   | (at_builtin; go_loud (refine wpList_append_row ?_ (.tmp 5) (.tmp 6) 25 rfl w.heap.size 109 Tryz.underlying25 _ 11 88 hdinfo3 rfl (by decide) _ 0 [] rfl HO.out _ l.length (hdf l) rfl (HR.out.ext ((Ext.refl w).alloc _)) (hdf_one l) (by omega) (by decide) (by simp) ?_; (exact rfl); intro v5 w5 o5 g5 b5; have O5 := Lib.hid o5; have E5 := Lib.hid (((Ext.refl w).alloc (.cells #[] 109)).grown (g := w.heap.size) g5 (Nat.le_refl _)); clear o5 g5 b5)))
  go_ret
  have := O5.out
  rw [Nat.zero_add, List.nil_append] at this
  exact ⟨_, rfl, ⟨this, HK.out⟩, E5.out⟩

end Go.Proofs.YtnjpdchmdimaaaaGreat
