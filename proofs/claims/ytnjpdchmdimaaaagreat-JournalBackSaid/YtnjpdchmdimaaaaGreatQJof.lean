/- Package journal: the laws' above, does. -/
import Derived.Test.YtnjpdchmdimaaaaGreatQJoc
import Derived.Test.YtnjpdchmdimaaaaGreatQJod
namespace Go.Proofs.YtnjpdchmdimaaaaGreat
open Go.ChangeShapes Go.WideShapes Go.ChangeAt Go.RowKit Go.Shelf

def kdS (s : Sp) : Int := (IntKind.u64.wrap s.k).tmod 5
theorem kdS_cases (s : Sp) : kdS s = 0 ∨ kdS s = 1 ∨ kdS s = 2 ∨ kdS s = 3 ∨ kdS s = 4 := by
 have h : ∃ n : Nat, IntKind.u64.wrap s.k = (n : Int) := ⟨(IntKind.u64.wrap s.k).toNat, by
  rw [Int.toNat_of_nonneg]
  simp only [IntKind.wrap, IntKind.signed, IntKind.bits]
  first | exact Int.emod_nonneg _ (by decide) | (split <;> first | exact Int.emod_nonneg _ (by decide) | omega)⟩
 obtain ⟨n, hn⟩ := h
 unfold kdS
 rw [hn]
 have : ((n : Int)).tmod 5 = ((n % 5 : Nat) : Int) := by rw [Int.tmod_eq_emod_of_nonneg (by omega)]; omega
 rw [this]
 omega
def abvB (s : Sp) (m : Int) : Bool := if kdS s = 1 ∨ kdS s = 2 then decide (m ≤ s.n) else true
def doJ (s : Sp) (j : Jn) : Jn × Int × Int :=
 if kdS s = 0 then markJ j else if kdS s = 1 then ((backJ j s.n).1, 0, (backJ j s.n).2) else if kdS s = 2 then ((keepJ j s.n).1, 0, (keepJ j s.n).2) else if kdS s = 3 then ((layJ j s.w).1, 0, (layJ j s.w).2) else ((tchJ j s.x).1, 0, (tchJ j s.x).2)
set_option maxRecDepth 100000 in
set_option maxHeartbeats 8000000 in
theorem above_any (s : Sp) (su sv sz sa ss sq : Value) (m : Int) (w : World) (_ho : (#[.int .i64 s.k, .int .i64 s.n, su, sv, sz, sa, ss, sq] : Array Value).all (·.oneCell') = true) :
  Calls Tryz.prog 70 #[.agg #[.int .i64 s.k, .int .i64 s.n, su, sv, sz, sa, ss, sq], .int .i64 m] w fun e w' => e = .returned (.bool (abvB s m)) ∧ Ext w w' := by
 obtain ⟨w0, hw0⟩ : ∃ w0, w.alloc (.cells #[.int .i64 s.k, .int .i64 s.n, su, sv, sz, sa, ss, sq] 61) = w0 := ⟨_, rfl⟩
 have HC : Hid (Cs w0 w.heap.size 61 #[.int .i64 s.k, .int .i64 s.n, su, sv, sz, sa, ss, sq]) := Lib.hid (by rw [← hw0]; exact Cs.new _ _ _ _ rfl)
 have HE : Hid (Ext w w0) := Lib.hid (by rw [← hw0]; exact (Ext.refl w).alloc _)
 have HW0 := Lib.hid hw0
 have HK := Lib.hid (kdS_cases s)
 have HDF : Hid (abvB s m = if kdS s = 1 ∨ kdS s = 2 then decide (m ≤ s.n) else true) := Lib.hid rfl
 clear hw0
 go_enter Tryz.func70, Tryz.ntmps70
 go_upto_region 1 with fail
 rw [HW0.out]
 clear HW0
 have q0 := HC.out.cell 0 _ rfl
 have q1 := HC.out.cell 1 _ rfl
 go_upto_region 2 with fail
 rw [show (IntKind.u64.wrap s.k).tmod 5 = kdS s from rfl]
 rcases HK.out with hk | hk | hk | hk | hk
 ·have HF := Lib.hid (show abvB s m = true by rw [HDF.out, if_neg (by rw [hk]; decide)])
  rw [hk]
  clear hk HDF
  go_wp2_with fail
  refine bodyPost_ret (results_tmp rfl _ _ _) rfl ?_
  exact ⟨by rw [HF.out]; rfl, HE.out⟩
 ·have HF := Lib.hid (show abvB s m = decide (m ≤ s.n) by rw [HDF.out, if_pos (by rw [hk]; decide)])
  rw [hk]
  clear hk HDF
  go_wp2_with fail
  refine bodyPost_ret (results_tmp rfl _ _ _) rfl ?_
  exact ⟨by rw [HF.out]; rfl, HE.out⟩
 ·have HF := Lib.hid (show abvB s m = decide (m ≤ s.n) by rw [HDF.out, if_pos (by rw [hk]; decide)])
  rw [hk]
  clear hk HDF
  go_wp2_with fail
  refine bodyPost_ret (results_tmp rfl _ _ _) rfl ?_
  exact ⟨by rw [HF.out]; rfl, HE.out⟩
 ·have HF := Lib.hid (show abvB s m = true by rw [HDF.out, if_neg (by rw [hk]; decide)])
  rw [hk]
  clear hk HDF
  go_wp2_with fail
  refine bodyPost_ret (results_tmp rfl _ _ _) rfl ?_
  exact ⟨by rw [HF.out]; rfl, HE.out⟩
 ·have HF := Lib.hid (show abvB s m = true by rw [HDF.out, if_neg (by rw [hk]; decide)])
  rw [hk]
  clear hk HDF
  go_wp2_with fail
  refine bodyPost_ret (results_tmp rfl _ _ _) rfl ?_
  exact ⟨by rw [HF.out]; rfl, HE.out⟩
set_option maxRecDepth 100000 in
set_option maxHeartbeats 8000000 in
theorem doesJ_any (s : Sp) (su sv sz sa ss sq xu xv xz xa xs xq xm : Value) (j : Jn) (w : World) (hs : WoR w su sv sz s.w ∧ AxR w sa ss sq s.x) (hsz : SzW s.w) (hx : WoR w xu xv xz j.p.w ∧ AxR w xa xs xq j.p.x ∧ Pos w xm j.m) (hz : SzJ j) :
  Calls Tryz.prog 23 #[.agg #[.int .i64 s.k, .int .i64 s.n, su, sv, sz, sa, ss, sq], .agg #[xu, xv, xz, xa, xs, xq, xm]] w fun e w' => ∃ v', e = .returned (.tuple #[v', .int .i64 (doJ s j).2.1, .int .i64 (doJ s j).2.2]) ∧ RetJn w.heap.size w' v' (doJ s j).1 ∧ Ext w w' := by
 obtain ⟨AM, nM, rfl, _, _⟩ := hx.2.2.len
 have HS := Lib.hid hs
 have HSZ := Lib.hid hsz
 have HX := Lib.hid hx
 have HZ := Lib.hid hz
 have ho1 : (#[.int .i64 s.k, .int .i64 s.n, su, sv, sz, sa, ss, sq] : Array Value).all (·.oneCell') = true := by
  obtain ⟨y1, y2, y3⟩ := axr_one hs.2
  simp [acs_one hs.1.1, hds_one hs.1.2.1, nns_one hs.1.2.2, y1, y2, y3]
  exact ⟨rfl, rfl⟩
 have ho2 : (#[xu, xv, xz, xa, xs, xq, .slice AM j.m.length nM] : Array Value).all (·.oneCell') = true := by
  obtain ⟨y1, y2, y3⟩ := axr_one hx.2.1
  simp [acs_one hx.1.1, hds_one hx.1.2.1, nns_one hx.1.2.2, y1, y2, y3]
  rfl
 have HO2 := Lib.hid ho2
 obtain ⟨w0, hw0⟩ : ∃ w0, ((w.alloc (.cells #[.int .i64 s.k, .int .i64 s.n, su, sv, sz, sa, ss, sq] 61)).alloc (.cells #[xu, xv, xz, xa, xs, xq, .slice AM j.m.length nM] 40)).alloc (.cells #[.slice none 0 0, .slice none 0 0, .slice none 0 0, .slice none 0 0, .slice none 0 0, .slice none 0 0, .slice none 0 0] 40) = w0 := ⟨_, rfl⟩
 have HC2 : Hid (Cs w0 w.heap.size 61 #[.int .i64 s.k, .int .i64 s.n, su, sv, sz, sa, ss, sq]) := Lib.hid (by rw [← hw0]; exact Cs.alloc (Cs.alloc (Cs.new _ _ _ _ rfl) _) _)
 have HC3 : Hid (Cs w0 (w.heap.size + 1) 40 #[xu, xv, xz, xa, xs, xq, .slice AM j.m.length nM]) := Lib.hid (by rw [← hw0]; exact Cs.alloc (Cs.new _ _ _ _ (by simp)) _)
 have HC4 : Hid (Cs w0 (w.heap.size + 1 + 1) 40 #[.slice none 0 0, .slice none 0 0, .slice none 0 0, .slice none 0 0, .slice none 0 0, .slice none 0 0, .slice none 0 0]) := Lib.hid (by rw [← hw0]; exact Cs.new _ _ _ _ (by simp))
 have HE : Hid (Ext w w0) := Lib.hid (by rw [← hw0]; exact (((Ext.refl w).alloc _).alloc _).alloc _)
 have HG := Lib.hid (show w.heap.size + 1 + 1 < w0.heap.size from HC4.out.lt)
 have HW0 := Lib.hid hw0
 have HK := Lib.hid (kdS_cases s)
 have HDF : Hid (doJ s j = if kdS s = 0 then markJ j else if kdS s = 1 then ((backJ j s.n).1, 0, (backJ j s.n).2) else if kdS s = 2 then ((keepJ j s.n).1, 0, (keepJ j s.n).2) else if kdS s = 3 then ((layJ j s.w).1, 0, (layJ j s.w).2) else ((tchJ j s.x).1, 0, (tchJ j s.x).2)) := Lib.hid rfl
 clear hs hsz hx hz hw0
 go_enter Tryz.func23, Tryz.ntmps23
 go_upto_region 1 with fail
 rw [HW0.out]
 clear HW0 ho1 ho2
 have RJ : Hid (w0.rangeAt (w.heap.size + 1) 0 [xu, xv, xz, xa, xs, xq, .slice AM j.m.length nM]) := Lib.hid (Cs.rg HC3.out)
 have RW : Hid (w0.rangeAt w.heap.size 2 [su, sv, sz]) := Lib.hid (rg_part (cs := [.int .i64 s.k, .int .i64 s.n, su, sv, sz, sa, ss, sq]) (o := 0) 2 (Cs.rg HC2.out) (fun j y hy => by rcases j with _ | _ | _ | j; all_goals first | exact hy | (simp at hy)))
 have RX : Hid (w0.rangeAt w.heap.size 5 [sa, ss, sq]) := Lib.hid (rg_part (cs := [.int .i64 s.k, .int .i64 s.n, su, sv, sz, sa, ss, sq]) (o := 0) 5 (Cs.rg HC2.out) (fun j y hy => by rcases j with _ | _ | _ | j; all_goals first | exact hy | (simp at hy)))
 have q0 := HC2.out.cell 0 _ rfl
 have q1 := HC2.out.cell 1 _ rfl
 go_upto_region 5 with fail
 rw [show (IntKind.u64.wrap s.k).tmod 5 = kdS s from rfl]
 rcases HK.out with hk | hk | hk | hk | hk
 ·have HF := Lib.hid (show doJ s j = markJ j by rw [HDF.out, if_pos hk])
  rw [hk]
  clear hk HDF
  go_wp2_with ((with_reducible refine wpList_loadJn ?_ (.tmp 3) ?_ (w.heap.size + 1) 0 xu xv xz xa xs xq (.slice AM j.m.length nM) ?_ ?_ ?_); (exact rfl); (exact rfl); (exact rfl); (exact RJ.out))
  refine (markJ_any _ _ _ _ _ _ AM nM j _ ⟨HX.out.1.ext HE.out, HX.out.2.1.ext HE.out, HX.out.2.2.ext HE.out⟩ HZ.out).mono ?_
  rintro e w5 ⟨v5, rfl, ho, he⟩
  obtain ⟨r, hr⟩ : ∃ r, markJ j = r := ⟨_, rfl⟩
  rw [hr] at ho HF ⊢
  clear hr
  obtain ⟨a5, b5, c5, d5, x5, y5, m5, rfl, ho⟩ := retJn_shp ho
  have HR5 := Lib.hid ho
  have HC3 := Lib.hid (Cs.ext HC3.out he)
  have HC4 := Lib.hid (Cs.ext HC4.out he)
  have HE := Lib.hid (HE.out.trans he)
  clear ho he RJ RW RX q0 q1
  have HJN : Hid (RetJn w0.heap.size w5 (.agg #[a5, b5, c5, d5, x5, y5, m5]) r.1) := HR5
  have HON := Lib.hid HJN.out.one
  go_wp2_with (first
   | ((with_reducible refine wpList_storeJn ?_ ?_ (.tmp 3) (.tmp 25) ?_ (w.heap.size + 1) xu xv xz xa xs xq (.slice AM j.m.length nM) a5 b5 c5 d5 x5 y5 m5 ?_ ?_ HON.out HC3.out ?_); (exact rfl); (exact rfl); (exact rfl); (exact rfl); (exact rfl); intro w6 k6 g6; have K6 := Lib.hid k6; have RJ6 : Hid (w6.rangeAt (w.heap.size + 1) 0 [a5, b5, c5, d5, x5, y5, m5]) := Lib.hid (Cs.rg k6); have HJ6 := Lib.hid (HJN.out.old g6 (by have := HG.out; omega)); have HC6 := Lib.hid (Cs.kept HC4.out g6 (fun e => absurd (Option.some.inj e) (by omega))); have HE6 := Lib.hid (HE.out.grown g6 (by omega)); clear k6 g6)
   | ((with_reducible refine wpList_loadJn ?_ (.tmp 3) ?_ (w.heap.size + 1) 0 a5 b5 c5 d5 x5 y5 m5 ?_ ?_ ?_); (exact rfl); (exact rfl); (exact rfl); (exact RJ6.out))
   | ((with_reducible refine wpList_storeJn ?_ ?_ (.tmp 4) (.tmp 55) ?_ (w.heap.size + 1 + 1) (.slice none 0 0) (.slice none 0 0) (.slice none 0 0) (.slice none 0 0) (.slice none 0 0) (.slice none 0 0) (.slice none 0 0) a5 b5 c5 d5 x5 y5 m5 ?_ ?_ HON.out HC6.out ?_); (exact rfl); (exact rfl); (exact rfl); (exact rfl); (exact rfl); intro w7 k7 g7; have K7 := Lib.hid k7; have G7 := Lib.hid g7; clear k7 g7))
  refine bodyPost_ret (results_jnt2 Tryz.results23 _ _ (w.heap.size + 1 + 1) _ _ _ _ _ _ _ rfl K7.out) rfl ?_
  rw [HF.out]
  exact ⟨_, rfl, (HJ6.out.old G7.out HG.out).low (by have := HG.out; omega), HE6.out.grown G7.out (by omega)⟩
 ·have HF := Lib.hid (show doJ s j = ((backJ j s.n).1, 0, (backJ j s.n).2) by rw [HDF.out, if_neg (by rw [hk]; decide), if_pos hk])
  rw [hk]
  clear hk HDF
  go_wp2_with ((with_reducible refine wpList_loadJn ?_ (.tmp 3) ?_ (w.heap.size + 1) 0 xu xv xz xa xs xq (.slice AM j.m.length nM) ?_ ?_ ?_); (exact rfl); (exact rfl); (exact rfl); (exact RJ.out))
  refine (backJ_any _ _ _ _ _ _ AM nM j s.n _ ⟨HX.out.1.ext HE.out, HX.out.2.1.ext HE.out, HX.out.2.2.ext HE.out⟩ HZ.out).mono ?_
  rintro e w5 ⟨v5, rfl, ho, he⟩
  obtain ⟨r, hr⟩ : ∃ r, backJ j s.n = r := ⟨_, rfl⟩
  rw [hr] at ho HF ⊢
  clear hr
  obtain ⟨a5, b5, c5, d5, x5, y5, m5, rfl, ho⟩ := retJn_shp ho
  have HR5 := Lib.hid ho
  have HC3 := Lib.hid (Cs.ext HC3.out he)
  have HC4 := Lib.hid (Cs.ext HC4.out he)
  have HE := Lib.hid (HE.out.trans he)
  clear ho he RJ RW RX q0 q1
  have HJN : Hid (RetJn w0.heap.size w5 (.agg #[a5, b5, c5, d5, x5, y5, m5]) r.1) := HR5
  have HON := Lib.hid HJN.out.one
  go_wp2_with (first
   | ((with_reducible refine wpList_storeJn ?_ ?_ (.tmp 3) (.tmp 35) ?_ (w.heap.size + 1) xu xv xz xa xs xq (.slice AM j.m.length nM) a5 b5 c5 d5 x5 y5 m5 ?_ ?_ HON.out HC3.out ?_); (exact rfl); (exact rfl); (exact rfl); (exact rfl); (exact rfl); intro w6 k6 g6; have K6 := Lib.hid k6; have RJ6 : Hid (w6.rangeAt (w.heap.size + 1) 0 [a5, b5, c5, d5, x5, y5, m5]) := Lib.hid (Cs.rg k6); have HJ6 := Lib.hid (HJN.out.old g6 (by have := HG.out; omega)); have HC6 := Lib.hid (Cs.kept HC4.out g6 (fun e => absurd (Option.some.inj e) (by omega))); have HE6 := Lib.hid (HE.out.grown g6 (by omega)); clear k6 g6)
   | ((with_reducible refine wpList_loadJn ?_ (.tmp 3) ?_ (w.heap.size + 1) 0 a5 b5 c5 d5 x5 y5 m5 ?_ ?_ ?_); (exact rfl); (exact rfl); (exact rfl); (exact RJ6.out))
   | ((with_reducible refine wpList_storeJn ?_ ?_ (.tmp 4) (.tmp 55) ?_ (w.heap.size + 1 + 1) (.slice none 0 0) (.slice none 0 0) (.slice none 0 0) (.slice none 0 0) (.slice none 0 0) (.slice none 0 0) (.slice none 0 0) a5 b5 c5 d5 x5 y5 m5 ?_ ?_ HON.out HC6.out ?_); (exact rfl); (exact rfl); (exact rfl); (exact rfl); (exact rfl); intro w7 k7 g7; have K7 := Lib.hid k7; have G7 := Lib.hid g7; clear k7 g7))
  refine bodyPost_ret (results_jnt2 Tryz.results23 _ _ (w.heap.size + 1 + 1) _ _ _ _ _ _ _ rfl K7.out) rfl ?_
  rw [HF.out]
  exact ⟨_, rfl, (HJ6.out.old G7.out HG.out).low (by have := HG.out; omega), HE6.out.grown G7.out (by omega)⟩
 ·have HF := Lib.hid (show doJ s j = ((keepJ j s.n).1, 0, (keepJ j s.n).2) by rw [HDF.out, if_neg (by rw [hk]; decide), if_neg (by rw [hk]; decide), if_pos hk])
  rw [hk]
  clear hk HDF
  go_wp2_with ((with_reducible refine wpList_loadJn ?_ (.tmp 3) ?_ (w.heap.size + 1) 0 xu xv xz xa xs xq (.slice AM j.m.length nM) ?_ ?_ ?_); (exact rfl); (exact rfl); (exact rfl); (exact RJ.out))
  refine (keepJ_any _ _ _ _ _ _ AM nM j s.n _ ⟨HX.out.1.ext HE.out, HX.out.2.1.ext HE.out, HX.out.2.2.ext HE.out⟩ HZ.out).mono ?_
  rintro e w5 ⟨v5, rfl, ho, he⟩
  obtain ⟨r, hr⟩ : ∃ r, keepJ j s.n = r := ⟨_, rfl⟩
  rw [hr] at ho HF ⊢
  clear hr
  obtain ⟨a5, b5, c5, d5, x5, y5, m5, rfl, ho⟩ := retJn_shp ho
  have HR5 := Lib.hid ho
  have HC3 := Lib.hid (Cs.ext HC3.out he)
  have HC4 := Lib.hid (Cs.ext HC4.out he)
  have HE := Lib.hid (HE.out.trans he)
  clear ho he RJ RW RX q0 q1
  have HJN : Hid (RetJn w0.heap.size w5 (.agg #[a5, b5, c5, d5, x5, y5, m5]) r.1) := HR5
  have HON := Lib.hid HJN.out.one
  go_wp2_with (first
   | ((with_reducible refine wpList_storeJn ?_ ?_ (.tmp 3) (.tmp 44) ?_ (w.heap.size + 1) xu xv xz xa xs xq (.slice AM j.m.length nM) a5 b5 c5 d5 x5 y5 m5 ?_ ?_ HON.out HC3.out ?_); (exact rfl); (exact rfl); (exact rfl); (exact rfl); (exact rfl); intro w6 k6 g6; have K6 := Lib.hid k6; have RJ6 : Hid (w6.rangeAt (w.heap.size + 1) 0 [a5, b5, c5, d5, x5, y5, m5]) := Lib.hid (Cs.rg k6); have HJ6 := Lib.hid (HJN.out.old g6 (by have := HG.out; omega)); have HC6 := Lib.hid (Cs.kept HC4.out g6 (fun e => absurd (Option.some.inj e) (by omega))); have HE6 := Lib.hid (HE.out.grown g6 (by omega)); clear k6 g6)
   | ((with_reducible refine wpList_loadJn ?_ (.tmp 3) ?_ (w.heap.size + 1) 0 a5 b5 c5 d5 x5 y5 m5 ?_ ?_ ?_); (exact rfl); (exact rfl); (exact rfl); (exact RJ6.out))
   | ((with_reducible refine wpList_storeJn ?_ ?_ (.tmp 4) (.tmp 55) ?_ (w.heap.size + 1 + 1) (.slice none 0 0) (.slice none 0 0) (.slice none 0 0) (.slice none 0 0) (.slice none 0 0) (.slice none 0 0) (.slice none 0 0) a5 b5 c5 d5 x5 y5 m5 ?_ ?_ HON.out HC6.out ?_); (exact rfl); (exact rfl); (exact rfl); (exact rfl); (exact rfl); intro w7 k7 g7; have K7 := Lib.hid k7; have G7 := Lib.hid g7; clear k7 g7))
  refine bodyPost_ret (results_jnt2 Tryz.results23 _ _ (w.heap.size + 1 + 1) _ _ _ _ _ _ _ rfl K7.out) rfl ?_
  rw [HF.out]
  exact ⟨_, rfl, (HJ6.out.old G7.out HG.out).low (by have := HG.out; omega), HE6.out.grown G7.out (by omega)⟩
 ·have HF := Lib.hid (show doJ s j = ((layJ j s.w).1, 0, (layJ j s.w).2) by rw [HDF.out, if_neg (by rw [hk]; decide), if_neg (by rw [hk]; decide), if_neg (by rw [hk]; decide), if_pos hk])
  rw [hk]
  clear hk HDF
  go_wp2_with (first
   | ((with_reducible refine wpList_loadJn ?_ (.tmp 3) ?_ (w.heap.size + 1) 0 xu xv xz xa xs xq (.slice AM j.m.length nM) ?_ ?_ ?_); (exact rfl); (exact rfl); (exact rfl); (exact RJ.out))
   | ((with_reducible refine wpList_loadWo ?_ (.tmp 50) ?_ w.heap.size 2 su sv sz ?_ ?_ ?_); (exact rfl); (exact rfl); (exact rfl); (exact RW.out)))
  refine (layJ_any _ _ _ _ _ _ _ _ _ _ j s.w _ ⟨HX.out.1.ext HE.out, HX.out.2.1.ext HE.out, HX.out.2.2.ext HE.out⟩ HZ.out (HS.out.1.ext HE.out) HSZ.out).mono ?_
  rintro e w5 ⟨v5, rfl, ho, he⟩
  obtain ⟨r, hr⟩ : ∃ r, layJ j s.w = r := ⟨_, rfl⟩
  rw [hr] at ho HF ⊢
  clear hr
  obtain ⟨a5, b5, c5, d5, x5, y5, m5, rfl, ho⟩ := retJn_shp ho
  have HR5 := Lib.hid ho
  have HC3 := Lib.hid (Cs.ext HC3.out he)
  have HC4 := Lib.hid (Cs.ext HC4.out he)
  have HE := Lib.hid (HE.out.trans he)
  clear ho he RJ RW RX q0 q1
  have HJN : Hid (RetJn w0.heap.size w5 (.agg #[a5, b5, c5, d5, x5, y5, m5]) r.1) := HR5
  have HON := Lib.hid HJN.out.one
  go_wp2_with (first
   | ((with_reducible refine wpList_storeJn ?_ ?_ (.tmp 3) (.tmp 53) ?_ (w.heap.size + 1) xu xv xz xa xs xq (.slice AM j.m.length nM) a5 b5 c5 d5 x5 y5 m5 ?_ ?_ HON.out HC3.out ?_); (exact rfl); (exact rfl); (exact rfl); (exact rfl); (exact rfl); intro w6 k6 g6; have K6 := Lib.hid k6; have RJ6 : Hid (w6.rangeAt (w.heap.size + 1) 0 [a5, b5, c5, d5, x5, y5, m5]) := Lib.hid (Cs.rg k6); have HJ6 := Lib.hid (HJN.out.old g6 (by have := HG.out; omega)); have HC6 := Lib.hid (Cs.kept HC4.out g6 (fun e => absurd (Option.some.inj e) (by omega))); have HE6 := Lib.hid (HE.out.grown g6 (by omega)); clear k6 g6)
   | ((with_reducible refine wpList_loadJn ?_ (.tmp 3) ?_ (w.heap.size + 1) 0 a5 b5 c5 d5 x5 y5 m5 ?_ ?_ ?_); (exact rfl); (exact rfl); (exact rfl); (exact RJ6.out))
   | ((with_reducible refine wpList_storeJn ?_ ?_ (.tmp 4) (.tmp 55) ?_ (w.heap.size + 1 + 1) (.slice none 0 0) (.slice none 0 0) (.slice none 0 0) (.slice none 0 0) (.slice none 0 0) (.slice none 0 0) (.slice none 0 0) a5 b5 c5 d5 x5 y5 m5 ?_ ?_ HON.out HC6.out ?_); (exact rfl); (exact rfl); (exact rfl); (exact rfl); (exact rfl); intro w7 k7 g7; have K7 := Lib.hid k7; have G7 := Lib.hid g7; clear k7 g7))
  refine bodyPost_ret (results_jnt2 Tryz.results23 _ _ (w.heap.size + 1 + 1) _ _ _ _ _ _ _ rfl K7.out) rfl ?_
  rw [HF.out]
  exact ⟨_, rfl, (HJ6.out.old G7.out HG.out).low (by have := HG.out; omega), HE6.out.grown G7.out (by omega)⟩
 ·have HF := Lib.hid (show doJ s j = ((tchJ j s.x).1, 0, (tchJ j s.x).2) by rw [HDF.out, if_neg (by rw [hk]; decide), if_neg (by rw [hk]; decide), if_neg (by rw [hk]; decide), if_neg (by rw [hk]; decide)])
  rw [hk]
  clear hk HDF
  go_wp2_with (first
   | ((with_reducible refine wpList_loadJn ?_ (.tmp 3) ?_ (w.heap.size + 1) 0 xu xv xz xa xs xq (.slice AM j.m.length nM) ?_ ?_ ?_); (exact rfl); (exact rfl); (exact rfl); (exact RJ.out))
   | ((with_reducible refine wpList_loadXk ?_ (.tmp 15) ?_ w.heap.size 5 sa ss sq ?_ ?_ ?_); (exact rfl); (exact rfl); (exact rfl); (exact RX.out)))
  refine (tchJ_any _ _ _ _ _ _ _ _ _ _ j s.x _ ⟨HX.out.1.ext HE.out, HX.out.2.1.ext HE.out, HX.out.2.2.ext HE.out⟩ HZ.out (HS.out.2.ext HE.out)).mono ?_
  rintro e w5 ⟨v5, rfl, ho, he⟩
  obtain ⟨r, hr⟩ : ∃ r, tchJ j s.x = r := ⟨_, rfl⟩
  rw [hr] at ho HF ⊢
  clear hr
  obtain ⟨a5, b5, c5, d5, x5, y5, m5, rfl, ho⟩ := retJn_shp ho
  have HR5 := Lib.hid ho
  have HC3 := Lib.hid (Cs.ext HC3.out he)
  have HC4 := Lib.hid (Cs.ext HC4.out he)
  have HE := Lib.hid (HE.out.trans he)
  clear ho he RJ RW RX q0 q1
  have HJN : Hid (RetJn w0.heap.size w5 (.agg #[a5, b5, c5, d5, x5, y5, m5]) r.1) := HR5
  have HON := Lib.hid HJN.out.one
  go_wp2_with (first
   | ((with_reducible refine wpList_storeJn ?_ ?_ (.tmp 3) (.tmp 18) ?_ (w.heap.size + 1) xu xv xz xa xs xq (.slice AM j.m.length nM) a5 b5 c5 d5 x5 y5 m5 ?_ ?_ HON.out HC3.out ?_); (exact rfl); (exact rfl); (exact rfl); (exact rfl); (exact rfl); intro w6 k6 g6; have K6 := Lib.hid k6; have RJ6 : Hid (w6.rangeAt (w.heap.size + 1) 0 [a5, b5, c5, d5, x5, y5, m5]) := Lib.hid (Cs.rg k6); have HJ6 := Lib.hid (HJN.out.old g6 (by have := HG.out; omega)); have HC6 := Lib.hid (Cs.kept HC4.out g6 (fun e => absurd (Option.some.inj e) (by omega))); have HE6 := Lib.hid (HE.out.grown g6 (by omega)); clear k6 g6)
   | ((with_reducible refine wpList_loadJn ?_ (.tmp 3) ?_ (w.heap.size + 1) 0 a5 b5 c5 d5 x5 y5 m5 ?_ ?_ ?_); (exact rfl); (exact rfl); (exact rfl); (exact RJ6.out))
   | ((with_reducible refine wpList_storeJn ?_ ?_ (.tmp 4) (.tmp 55) ?_ (w.heap.size + 1 + 1) (.slice none 0 0) (.slice none 0 0) (.slice none 0 0) (.slice none 0 0) (.slice none 0 0) (.slice none 0 0) (.slice none 0 0) a5 b5 c5 d5 x5 y5 m5 ?_ ?_ HON.out HC6.out ?_); (exact rfl); (exact rfl); (exact rfl); (exact rfl); (exact rfl); intro w7 k7 g7; have K7 := Lib.hid k7; have G7 := Lib.hid g7; clear k7 g7))
  refine bodyPost_ret (results_jnt2 Tryz.results23 _ _ (w.heap.size + 1 + 1) _ _ _ _ _ _ _ rfl K7.out) rfl ?_
  rw [HF.out]
  exact ⟨_, rfl, (HJ6.out.old G7.out HG.out).low (by have := HG.out; omega), HE6.out.grown G7.out (by omega)⟩
end Go.Proofs.YtnjpdchmdimaaaaGreat
