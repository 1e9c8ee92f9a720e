/- Package pack: wakes of the statements. -/
import Derived.Test.YtdlllihfibjabaaPkw
namespace Go.Proofs.Ytdlllihfibjabaa
open Go.RowKit Go.Shelf

set_option maxRecDepth 100000 in
theorem ext_drewN {a w : World} (h : Ext a w) (n : Nat) : Ext a (w.drewN n) := ⟨h.os, h.tape, h.output, h.size, fun i hi => Below.block h i hi⟩
set_option maxRecDepth 100000 in
theorem bs_lit (w : World) (g : Nat) (t : TypeId) (l : List UInt8) (cs : Array Value) (n : Nat) (hg : w.heap[g]? = some (.cells cs t (0, 0))) (hcs : cs = (l.map bv).toArray) (hn : n = l.length) (hl : l.length ≤ maxLen) :
    Bs w (.slice (some ⟨g, 0, none⟩) n n) l := by
  subst hn
  subst hcs
  exact (Row.own (base := 0) (show Row w g t l from hg) (Nat.zero_le _) hl).bs
set_option maxRecDepth 100000 in
/-- A slice of one boolean that is written out. -/
theorem bls_lit (w : World) (g : Nat) (t : TypeId) (b : Bool) (hg : w.heap[g]? = some (.cells #[.bool b] t (0, 0))) : Bls w (.slice (some ⟨g, 0, none⟩) 1 1) [b] :=
  bls_of_rs (l := [b]) ⟨rfl, _, _, rfl, Nat.le_refl _, by simp [maxLen], fun _ => ⟨g, 0, rfl, fun i u hu => by
    rw [Nat.zero_add]
    exact Cs.cell (show Cs w g t #[.bool b] from hg) i u (by simpa [bo] using hu)⟩⟩
set_option maxRecDepth 100000 in
/-- A slice of one part. -/
theorem pts_lit (w : World) (g : Nat) (t : TypeId) (p : Pt) (u : Value) (hg : w.heap[g]? = some (.cells (ptc p u) t (0, 0))) (hp : p.2.1 < M256) (hb : Bs w u p.2.2) : Pts w (.slice (some ⟨g, 0, none⟩) 1 1) [p] :=
  ⟨_, _, rfl, Nat.le_refl _, by simp [maxLen], fun _ => ⟨g, 0, rfl, fun i z hz => by
    have hi : i = 0 := by
      have := (List.getElem?_eq_some_iff.1 hz).1
      simp at this
      exact this
    subst hi
    simp at hz
    subst hz
    exact ⟨(ptc p u).toList, rfl, ⟨hp, u, rfl, hb⟩, fun j v hv => by
      have := Cs.cell (show Cs w g t (ptc p u) from hg) j v (by rwa [Array.getElem?_toList] at hv)
      simpa using this⟩⟩⟩
def wk1 : Pt := (true, 0, [1, 2, 3])
set_option maxRecDepth 100000 in
theorem wk1_err : errP [wk1] = 0 := by decide
set_option maxRecDepth 100000 in
theorem wk1_lay : (layL [wk1]).length = 96 ∧ (layL [wk1]).getD 31 0 = 32 ∧ (layL [wk1]).getD 63 0 = 3 := by decide +kernel
set_option maxRecDepth 100000 in
theorem wk1_read : rdE (layL [wk1]) [true] = some [wk1] := rdE_of [wk1] wk1_err (by intro p hp; simp at hp; rw [hp]; decide)
set_option maxRecDepth 100000 in
theorem wk1_not : rdE (layL [wk1]) [false] = none := by decide +kernel
set_option maxRecDepth 100000 in
set_option maxHeartbeats 1000000 in
theorem packWakes_any (w : World) : Calls Try.prog 15 #[] w (RetT w) := by
  go_enter Try.func15, Try.ntmps15
  go_wp2_with fail
  refine (packBytes_any _ [1, 2, 3] _ (bs_lit _ _ _ [1, 2, 3] _ _ (heap_alloc_new _ _) rfl rfl (by simp [maxLen])) (by simp)).mono ?_
  rintro e w1 ⟨u, rfl, ho1, he1⟩
  have HE1 := Lib.hid (((Ext.refl w).alloc _).trans he1)
  have HB1 := Lib.hid ho1.bs
  have HU1 := Lib.hid (bs_one ho1.bs)
  have HP1 := Lib.hid (ptc_one wk1 u HU1.out)
  have HPS := Lib.hid (show (ptc wk1 u).size = 6 from rfl)
  clear ho1 he1
  obtain ⟨pc, hpc⟩ : ∃ pc, ptc wk1 u = pc := ⟨_, rfl⟩
  rw [show ptc (true, 0, [1, 2, 3]) u = pc from hpc]
  rw [hpc] at HP1 HPS
  have HP := Lib.hid hpc
  clear hpc
  go_wp2_with ((with_reducible refine wpList_build_one ?_ (.tmp 9) 24 48 ?_ Try.underlying24 (.agg pz) 6 64 pinfo3 (by decide) (by decide) pc HPS.out ?_ ?_); (exact rfl); (exact rfl); (exact rfl))
  refine (lay_any _ [wk1] _ (pts_lit _ _ 48 wk1 u (by rw [HP.out]; exact heap_alloc_new _ _) (by decide) (HB1.out.ext ((Ext.refl _).alloc _)))).mono ?_
  rintro e w2 ⟨v2, rfl, ho2, he2⟩
  rw [wk1_err]
  have HE2 := Lib.hid ((HE1.out.alloc _).trans he2)
  have HB2 := Lib.hid ho2.bs
  have HLN := Lib.hid wk1_lay.1
  have HRY := Lib.hid wk1_read
  have HRN := Lib.hid wk1_not
  have HG1 := Lib.hid wk1_lay.2.1
  have HG2 := Lib.hid wk1_lay.2.2
  generalize layL [wk1] = b at *
  clear ho2 he2 HE1 HB1 HU1 HP1 HPS HP
  go_wp2_with fail
  refine (packRead_any _ _ b [true] _ (HB2.out.ext ((Ext.refl _).alloc _)) (bls_lit _ _ 4 true (heap_alloc_new _ _)) (by rw [HLN.out]; omega)).mono ?_
  rintro e w3 ⟨v3, rfl, hf3, he3⟩
  rw [show rdErr b [true] = 0 by unfold rdErr; rw [HRY.out]; rfl]
  rw [show rdL b [true] = [wk1] by unfold rdL; rw [HRY.out]; rfl] at hf3
  have HX3 := Lib.hid (((Ext.refl w2).alloc _).trans he3)
  have HE3 := Lib.hid (HE2.out.trans HX3.out)
  have HB3 := Lib.hid (HB2.out.ext HX3.out)
  have HF3 := Lib.hid hf3.here
  clear hf3 he3 HX3 HE2 HB2
  go_wp2_with fail
  refine (packRead_any _ _ b [false] _ (HB3.out.ext ((Ext.refl _).alloc _)) (bls_lit _ _ 4 false (heap_alloc_new _ _)) (by rw [HLN.out]; omega)).mono ?_
  rintro e w4 ⟨v4, rfl, _, he4⟩
  rw [show rdErr b [false] = 141 by unfold rdErr; rw [HRN.out]; rfl]
  have HX4 := Lib.hid (((Ext.refl w3).alloc _).trans he4)
  have HE4 := Lib.hid (HE3.out.trans HX4.out)
  have HB4 := Lib.hid (HB3.out.ext HX4.out)
  have HF4 := Lib.hid (HF3.out.ext HX4.out)
  clear he4 HX4 HE3 HB3 HF3
  obtain ⟨A3, c3, rfl, q3, q4⟩ := HF4.out.len
  obtain ⟨bb, oo, u0, rfl, hrg, hbu, _⟩ := HF4.out.at 0 (by simp)
  obtain ⟨A5, c5, rfl, _, _, q8⟩ := hbu
  clear q8
  have hdl : w4.cell? ⟨bb, oo + 5, none⟩ = some (.slice A5 3 c5) := by simpa [wk1] using rng5 hrg
  clear hrg
  obtain ⟨A4, c4, rfl, q5, q6, q7⟩ := HB4.out
  obtain ⟨b4, o4, rfl, hcl⟩ := q7 (by rw [HLN.out]; decide)
  have hc31 := hcl 31 (by rw [HLN.out]; decide)
  have hc63 := hcl 63 (by rw [HLN.out]; decide)
  rw [HG1.out] at hc31
  rw [HG2.out] at hc63
  clear hcl q7
  rw [HLN.out] at *
  unfold bv at hc31 hc63
  go_wp2_with fail
  go_ret
  exact ⟨rfl, HE4.out⟩
end Go.Proofs.Ytdlllihfibjabaa
