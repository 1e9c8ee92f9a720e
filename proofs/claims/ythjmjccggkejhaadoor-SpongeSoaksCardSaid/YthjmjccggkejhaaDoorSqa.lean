/- What the laws of lanes share: both; lanes held against one another. -/
import Derived.Test.YthjmjccggkejhaaDoorSps
import Derived.Test.YthjmjccggkejhaaDoorSpx
namespace Go.Proofs.YthjmjccggkejhaaDoor
open Go.ChangeShapes Go.WideShapes Go.ChangeAt Go.RowKit Go.Shelf

set_option maxRecDepth 100000 in
theorem wpList_neq_lanes {ops : Array Oper} {rest : List Oper} {o : Oper} {a : Act} {w : World} {Q : Exit → Act → World → Prop} (hgd : Region.wanted o (yielded ops a.tmps) = true) (x y : Operand) (ho : o.op = .binOp .neq 35 x y 35)
    (f g : Nat → Nat) (b : Bool) (hx : a.eval x = lnv f) (hy : a.eval y = lnv g) (hb : (!same25 f g) = b) (h : wpList Tryd.prog ops Q rest (a.put o.dst (.bool b)) w) : wpList Tryd.prog ops Q (o :: rest) a w := by
  refine wpList_step fun K hK => ?_
  rw [if_pos hgd]
  unfold Oper.wp
  simp only [execOp, ho, hx, hy, Sem.run_bind, run_guard_neq_lanes, Result.andThen_ok, run_neq_lanes f g, hb]
  exact hK _ _ h

/-- Two lanes that lie there, and the tables. -/
def Ln2 (w : World) (g2 g3 : Nat) (f g : Nat → Nat) (W : World) : Prop := Ln W g2 f ∧ Ln W g3 g ∧ Ext w W ∧ Tb W
set_option maxRecDepth 100000 in
theorem Ln2.ext {w : World} {g2 g3 : Nat} {f g : Nat → Nat} {W W' : World} (h : Ln2 w g2 g3 f g W) (he : Ext W W') : Ln2 w g2 g3 f g W' := ⟨h.1.ext he, h.2.1.ext he, h.2.2.1.trans he, h.2.2.2.ext he⟩
set_option maxRecDepth 100000 in
theorem Ln2.drew {w : World} {g2 g3 : Nat} {f g : Nat → Nat} {W : World} (h : Ln2 w g2 g3 f g W) : Ln2 w g2 g3 f g W.drew := h.ext (ext_of_grown (grown_drew (World.grownBy.refl _ _)))

/-- The first k lanes together, the others the first one's. -/
def bothP (f g : Nat → Nat) (k : Nat) : Nat → Nat := fun i => if i < k then f i ^^^ g i else f i
set_option maxRecDepth 100000 in
theorem bothP_step (f g : Nat → Nat) (k : Nat) : (fun i => if i = k then bothP f g k k ^^^ g k else bothP f g k i) = bothP f g (k + 1) := by
  funext i
  unfold bothP
  by_cases h : i = k
  · subst h
    rw [if_pos rfl, if_neg (by omega), if_pos (by omega)]
  · rw [if_neg h]
    by_cases h2 : i < k
    · rw [if_pos h2, if_pos (by omega)]
    · rw [if_neg h2, if_neg (by omega)]
set_option maxRecDepth 100000 in
theorem bothP_lt (f g : Nat → Nat) (hf : Lok f) (hg : Lok g) (k : Nat) : Lok (bothP f g k) := by
  intro i hi
  unfold bothP
  split
  · exact xor_lt64 _ _ (hf i hi) (hg i hi)
  · exact hf i hi
set_option maxRecDepth 100000 in
theorem bothP_all (f g : Nat → Nat) : lc (bothP f g 25) = lc (bothF f g) := lc_congr fun i hi => by unfold bothP bothF; rw [if_pos hi]

set_option maxRecDepth 100000 in
set_option maxHeartbeats 4000000 in
theorem both_any (f g : Nat → Nat) (w : World) (hf : Lok f) (hg : Lok g) : Calls Tryd.prog 35 #[lnv f, lnv g] w fun e w' => e = .returned (lnv (bothF f g)) ∧ Ext w w' := by
  have HF := Lib.hid hf
  have HG := Lib.hid hg
  clear hf hg
  have HA : Hid (Ln (((w.alloc (.cells (lc f) 35)).alloc (.cells (lc g) 35)).alloc (.cells (lc fun _ => 0) 35)) w.heap.size (bothP f g 0)) := by
    have e : bothP f g 0 = f := by funext i; unfold bothP; rw [if_neg (by omega)]
    rw [e]
    exact ((Cs.new _ _ _ _ rfl).alloc _).alloc _
  have HB : Hid (Ln (((w.alloc (.cells (lc f) 35)).alloc (.cells (lc g) 35)).alloc (.cells (lc fun _ => 0) 35)) (w.heap.size + 1) g) := (Cs.new _ _ _ _ (by simp)).alloc _
  have HZ : Hid (Ln (((w.alloc (.cells (lc f) 35)).alloc (.cells (lc g) 35)).alloc (.cells (lc fun _ => 0) 35)) (w.heap.size + 1 + 1) (fun _ => 0)) := Cs.new _ _ _ _ (by simp)
  have HE : Hid (Ext w (((w.alloc (.cells (lc f) 35)).alloc (.cells (lc g) 35)).alloc (.cells (lc fun _ => 0) 35))) := (((Ext.refl w).alloc _).alloc _).alloc _
  rw [lc_zero] at HA HB HZ HE
  unfold lnv
  go_enter Tryd.func35, Tryd.ntmps35
  go_wp2_with fail
  go_loopw [5, 6, 7, 8, 9, 10, 11, 12, 13, 14, 15, 16, 17] (fun _ i _ _ _ _ _ _ _ _ _ _ _ wr => ∃ k : Nat, k ≤ 25 ∧ i = .int .i64 k ∧ Hid (Ln wr w.heap.size (bothP f g k)) ∧ Hid (Ln wr (w.heap.size + 1) g) ∧ Hid (Ln wr (w.heap.size + 1 + 1) (fun _ => 0)) ∧ Hid (Ext w wr)) (fun _ i _ _ _ _ _ _ _ _ _ _ _ _ => 25 - (intOf i).toNat)
  case atStart => exact ⟨0, by omega, rfl, HA, HB, HZ, HE⟩
  case round =>
    clear HA HB HZ HE
    obtain ⟨k, hk, rfl, HA, HB, HZ, HE⟩ := hrel
    by_cases hlt : k < 25
    · have hd : decide ((k : Int) < 25) = true := by simp; omega
      have HP := Lib.hid (bothP_step f g k)
      have hpl := bothP_lt f g HF.out HG.out k k hlt
      have hgl := HG.out k hlt
      generalize bothP f g k = p at *
      go_wp2_with fail
      have HI := Lib.hid (u64_xor_nat (p k) (g k) hpl hgl)
      have hca := HA.out.cell k hlt
      have hcb := HB.out.cell k hlt
      have hfz := Cs.frozen HA.out k
      have a1 : (0 : Int) ≤ (k : Int) := by omega
      have a2 : (k : Int) < 25 := by omega
      go_region
      rw [HI.out]
      have K1 := Lib.hid (show Ln (wr.setCell ⟨w.heap.size, k, none⟩ (.int .u64 ((p k ^^^ g k : Nat) : Int))).drew w.heap.size (bothP f g (k + 1)) by
        rw [← HP.out]
        exact HA.out.set k _)
      have B1 := Lib.hid (Ln.kept HB.out (grown_drew (grown_set wr w.heap.size k (.int .u64 ((p k ^^^ g k : Nat) : Int)))) (some_ne (by omega)))
      have Z1 := Lib.hid (Ln.kept HZ.out (grown_drew (grown_set wr w.heap.size k (.int .u64 ((p k ^^^ g k : Nat) : Int)))) (some_ne (by omega)))
      have E1 := Lib.hid (HE.out.grown (grown_drew (grown_set wr w.heap.size k (.int .u64 ((p k ^^^ g k : Nat) : Int)))) (Nat.le_refl _))
      clear hca hcb hfz HA HB HZ HE HP HI
      generalize (wr.setCell ⟨w.heap.size, k, none⟩ (.int .u64 ((p k ^^^ g k : Nat) : Int))).drew = w2 at *
      go_wp2_with fail
      go_roundw
      case rel => exact ⟨k + 1, by omega, by go_num, K1, B1, Z1, E1⟩
      case measure => simp [intOf]; omega
    · obtain rfl : k = 25 := by omega
      have HP := Lib.hid (bothP_all f g)
      generalize bothP f g 25 = p at *
      go_wp2_with (first
        | ((with_reducible refine wpList_load_lanes ?_ (.tmp 2) ?_ w.heap.size p ?_ ?_ ?_); (exact rfl); (exact rfl); (exact rfl); (exact HA.out))
        | ((with_reducible refine wpList_store_lanes ?_ ?_ (.tmp 4) (.tmp 18) ?_ (w.heap.size + 1 + 1) (lc fun _ => 0) p ?_ ?_ ?_ ?_ ?_); (exact rfl); (exact rfl); (exact rfl); (exact rfl); (exact rfl); (exact HZ.out); (exact lc_size _); intro w7 k7 g7; have K7 := Lib.hid k7; have HE7 := Lib.hid (HE.out.grown g7 (by omega)); clear k7 g7))
      exact bodyPost_ret (results_lanes Tryd.results35 _ _ (w.heap.size + 1 + 1) _ rfl K7.out) rfl ⟨by unfold lnv; rw [HP.out], HE7.out⟩
end Go.Proofs.YthjmjccggkejhaaDoor
