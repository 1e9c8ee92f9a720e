/- Package access: the document's Before, Load. -/
import Derived.Test.YtjampleddeidaaaAcs
import Derived.Test.YtjampleddeidaaaAct
import Derived.Test.YtjampleddeidaaaAcz
namespace Go.Proofs.Ytjampleddeidaaa
open Go.ChangeShapes Go.WideShapes Go.ChangeAt Go.RowKit Go.Shelf

set_option maxRecDepth 100000 in
set_option maxHeartbeats 4000000 in
theorem refBefore_any (p q : Pe) (w : World) (hp : okS p) (hq : okS q) : Calls Try.prog 21 #[.agg (cS p), .agg (cS q)] w fun e w' => e = .returned (.bool (decide (p.cod < q.cod))) ∧ Ext w w' := by
  have HLT : Hid (p.cod < q.cod ↔ p.addr < q.addr ∨ p.addr = q.addr ∧ p.key < q.key) := Lib.hid (cdN_lt hp.2.1 hq.2.1)
  have HK1 := Lib.hid hp.2.1
  have HK2 := Lib.hid hq.2.1
  obtain ⟨w0, hw0⟩ : ∃ w0, (w.alloc (.cells (cS p) 32)).alloc (.cells (cS q) 32) = w0 := ⟨_, rfl⟩
  have HP : Hid (Cs w0 w.heap.size 32 (cS p)) := Lib.hid (by rw [← hw0]; exact Cs.alloc (Cs.new _ _ _ _ rfl) _)
  have HQ : Hid (Cs w0 (w.heap.size + 1) 32 (cS q)) := Lib.hid (by rw [← hw0]; exact Cs.new _ _ _ _ (by simp))
  have HE : Hid (Ext w w0) := Lib.hid (by rw [← hw0]; exact ((Ext.refl w).alloc _).alloc _)
  have R1 := Lib.hid (cS_key (Cs.rg HP.out))
  have R2 := Lib.hid (cS_key (Cs.rg HQ.out))
  have q1 : w0.cell? ⟨w.heap.size, 0, none⟩ = some (.int .u64 (p.addr : Nat)) := HP.out.cell 0 _ rfl
  have q2 : w0.cell? ⟨w.heap.size + 1, 0, none⟩ = some (.int .u64 (q.addr : Nat)) := HQ.out.cell 0 _ rfl
  obtain ⟨pc, hpc⟩ : ∃ c, cS p = c := ⟨_, rfl⟩
  obtain ⟨qc, hqc⟩ : ∃ c, cS q = c := ⟨_, rfl⟩
  rw [hpc, hqc] at hw0 ⊢
  have HW0 := Lib.hid hw0
  clear hp hq hw0 hpc hqc
  go_enter Try.func21, Try.ntmps21
  go_upto_region 1 with fail
  rw [HW0.out]
  clear HW0
  by_cases h1 : p.addr < q.addr
  · have d1 : decide ((p.addr : Int) < (q.addr : Int)) = true := decide_eq_true (by omega)
    have d2 : decide (p.addr < q.addr) = true := decide_eq_true h1
    have HF := Lib.hid (show decide (p.cod < q.cod) = true from decide_eq_true (HLT.out.2 (.inl h1)))
    clear h1
    go_wp2_with fail
    refine bodyPost_ret (results_tmp rfl _ _ _) rfl ?_
    exact ⟨by rw [HF.out]; rfl, HE.out⟩
  · have d1 : decide ((p.addr : Int) < (q.addr : Int)) = false := decide_eq_false (by omega)
    have d2 : decide (p.addr < q.addr) = false := decide_eq_false h1
    by_cases h2 : p.addr = q.addr
    · have d3 : ((p.addr : Int) == (q.addr : Int)) = true := by rw [beq_iff_eq]; omega
      have d4 : (p.addr == q.addr) = true := by rw [beq_iff_eq]; exact h2
      have HF := Lib.hid (show decide (p.cod < q.cod) = decide (p.key < q.key) from decide_eq_decide.2 ⟨fun h => by
        rcases HLT.out.1 h with h | h
        · exact absurd h h1
        · exact h.2, fun h => HLT.out.2 (.inr ⟨h2, h⟩)⟩)
      have HCL := Lib.hid (cmp_lt0 p.key q.key)
      clear h1 h2
      go_wp2_with (first
        | ((with_reducible refine wpList_load_wordIn ?_ (.tmp 17) ?_ w.heap.size 1 p.key ?_ ?_ ?_); (exact rfl); (exact rfl); (exact rfl); (exact R1.out))
        | ((with_reducible refine wpList_load_wordIn ?_ (.tmp 19) ?_ (w.heap.size + 1) 1 q.key ?_ ?_ ?_); (exact rfl); (exact rfl); (exact rfl); (exact R2.out)))
      refine (refCmp_any p.key q.key _ HK1.out HK2.out).mono ?_
      rintro e w1 ⟨rfl, he⟩
      have HE1 := Lib.hid (HE.out.trans he)
      clear he
      go_wp2_with fail
      refine bodyPost_ret (results_tmp rfl _ _ _) rfl ?_
      exact ⟨by rw [HF.out, ← HCL.out]; rfl, HE1.out⟩
    · have d3 : ((p.addr : Int) == (q.addr : Int)) = false := by rw [beq_eq_false_iff_ne]; omega
      have d4 : (p.addr == q.addr) = false := by rw [beq_eq_false_iff_ne]; exact h2
      have HF := Lib.hid (show decide (p.cod < q.cod) = false from decide_eq_false (fun h => by
        rcases HLT.out.1 h with h | h
        · exact h1 h
        · exact h2 h.1))
      clear h1 h2
      go_wp2_with fail
      refine bodyPost_ret (results_tmp rfl _ _ _) rfl ?_
      exact ⟨by rw [HF.out]; rfl, HE.out⟩
end Go.Proofs.Ytjampleddeidaaa
