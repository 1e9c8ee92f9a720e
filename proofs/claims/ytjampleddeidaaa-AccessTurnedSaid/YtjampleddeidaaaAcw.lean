/- Package access: without. -/
import Derived.Test.YtjampleddeidaaaAcv
namespace Go.Proofs.Ytjampleddeidaaa
open Go.ChangeShapes Go.WideShapes Go.ChangeAt Go.RowKit Go.Shelf

set_option maxRecDepth 100000 in
theorem eqS_cod {p q : Pe} (hk : p.key < M256) (hj : q.key < M256) : p.eqS q = decide (p.cod = q.cod) := by
  by_cases h : p.cod = q.cod
  · obtain ⟨h1, h2⟩ := cdN_inj hk hj (show cdN p.addr p.key = cdN q.addr q.key from h)
    rw [decide_eq_true h]
    unfold Pe.eqS
    rw [h1, h2, beq_self_eq_true, beq_self_eq_true, Bool.and_true]
  · rw [decide_eq_false h]
    cases he : p.eqS q with
    | false => rfl
    | true =>
      unfold Pe.eqS at he
      rw [Bool.and_eq_true, beq_iff_eq, beq_iff_eq] at he
      exact absurd (show cdN p.addr p.key = cdN q.addr q.key by rw [he.1, he.2]) h
set_option maxRecDepth 100000 in
set_option maxHeartbeats 4000000 in
theorem without1_any (ga : Nat) (q p : Pe) (w : World) (hp : okP p) (hq : okS q) (hga : Cs w ga 32 (cS q)) :
    Calls Try.prog 77 #[.agg (cP p), .pointer (some ⟨ga, 0, none⟩)] w fun e w' => e = .returned (.bool (decide (p.cod = q.cod))) ∧ Ext w w' := by
  have HE := Lib.hid (eqS_cod (p := p) (q := q) hp.2.1 hq.2.1)
  have HK1 := Lib.hid (show p.key < M256 from hp.2.1)
  have HK2 := Lib.hid (show q.key < M256 from hq.2.1)
  obtain ⟨w0, hw0⟩ : ∃ w0, w.alloc (.cells (cP p) 69) = w0 := ⟨_, rfl⟩
  have HB : Hid (Cs w0 w.heap.size 69 (cP p)) := Lib.hid (by rw [← hw0]; exact Cs.new _ _ _ _ rfl)
  have HG : Hid (Cs w0 ga 32 (cS q)) := Lib.hid (by rw [← hw0]; exact Cs.alloc hga _)
  have HX : Hid (Ext w w0) := Lib.hid (by rw [← hw0]; exact (Ext.refl w).alloc _)
  have HR1 := Lib.hid (cS_key (cP_spot (Cs.rg HB.out)))
  have HR2 := Lib.hid (cS_key (Cs.rg HG.out))
  obtain ⟨pc, hpc⟩ : ∃ pc, cP p = pc := ⟨_, rfl⟩
  rw [hpc] at hw0 ⊢
  have HW0 := Lib.hid hw0
  clear hp hq hga hw0 hpc
  go_enter Try.func77, Try.ntmps77
  go_upto_region 1 with fail
  rw [HW0.out]
  clear HW0
  have c0 := cP_addr (Cs.rg HB.out)
  have c1 := cS_addr (Cs.rg HG.out)
  by_cases ha : p.addr = q.addr
  · have f1 : ((p.addr : Int) == (q.addr : Int)) = true := by rw [beq_iff_eq]; omega
    have f2 : (p.addr == q.addr) = true := by rw [beq_iff_eq]; exact ha
    have HF := Lib.hid (show decide (p.cod = q.cod) = (p.key == q.key) by rw [← HE.out]; unfold Pe.eqS; rw [f2, Bool.true_and])
    clear ha HE
    go_wp2_with (first
      | ((with_reducible refine wpList_load_wordIn ?_ (.tmp 12) ?_ w.heap.size 1 p.key ?_ ?_ ?_); (exact rfl); (exact rfl); (exact rfl); (exact HR1.out))
      | ((with_reducible refine wpList_load_wordIn ?_ (.tmp 14) ?_ ga 1 q.key ?_ ?_ ?_); (exact rfl); (exact rfl); (exact rfl); (exact HR2.out))
      | ((with_reducible refine wpList_eql_word ?_ (.tmp 13) (.tmp 15) ?_ p.key q.key HK1.out HK2.out ?_ ?_ ?_); (exact rfl); (exact rfl); (exact rfl); (exact rfl)))
    refine bodyPost_ret (results_tmp rfl _ _ _) rfl ?_
    exact ⟨by rw [HF.out]; rfl, HX.out⟩
  · have f1 : ((p.addr : Int) == (q.addr : Int)) = false := by rw [beq_eq_false_iff_ne]; omega
    have f2 : (p.addr == q.addr) = false := by rw [beq_eq_false_iff_ne]; exact ha
    have HF := Lib.hid (show decide (p.cod = q.cod) = false by rw [← HE.out]; unfold Pe.eqS; rw [f2, Bool.false_and])
    clear ha HE
    go_wp2_with fail
    refine bodyPost_ret (results_tmp rfl _ _ _) rfl ?_
    exact ⟨by rw [HF.out]; rfl, HX.out⟩
set_option maxRecDepth 100000 in
theorem dlX_ok {l : List Pe} {c : Nat} : ∀ p ∈ dlX l c, p ∈ l := fun _ hp => (List.mem_filter.1 hp).1
set_option maxRecDepth 100000 in
set_option maxHeartbeats 4000000 in
theorem without_any (sv : Value) (l : List Pe) (q : Pe) (lo : Nat) (w : World) (hs : OwnP w lo sv l) (hr : RiseX l) (hl : l.length ≤ 100000) (hq : okS q) (_hlo : lo ≤ w.heap.size) :
    Calls Try.prog 65 #[sv, .agg (cS q)] w fun e w' => ∃ v', e = .returned v' ∧ OwnP w' lo v' (dlX l q.cod) ∧ w.grownBy w' sv.ownBlock := by
  obtain ⟨w0, hw0⟩ : ∃ w0, w.alloc (.cells (cS q) 32) = w0 := ⟨_, rfl⟩
  have HG : Hid (Cs w0 w.heap.size 32 (cS q)) := Lib.hid (by rw [← hw0]; exact Cs.new _ _ _ _ rfl)
  have HX : Hid (Ext w w0) := Lib.hid (by rw [← hw0]; exact (Ext.refl w).alloc _)
  have HLT := Lib.hid (fun g (h : sv.ownBlock = some g) => (hs.lt g h).2)
  have HD := Lib.hid (deleteP_any sv l q.cod 77 #[.pointer (some ⟨w.heap.size, 0, none⟩)] (fun W => Cs W w.heap.size 32 (cS q)) lo w0 (hs.ext HX.out) hr hl
    (enters_of Try.func77 (by kernel_rfl) rfl) HG.out (fun W W' h he => Cs.ext h he) (fun W W' g h _ hg hgr => Cs.kept h hgr (fun e => by injection e with e; have := HLT.out g hg; omega))
    (fun p W hp hI => without1_any w.heap.size q p W hp hq hI))
  have HOB : Hid (∀ W W', Ext w W → W.grownBy W' sv.ownBlock → w.grownBy W' sv.ownBlock) := Lib.hid (fun _ _ h k => grown_of h k)
  obtain ⟨A1, c1, rfl, h1, h2⟩ := hs.xs.len
  obtain ⟨qc, hqc⟩ : ∃ qc, cS q = qc := ⟨_, rfl⟩
  rw [hqc] at hw0 ⊢
  have HW0 := Lib.hid hw0
  clear hw0 hqc hs hr hl hq
  go_enter Try.func65, Try.ntmps65
  go_upto_region 1 with fail
  rw [HW0.out]
  clear HW0
  go_wp2_with fail
  refine HD.out.mono ?_
  rintro e w1 ⟨v1, rfl, ho, hg⟩
  have HO := Lib.hid ho
  have HGR := Lib.hid (HOB.out _ _ HX.out hg)
  obtain ⟨A2, c2, rfl, h3, h4⟩ := ho.sl
  clear ho hg HD
  obtain ⟨m, hm⟩ : ∃ m, dlX l q.cod = m := ⟨_, rfl⟩
  rw [hm] at HO h3 ⊢
  have HM := Lib.hid hm
  clear hm
  by_cases h0 : m.length = 0
  · have f0 : (((m.length : Nat) : Int) == 0) = true := by rw [beq_iff_eq]; omega
    have HN := Lib.hid (List.length_eq_zero_iff.1 h0)
    clear h0
    go_wp2_with fail
    refine bodyPost_ret (results_tmp rfl _ _ _) rfl ?_
    exact ⟨_, rfl, by rw [HM.out, HN.out]; exact OwnP.nil _ _, HGR.out⟩
  · have f0 : (((m.length : Nat) : Int) == 0) = false := by rw [beq_eq_false_iff_ne]; omega
    clear h0
    go_wp2_with fail
    refine bodyPost_ret (results_tmp rfl _ _ _) rfl ?_
    exact ⟨_, rfl, by rw [HM.out]; exact HO.out, HGR.out⟩
end Go.Proofs.Ytjampleddeidaaa
