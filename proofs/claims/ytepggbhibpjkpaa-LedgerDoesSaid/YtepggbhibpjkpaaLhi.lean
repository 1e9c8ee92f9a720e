/- Package ledger: what is put in, taken out, bonded, unlocked, released. -/
import Derived.Test.YtepggbhibpjkpaaLhh
namespace Go.Proofs.Ytepggbhibpjkpaa
open Go.ChangeShapes Go.WideShapes Go.ChangeAt Go.RowKit Go.Shelf

/-- A call that answers a ledger in memory of its own, and an error. -/
def RetG (w : World) (r : List Hd × Int) (e : Ending) (w' : World) : Prop := ∃ v', e = .returned (.tuple #[.agg #[v'], .int .i64 r.2]) ∧ OwnH w' w.heap.size v' r.1 ∧ Ext w w'
set_option maxRecDepth 100000 in
theorem teE_zero {l : List Hd} {a : Nat} (h : teE l a = 0) : rightG l = true ∧ a ≠ 0 := by
  unfold teE at h
  cases hr : rightG l with
  | false => rw [hr] at h; simp at h
  | true =>
    rw [hr] at h
    refine ⟨rfl, fun h0 => ?_⟩
    rw [if_pos rfl, if_pos h0] at h
    cases h
set_option maxRecDepth 100000 in
theorem teE_right {l : List Hd} {a : Nat} (h : rightG l = true) (ha : a ≠ 0) : teE l a = 0 := by unfold teE; rw [if_pos h, if_neg ha]
set_option maxRecDepth 100000 in
theorem telV_zero {l : List Hd} {a : Nat} (h : teE l a = 0) (v : Value) : telV l a v = tlc (rowG l a) v := by unfold telV; rw [if_pos (teE_zero h)]
set_option maxRecDepth 100000 in
theorem telV_no {l : List Hd} {a : Nat} (h : teE l a ≠ 0) (v : Value) : telV l a v = tlc hz0 (.slice none 0 0) := by
  unfold telV
  rw [if_neg (fun k => h (teE_right k.1 k.2))]
set_option maxRecDepth 100000 in
theorem taE_zero {l : List Hd} {a n : Nat} (h : taE l a n = 0) : teE l a = 0 ∧ n ≤ 1099511627776 := by
  unfold taE at h
  split at h
  · cases h
  · next hc =>
    refine ⟨h, ?_⟩
    rcases Nat.lt_or_ge 1099511627776 n with hlt | hge
    · exact absurd ⟨h, hlt⟩ hc
    · exact hge
set_option maxRecDepth 100000 in
theorem taV_zero {l : List Hd} {a n : Nat} (h : taE l a n = 0) (v : Value) : taV l a n v = tlc (rowG l a) v := by
  obtain ⟨h1, h2⟩ := taE_zero h
  unfold taV
  rw [if_neg (fun k => by omega), telV_zero h1]
set_option maxRecDepth 100000 in
theorem rowG_fits {l : List Hd} (h : rightG l = true) (a : Nat) : (rowG l a).dly ≤ 1073741824 ∧ (rowG l a).fre ≤ 1100585369600 := by
  unfold rowG
  cases hh : hasG l a with
  | false => exact ⟨Nat.zero_le _, Nat.zero_le _⟩
  | true =>
    rw [if_pos rfl]
    have hi := hasG_lt hh
    have hr := (rgB_lt ((rightG_parts h).2.1 _ hi)).2
    unfold Hd.rowB at hr
    split at hr
    · simp only [Bool.and_eq_true, decide_eq_true_eq] at hr
      omega
    · simp only [Bool.and_eq_true, decide_eq_true_eq] at hr
      omega
set_option maxRecDepth 100000 in
theorem taV_one {l : List Hd} {a n : Nat} {v : Value} (hv : v.oneCell' = true) : (taV l a n v).all (·.oneCell') = true := by
  unfold taV
  split
  · exact tlc_one _ _ rfl
  · exact telV_one hv
set_option maxRecDepth 100000 in
theorem taV_size (l : List Hd) (a n : Nat) (v : Value) : (taV l a n v).size = 12 := by
  unfold taV
  split
  · rfl
  · exact telV_size _ _ _
def depS (l : List Hd) (a n : Nat) : List Hd × Int := if teE l a ≠ 0 then ([], teE l a) else if tkE l (rowG l a) n ≠ 0 then ([], tkE l (rowG l a) n) else (plG l { rowG l a with dep := ((rowG l a).dep + n) % M256 }, 0)
def wdrS (l : List Hd) (a n : Nat) : List Hd × Int := if teE l a ≠ 0 then ([], teE l a) else if (rowG l a).dep < n then ([], 162) else (plG l { rowG l a with dep := (rowG l a).dep - n }, 0)
def bndS (l : List Hd) (a n d : Nat) : List Hd × Int := if teE l a ≠ 0 then ([], teE l a) else if d = 0 ∨ 1073741824 < d ∨ d < (rowG l a).dly then ([], 2) else if (rowG l a).stkB = false ∧ n = 0 then ([], 172) else
  if tkE l (rowG l a) n ≠ 0 then ([], tkE l (rowG l a) n) else (plG l { rowG l a with stk := ((rowG l a).stk + n) % M256, dly := d, fre := 0 }, 0)
def ulkS (l : List Hd) (a n : Nat) : List Hd × Int := if taE l a n ≠ 0 then ([], taE l a n) else if (rowG l a).lckB = false then ([], 172) else (plG l { rowG l a with fre := n + (rowG l a).dly }, 0)
set_option maxRecDepth 100000 in
theorem u64info : (Try.prog.info? 26).map (·.size) = some 1 := by kernel_rfl
set_option maxRecDepth 100000 in
/-- One cell is stored into the midst of a block. -/
theorem wpList_store_in1 {P : Program} {ops : Array Oper} {rest : List Oper} {o : Oper} {a : Act} {w : World} {Q : Exit → Act → World → Prop} (hgd : o.guard = none) (hd : o.dst = none) (ty : TypeId) (x y : Operand) (ho : o.op = .store ty x y)
    (g k : Nat) (t : TypeId) (cur : Array Value) (v : Value) (hv : v.cells = #[v]) (hx : a.eval x = .pointer (some ⟨g, k, none⟩)) (hy : a.eval y = v) (hg : Cs w g t cur) (hi : (P.info? ty).map (·.size) = some 1) (hb : k + 1 ≤ cur.size) (h1 : v.oneCell' = true)
    (h : ∀ w', Cs w' g t (layC cur k #[v]) → w.grownBy w' (some g) → wpList P ops Q rest a w') : wpList P ops Q (o :: rest) a w := by
  have h' : ∀ w', Cs w' g t (layC cur k #[v]) → w.grownBy w' (some g) → wpList P ops Q rest (a.put o.dst undef) w' := by rw [hd]; exact h
  have hrun : (storeVar ty ⟨g, k, none⟩ v).run P w = .ok () (w.setRow g (layC cur k #[v])) := by
    have := run_storeCells_at (P := P) g k t [v] 0 cur w hg (by simpa using hb) (fun u hu => by rw [List.mem_singleton.1 hu]; exact h1)
    cases hq : P.info? ty with
    | none => simp [hq] at hi
    | some i =>
      have hs : i.size = 1 := by simpa [hq] using hi
      simp only [Nat.add_zero, List.length_singleton] at this
      simp [storeVar, sizeOf, typeInfo, hq, hv, hs]
      simpa [layC] using this
  refine wpList_plain hgd fun K hK => ?_
  unfold Oper.wp execOp
  simp only [ho, hx, hy, Instr.storeAt, Instr.sureAddr, Sem.run_bind, Sem.run_pure, Result.andThen_ok, hrun]
  exact hK _ _ (h' _ (setRow_heap w g _ _ t (0, 0) hg) ⟨rfl, rfl, rfl, by simp [World.setRow], fun q _ hq => setRow_other w g q _ (fun e => hq (by simp [e]))⟩)
set_option maxRecDepth 100000 in
theorem one_val {v : Value} (h : v.oneCell' = true) : (#[v] : Array Value).all (·.oneCell') = true := by simpa using h
set_option maxRecDepth 100000 in
set_option maxHeartbeats 4000000 in
theorem deposit_any (v : Value) (l : List Hd) (a : Nat) (n : Nat) (w : World) (hs : Hds w v l) (ha : a < 18446744073709551616) (hn : n < M256) :
    Calls Try.prog 77 #[.agg #[v], .int .u64 (a : Nat), wv n] w (RetG w (depS l a n)) := by
  have HS := Lib.hid hs
  have HA := Lib.hid ha
  have hv1 : v.oneCell' = true := by obtain ⟨A, c, rfl, _⟩ := hs.len; rfl
  have HV := Lib.hid hv1
  have HN := Lib.hid hn
  obtain ⟨w0, hw0⟩ : ∃ w0, ((w.alloc (.cells #[v] 88)).alloc (.cells (wc n) 29)).alloc (.cells #[.slice none 0 0] 88) = w0 := ⟨_, rfl⟩
  have HW0 := Lib.hid hw0
  have HL : Hid (Cs w0 w.heap.size 88 #[v]) := Lib.hid (by rw [← hw0]; exact Cs.alloc (Cs.alloc (Cs.new _ _ _ _ rfl) _) _)
  have HW : Hid (Cs w0 (w.heap.size + 1) 29 (wc n)) := Lib.hid (by rw [← hw0]; exact Cs.alloc (Cs.new _ _ _ _ (by rw [World.size_alloc])) _)
  have HR : Hid (Cs w0 (w.heap.size + 2) 88 #[.slice none 0 0]) := Lib.hid (by rw [← hw0]; exact Cs.new _ _ _ _ (by rw [World.size_alloc, World.size_alloc]))
  have HE : Hid (Ext w w0) := Lib.hid (by rw [← hw0]; exact ((((Ext.refl w).alloc _).alloc _).alloc _))
  clear hs hw0 hv1 ha
  unfold wv
  go_enter Try.func77, Try.ntmps77
  go_upto_region 1 with fail
  rw [HW0.out]
  clear HW0
  obtain ⟨gL, hgL⟩ : ∃ g, w.heap.size = g := ⟨_, rfl⟩
  obtain ⟨gW, hgW⟩ : ∃ g, w.heap.size + 1 = g := ⟨_, rfl⟩
  obtain ⟨gR, hgR⟩ : ∃ g, w.heap.size + 2 = g := ⟨_, rfl⟩
  have HGL := Lib.hid (show w.heap.size ≤ gL by omega)
  have HGW := Lib.hid (show w.heap.size ≤ gW by omega)
  have HGR := Lib.hid (show w.heap.size ≤ gR by omega)
  rw [hgR] at HR ⊢
  rw [hgW] at HW ⊢
  rw [hgL] at HL ⊢
  clear hgL hgW hgR
  have q2 := HL.out.cell 0 _ rfl
  go_wp2_with fail
  refine (tellerOf_any v l a _ (HS.out.ext HE.out) HA.out).mono ?_
  rintro e w1 ⟨rfl, he⟩
  have HX := Lib.hid he
  have HTO := Lib.hid (telV_one (l := l) (a := a) HV.out)
  have HTS := Lib.hid (telV_size l a v)
  clear he q2
  obtain ⟨tv, htv⟩ : ∃ tv, telV l a v = tv := ⟨_, rfl⟩
  obtain ⟨te, hte⟩ : ∃ te, teE l a = te := ⟨_, rfl⟩
  have HTV := Lib.hid htv
  have HTE := Lib.hid hte
  rw [htv] at HTO HTS ⊢
  rw [hte] at ⊢
  clear htv hte
  go_upto_region 2 with ((with_reducible refine wpList_store_agg ?_ ?_ 165 (.tmp 8) (.tmp 15) ?_ tlinfo w1.heap.size (tlc hz0 (.slice none 0 0)) tv ?_ ?_ ?_ ?_ ?_ ?_ ?_); (exact rfl); (exact rfl); (exact rfl); (exact HTO.out); (exact rfl); (exact rfl); (rw [← lit_tl0]; exact Cs.new _ _ _ _ rfl); (exact rfl); (exact HTS.out); intro w5 k5 g5; have K5 := Lib.hid k5; have G5 := Lib.hid g5; clear k5 g5)
  have HX5 := Lib.hid (HX.out.trans (((Ext.refl w1).alloc _).grown G5.out (Nat.le_refl _)))
  have HG8 := Lib.hid (show w.heap.size ≤ w1.heap.size from (HE.out.trans HX.out).size)
  have HG08 := Lib.hid (show w0.heap.size ≤ w1.heap.size from HX.out.size)
  obtain ⟨g8, hg8⟩ : ∃ g8, w1.heap.size = g8 := ⟨_, rfl⟩
  rw [hg8] at K5 HG8 HG08 ⊢
  clear hg8 HX G5
  have HSP : Hid (depS l a n = if te ≠ 0 then ([], te) else if tkE l (rowG l a) n ≠ 0 then ([], tkE l (rowG l a) n) else (plG l { rowG l a with dep := ((rowG l a).dep + n) % M256 }, 0)) := Lib.hid (by rw [← HTE.out]; rfl)
  by_cases ht0 : te = 0
  · subst ht0
    obtain ⟨hr, ha0⟩ := teE_zero HTE.out
    have HRI := Lib.hid (rightG_rise hr)
    have HLN := Lib.hid (rightG_parts hr).1
    have HROK := Lib.hid (rowG_ok HS.out.oks HA.out (a := a))
    have HRF := Lib.hid (rowG_fits hr a)
    have htv : tv = tlc (rowG l a) v := by rw [← HTV.out, telV_zero HTE.out]
    subst htv
    obtain ⟨h, hh⟩ : ∃ h, rowG l a = h := ⟨_, rfl⟩
    rw [hh] at HROK HSP K5 HRF HTV HTO HTS
    clear hr ha0 hh
    have HWX := Lib.hid (Cs.rg (Cs.ext HW.out HX5.out))
    have hvok := HROK.out.2.1
    have HDL := Lib.hid hvok
    clear hvok
    go_wp2_with (first
      | ((with_reducible refine wpList_load_tl ?_ (.tmp 8) ?_ (g8) (h) (v) ?_ ?_ ?_); (exact rfl); (exact rfl); (exact rfl); (exact K5.out))
      | ((with_reducible refine wpList_load_wordIn ?_ (.tmp 5) ?_ gW 0 (n) ?_ ?_ ?_); (exact rfl); (exact rfl); (exact rfl); (exact HWX.out)))
    refine (takes_any h v l n _ HROK.out (HS.out.ext (HE.out.trans HX5.out)) HN.out (by have := HLN.out; omega)).mono ?_
    rintro e w6 ⟨rfl, he⟩
    have HX6 := Lib.hid (HX5.out.trans he)
    have K6 := Lib.hid (Cs.ext K5.out he)
    clear he K5 HX5
    obtain ⟨tk, htk⟩ : ∃ tk, tkE l h n = tk := ⟨_, rfl⟩
    rw [htk] at HSP ⊢
    clear htk
    by_cases hk0 : tk = 0
    · subst hk0
      have HFIN := Lib.hid (show depS l a n = (plG l { h with dep := (h.dep + n) % M256 }, 0) by rw [HSP.out, if_neg (by simp), if_neg (by simp)])
      have HWX := Lib.hid (Cs.rg (Cs.ext HW.out HX6.out))
      have HDR := Lib.hid (Tl.dep K6.out)
      go_wp2_with (first
        | ((with_reducible refine wpList_load_wordIn ?_ (.tmp 30) ?_ g8 1 (h.dep) ?_ ?_ ?_); (exact rfl); (exact rfl); (exact rfl); (exact HDR.out))
        | ((with_reducible refine wpList_load_wordIn ?_ (.tmp 5) ?_ gW 0 (n) ?_ ?_ ?_); (exact rfl); (exact rfl); (exact rfl); (exact HWX.out)))
      refine (add_any h.dep n _ HDL.out HN.out).mono ?_
      rintro e w7 ⟨rfl, he⟩
      have HX7 := Lib.hid (HX6.out.trans he)
      have K7 := Lib.hid (Cs.ext K6.out he)
      clear he K6 HX6 HDR
      obtain ⟨d, hd⟩ : ∃ d, (h.dep + n) % M256 = d := ⟨_, rfl⟩
      have HDM := Lib.hid (show d < M256 by rw [← hd]; exact Nat.mod_lt _ M256_pos)
      rw [hd] at HFIN ⊢
      clear hd
      go_upto_region 8 with ((with_reducible refine wpList_store_in ?_ ?_ 29 (.tmp 37) (.tmp 34) ?_ g8 1 165 ((tlc h v)) (wc d) ?_ ?_ ?_ ?_ ?_ ?_ ?_); (exact rfl); (exact rfl); (exact rfl); (exact rfl); (exact rfl); (exact K7.out); (exact winfo); (exact of_decide_eq_true rfl); (exact wc_one d); intro w8 k8 g8; have K8 := Lib.hid k8; have G8 := Lib.hid g8; clear k8 g8)
      have K8' := Lib.hid (show Tl w8 g8 { h with dep := d } v by have := K8.out; rw [layC_dep] at this; exact this)
      have HG0 := Lib.hid (show w0.heap.size ≤ w8.heap.size from Nat.le_trans HX7.out.size G8.out.size)
      have HX8 := Lib.hid (HX7.out.grown G8.out HG08.out)
      clear K8 G8 K7 HX7
      go_wp2_with ((with_reducible refine wpList_load_tl ?_ (.tmp 8) ?_ (g8) ({ h with dep := d }) (v) ?_ ?_ ?_); (exact rfl); (exact rfl); (exact rfl); (exact K8'.out))
      refine (ledger_any { h with dep := d } v l _ ⟨HROK.out.1, HDM.out, HROK.out.2.2⟩ (HS.out.ext (HE.out.trans HX8.out)) HRI.out (by have := HLN.out; omega)).mono ?_
      rintro e w9 ⟨v', rfl, ho, he⟩
      have HO := Lib.hid (ho.mono (HE.out.trans HX8.out).size)
      have HX9 := Lib.hid (HX8.out.trans he)
      have HRX := Lib.hid (Cs.ext HR.out HX9.out)
      clear ho he
      have HV1 := Lib.hid (show v'.oneCell' = true by obtain ⟨A, c, e, _⟩ := HO.out.hds.len; rw [e]; rfl)
      go_wp2_with ((with_reducible refine wpList_store_agg ?_ ?_ 88 (.tmp 6) (.tmp 39) ?_ ldinfo gR #[.slice none 0 0] #[v'] ?_ ?_ ?_ ?_ ?_ ?_ ?_); (exact rfl); (exact rfl); (exact rfl); (exact one_val HV1.out); (exact rfl); (exact rfl); (exact HRX.out); (exact rfl); (exact rfl); intro w10 k10 g10; have K10 := Lib.hid k10; have G10 := Lib.hid g10; clear k10 g10)
      refine bodyPost_ret (results_ld_tmp Try.results77 _ _ gR _ rfl K10.out) rfl ?_
      exact ⟨v', by rw [HFIN.out]; rfl, by rw [HFIN.out]; exact HO.out.keptT G10.out HRX.out (by decide), (HE.out.trans HX9.out).grown G10.out HGR.out⟩
    · have hk1 : (tk != 0) = true := by simpa using hk0
      have HFIN := Lib.hid (show depS l a n = ([], tk) by rw [HSP.out, if_neg (by simp), if_pos hk0])
      clear hk0
      have HRX := Lib.hid (Cs.ext HR.out HX6.out)
      go_wp2_with ((with_reducible refine wpList_store_agg ?_ ?_ 88 (.tmp 6) (.tmp 26) ?_ ldinfo gR #[.slice none 0 0] #[.slice none 0 0] ?_ ?_ ?_ ?_ ?_ ?_ ?_); (exact rfl); (exact rfl); (exact rfl); (exact one_slice _ _ _); (exact rfl); (exact rfl); (exact HRX.out); (exact rfl); (exact rfl); intro w9 k9 g9; have K9 := Lib.hid k9; have G9 := Lib.hid g9; clear k9 g9)
      refine bodyPost_ret (results_ld_tmp Try.results77 _ _ gR _ rfl K9.out) rfl ?_
      exact ⟨_, by rw [HFIN.out]; rfl, by rw [HFIN.out]; exact OwnH.nil _ _, (HE.out.trans HX6.out).grown G9.out HGR.out⟩
  · have ht1 : (te != 0) = true := by simpa using ht0
    have HFIN := Lib.hid (show depS l a n = ([], te) by rw [HSP.out, if_pos ht0])
    clear ht0
    have HRX := Lib.hid (Cs.ext HR.out HX5.out)
    go_wp2_with ((with_reducible refine wpList_store_agg ?_ ?_ 88 (.tmp 6) (.tmp 19) ?_ ldinfo gR #[.slice none 0 0] #[.slice none 0 0] ?_ ?_ ?_ ?_ ?_ ?_ ?_); (exact rfl); (exact rfl); (exact rfl); (exact one_slice _ _ _); (exact rfl); (exact rfl); (exact HRX.out); (exact rfl); (exact rfl); intro w9 k9 g9; have K9 := Lib.hid k9; have G9 := Lib.hid g9; clear k9 g9)
    refine bodyPost_ret (results_ld_tmp Try.results77 _ _ gR _ rfl K9.out) rfl ?_
    exact ⟨_, by rw [HFIN.out]; rfl, by rw [HFIN.out]; exact OwnH.nil _ _, (HE.out.trans HX5.out).grown G9.out HGR.out⟩
set_option maxRecDepth 100000 in
set_option maxHeartbeats 4000000 in
theorem withdraw_any (v : Value) (l : List Hd) (a : Nat) (n : Nat) (w : World) (hs : Hds w v l) (ha : a < 18446744073709551616) (hn : n < M256) :
    Calls Try.prog 79 #[.agg #[v], .int .u64 (a : Nat), wv n] w (RetG w (wdrS l a n)) := by
  have HS := Lib.hid hs
  have HA := Lib.hid ha
  have hv1 : v.oneCell' = true := by obtain ⟨A, c, rfl, _⟩ := hs.len; rfl
  have HV := Lib.hid hv1
  have HN := Lib.hid hn
  obtain ⟨w0, hw0⟩ : ∃ w0, ((w.alloc (.cells #[v] 88)).alloc (.cells (wc n) 29)).alloc (.cells #[.slice none 0 0] 88) = w0 := ⟨_, rfl⟩
  have HW0 := Lib.hid hw0
  have HL : Hid (Cs w0 w.heap.size 88 #[v]) := Lib.hid (by rw [← hw0]; exact Cs.alloc (Cs.alloc (Cs.new _ _ _ _ rfl) _) _)
  have HW : Hid (Cs w0 (w.heap.size + 1) 29 (wc n)) := Lib.hid (by rw [← hw0]; exact Cs.alloc (Cs.new _ _ _ _ (by rw [World.size_alloc])) _)
  have HR : Hid (Cs w0 (w.heap.size + 2) 88 #[.slice none 0 0]) := Lib.hid (by rw [← hw0]; exact Cs.new _ _ _ _ (by rw [World.size_alloc, World.size_alloc]))
  have HE : Hid (Ext w w0) := Lib.hid (by rw [← hw0]; exact ((((Ext.refl w).alloc _).alloc _).alloc _))
  clear hs hw0 hv1 ha
  unfold wv
  go_enter Try.func79, Try.ntmps79
  go_upto_region 1 with fail
  rw [HW0.out]
  clear HW0
  obtain ⟨gL, hgL⟩ : ∃ g, w.heap.size = g := ⟨_, rfl⟩
  obtain ⟨gW, hgW⟩ : ∃ g, w.heap.size + 1 = g := ⟨_, rfl⟩
  obtain ⟨gR, hgR⟩ : ∃ g, w.heap.size + 2 = g := ⟨_, rfl⟩
  have HGL := Lib.hid (show w.heap.size ≤ gL by omega)
  have HGW := Lib.hid (show w.heap.size ≤ gW by omega)
  have HGR := Lib.hid (show w.heap.size ≤ gR by omega)
  rw [hgR] at HR ⊢
  rw [hgW] at HW ⊢
  rw [hgL] at HL ⊢
  clear hgL hgW hgR
  have q2 := HL.out.cell 0 _ rfl
  go_wp2_with fail
  refine (tellerOf_any v l a _ (HS.out.ext HE.out) HA.out).mono ?_
  rintro e w1 ⟨rfl, he⟩
  have HX := Lib.hid he
  have HTO := Lib.hid (telV_one (l := l) (a := a) HV.out)
  have HTS := Lib.hid (telV_size l a v)
  clear he q2
  obtain ⟨tv, htv⟩ : ∃ tv, telV l a v = tv := ⟨_, rfl⟩
  obtain ⟨te, hte⟩ : ∃ te, teE l a = te := ⟨_, rfl⟩
  have HTV := Lib.hid htv
  have HTE := Lib.hid hte
  rw [htv] at HTO HTS ⊢
  rw [hte] at ⊢
  clear htv hte
  go_upto_region 2 with ((with_reducible refine wpList_store_agg ?_ ?_ 165 (.tmp 8) (.tmp 16) ?_ tlinfo w1.heap.size (tlc hz0 (.slice none 0 0)) tv ?_ ?_ ?_ ?_ ?_ ?_ ?_); (exact rfl); (exact rfl); (exact rfl); (exact HTO.out); (exact rfl); (exact rfl); (rw [← lit_tl0]; exact Cs.new _ _ _ _ rfl); (exact rfl); (exact HTS.out); intro w5 k5 g5; have K5 := Lib.hid k5; have G5 := Lib.hid g5; clear k5 g5)
  have HX5 := Lib.hid (HX.out.trans (((Ext.refl w1).alloc _).grown G5.out (Nat.le_refl _)))
  have HG8 := Lib.hid (show w.heap.size ≤ w1.heap.size from (HE.out.trans HX.out).size)
  have HG08 := Lib.hid (show w0.heap.size ≤ w1.heap.size from HX.out.size)
  obtain ⟨g8, hg8⟩ : ∃ g8, w1.heap.size = g8 := ⟨_, rfl⟩
  rw [hg8] at K5 HG8 HG08 ⊢
  clear hg8 HX G5
  have HSP : Hid (wdrS l a n = if te ≠ 0 then ([], te) else if (rowG l a).dep < n then ([], 162) else (plG l { rowG l a with dep := (rowG l a).dep - n }, 0)) := Lib.hid (by rw [← HTE.out]; rfl)
  by_cases ht0 : te = 0
  · subst ht0
    obtain ⟨hr, ha0⟩ := teE_zero HTE.out
    have HRI := Lib.hid (rightG_rise hr)
    have HLN := Lib.hid (rightG_parts hr).1
    have HROK := Lib.hid (rowG_ok HS.out.oks HA.out (a := a))
    have HRF := Lib.hid (rowG_fits hr a)
    have htv : tv = tlc (rowG l a) v := by rw [← HTV.out, telV_zero HTE.out]
    subst htv
    obtain ⟨h, hh⟩ : ∃ h, rowG l a = h := ⟨_, rfl⟩
    rw [hh] at HROK HSP K5 HRF HTV HTO HTS
    clear hr ha0 hh
    have HWX := Lib.hid (Cs.rg (Cs.ext HW.out HX5.out))
    have HDR := Lib.hid (Tl.dep K5.out)
    have hvok := HROK.out.2.1
    have HDL := Lib.hid hvok
    clear hvok
    go_wp2_with (first
      | ((with_reducible refine wpList_load_wordIn ?_ (.tmp 24) ?_ g8 1 (h.dep) ?_ ?_ ?_); (exact rfl); (exact rfl); (exact rfl); (exact HDR.out))
      | ((with_reducible refine wpList_load_wordIn ?_ (.tmp 5) ?_ gW 0 (n) ?_ ?_ ?_); (exact rfl); (exact rfl); (exact rfl); (exact HWX.out)))
    refine (sub_any h.dep n _ HDL.out HN.out).mono ?_
    rintro e w7 ⟨rfl, he⟩
    have HX7 := Lib.hid (HX5.out.trans he)
    have K7 := Lib.hid (Cs.ext K5.out he)
    clear he K5 HX5 HDR
    obtain ⟨d, hd⟩ : ∃ d, (h.dep + M256 - n) % M256 = d := ⟨_, rfl⟩
    have HDD := Lib.hid hd
    rw [hd]
    clear hd
    go_upto_region 5 with ((with_reducible refine wpList_store_word rfl rfl 29 (.tmp 10) (.tmp 28) rfl winfo w7.heap.size (wc 0) d ?_ ?_ ?_ ?_ ?_); (exact rfl); (exact rfl); (exact Cs.new _ _ _ _ rfl); (exact rfl); intro w6 k6 g6; have K6 := Lib.hid k6; have G6 := Lib.hid g6; clear k6 g6)
    have HX6 := Lib.hid (HX7.out.trans (((Ext.refl w7).alloc _).grown G6.out (Nat.le_refl _)))
    have K8 := Lib.hid (Cs.ext K7.out (((Ext.refl w7).alloc (.cells (wc 0) 29)).grown G6.out (Nat.le_refl _)))
    obtain ⟨g10, hg10⟩ : ∃ g, w7.heap.size = g := ⟨_, rfl⟩
    rw [hg10] at K6 ⊢
    clear hg10 G6 K7 HX7
    by_cases hlt : h.dep < n
    · have hu : und h.dep n = true := decide_eq_true hlt
      have HFIN := Lib.hid (show wdrS l a n = ([], 162) by rw [HSP.out, if_neg (by simp), if_pos hlt])
      rw [hu]
      clear hlt hu
      have HRX := Lib.hid (Cs.ext HR.out HX6.out)
      go_wp2_with ((with_reducible refine wpList_store_agg ?_ ?_ 88 (.tmp 6) (.tmp 31) ?_ ldinfo gR #[.slice none 0 0] #[.slice none 0 0] ?_ ?_ ?_ ?_ ?_ ?_ ?_); (exact rfl); (exact rfl); (exact rfl); (exact one_slice _ _ _); (exact rfl); (exact rfl); (exact HRX.out); (exact rfl); (exact rfl); intro w9 k9 g9; have K9 := Lib.hid k9; have G9 := Lib.hid g9; clear k9 g9)
      refine bodyPost_ret (results_ld_tmp Try.results79 _ _ gR _ rfl K9.out) rfl ?_
      exact ⟨_, by rw [HFIN.out]; rfl, by rw [HFIN.out]; exact OwnH.nil _ _, (HE.out.trans HX6.out).grown G9.out HGR.out⟩
    · have hu : und h.dep n = false := decide_eq_false hlt
      have HFIN := Lib.hid (show wdrS l a n = (plG l { h with dep := d }, 0) by rw [HSP.out, if_neg (by simp), if_neg hlt, show d = h.dep - n by rw [← HDD.out, show h.dep + M256 - n = h.dep - n + M256 by omega, Nat.add_mod_right, Nat.mod_eq_of_lt (by have := HDL.out; omega)]])
      have HDM := Lib.hid (show d < M256 by rw [← HDD.out]; exact Nat.mod_lt _ M256_pos)
      have HWD := Lib.hid (Cs.rg K6.out)
      rw [hu]
      clear hlt hu
      go_upto_region 8 with (first
        | ((with_reducible refine wpList_load_wordIn ?_ (.tmp 10) ?_ g10 0 (d) ?_ ?_ ?_); (exact rfl); (exact rfl); (exact rfl); (exact HWD.out))
        | ((with_reducible refine wpList_store_in ?_ ?_ 29 (.tmp 34) (.tmp 32) ?_ g8 1 165 ((tlc h v)) (wc d) ?_ ?_ ?_ ?_ ?_ ?_ ?_); (exact rfl); (exact rfl); (exact rfl); (exact rfl); (exact rfl); (exact K8.out); (exact winfo); (exact of_decide_eq_true rfl); (exact wc_one d); intro w8 k8 g8; have K8 := Lib.hid k8; have G8 := Lib.hid g8; clear k8 g8))
      have K9 := Lib.hid (show Tl w8 g8 { h with dep := d } v by have := K8.out; rw [layC_dep] at this; exact this)
      have HX8 := Lib.hid (HX6.out.grown G8.out HG08.out)
      clear K8 G8 HX6 K6 HWD
      have HL8 := Lib.hid (show w.heap.size ≤ _ from (HE.out.trans HX8.out).size)
      go_wp2_with ((with_reducible refine wpList_load_tl ?_ (.tmp 8) ?_ (g8) ({ h with dep := d }) (v) ?_ ?_ ?_); (exact rfl); (exact rfl); (exact rfl); (exact K9.out))
      refine (ledger_any { h with dep := d } v l _ ⟨HROK.out.1, HDM.out, HROK.out.2.2⟩ (HS.out.ext (HE.out.trans HX8.out)) HRI.out (by have := HLN.out; omega)).mono ?_
      rintro e w9 ⟨v', rfl, ho, he⟩
      have HO := Lib.hid (ho.mono HL8.out)
      have HX9 := Lib.hid (HX8.out.trans he)
      have HRX := Lib.hid (Cs.ext HR.out HX9.out)
      clear ho he
      have HV1 := Lib.hid (show v'.oneCell' = true by obtain ⟨A, c, e, _⟩ := HO.out.hds.len; rw [e]; rfl)
      go_wp2_with ((with_reducible refine wpList_store_agg ?_ ?_ 88 (.tmp 6) (.tmp 36) ?_ ldinfo gR #[.slice none 0 0] #[v'] ?_ ?_ ?_ ?_ ?_ ?_ ?_); (exact rfl); (exact rfl); (exact rfl); (exact one_val HV1.out); (exact rfl); (exact rfl); (exact HRX.out); (exact rfl); (exact rfl); intro w10 k10 g10; have K10 := Lib.hid k10; have G10 := Lib.hid g10; clear k10 g10)
      refine bodyPost_ret (results_ld_tmp Try.results79 _ _ gR _ rfl K10.out) rfl ?_
      exact ⟨v', by rw [HFIN.out]; rfl, by rw [HFIN.out]; exact HO.out.keptT G10.out HRX.out (by decide), (HE.out.trans HX9.out).grown G10.out HGR.out⟩
  · have ht1 : (te != 0) = true := by simpa using ht0
    have HFIN := Lib.hid (show wdrS l a n = ([], te) by rw [HSP.out, if_pos ht0])
    clear ht0
    have HRX := Lib.hid (Cs.ext HR.out HX5.out)
    go_wp2_with ((with_reducible refine wpList_store_agg ?_ ?_ 88 (.tmp 6) (.tmp 20) ?_ ldinfo gR #[.slice none 0 0] #[.slice none 0 0] ?_ ?_ ?_ ?_ ?_ ?_ ?_); (exact rfl); (exact rfl); (exact rfl); (exact one_slice _ _ _); (exact rfl); (exact rfl); (exact HRX.out); (exact rfl); (exact rfl); intro w9 k9 g9; have K9 := Lib.hid k9; have G9 := Lib.hid g9; clear k9 g9)
    refine bodyPost_ret (results_ld_tmp Try.results79 _ _ gR _ rfl K9.out) rfl ?_
    exact ⟨_, by rw [HFIN.out]; rfl, by rw [HFIN.out]; exact OwnH.nil _ _, (HE.out.trans HX5.out).grown G9.out HGR.out⟩
set_option maxRecDepth 100000 in
set_option maxHeartbeats 4000000 in
theorem bond_any (v : Value) (l : List Hd) (a : Nat) (n d : Nat) (w : World) (hs : Hds w v l) (ha : a < 18446744073709551616) (hn : n < M256) (hd : d < 18446744073709551616) :
    Calls Try.prog 78 #[.agg #[v], .int .u64 (a : Nat), wv n, .int .u64 (d : Nat)] w (RetG w (bndS l a n d)) := by
  have HS := Lib.hid hs
  have HA := Lib.hid ha
  have hv1 : v.oneCell' = true := by obtain ⟨A, c, rfl, _⟩ := hs.len; rfl
  have HV := Lib.hid hv1
  have HN := Lib.hid hn
  have HDB := Lib.hid hd
  clear hd
  obtain ⟨w0, hw0⟩ : ∃ w0, ((w.alloc (.cells #[v] 88)).alloc (.cells (wc n) 29)).alloc (.cells #[.slice none 0 0] 88) = w0 := ⟨_, rfl⟩
  have HW0 := Lib.hid hw0
  have HL : Hid (Cs w0 w.heap.size 88 #[v]) := Lib.hid (by rw [← hw0]; exact Cs.alloc (Cs.alloc (Cs.new _ _ _ _ rfl) _) _)
  have HW : Hid (Cs w0 (w.heap.size + 1) 29 (wc n)) := Lib.hid (by rw [← hw0]; exact Cs.alloc (Cs.new _ _ _ _ (by rw [World.size_alloc])) _)
  have HR : Hid (Cs w0 (w.heap.size + 2) 88 #[.slice none 0 0]) := Lib.hid (by rw [← hw0]; exact Cs.new _ _ _ _ (by rw [World.size_alloc, World.size_alloc]))
  have HE : Hid (Ext w w0) := Lib.hid (by rw [← hw0]; exact ((((Ext.refl w).alloc _).alloc _).alloc _))
  clear hs hw0 hv1 ha
  unfold wv
  go_enter Try.func78, Try.ntmps78
  go_upto_region 1 with fail
  rw [HW0.out]
  clear HW0
  obtain ⟨gL, hgL⟩ : ∃ g, w.heap.size = g := ⟨_, rfl⟩
  obtain ⟨gW, hgW⟩ : ∃ g, w.heap.size + 1 = g := ⟨_, rfl⟩
  obtain ⟨gR, hgR⟩ : ∃ g, w.heap.size + 2 = g := ⟨_, rfl⟩
  have HGL := Lib.hid (show w.heap.size ≤ gL by omega)
  have HGW := Lib.hid (show w.heap.size ≤ gW by omega)
  have HGR := Lib.hid (show w.heap.size ≤ gR by omega)
  rw [hgR] at HR ⊢
  rw [hgW] at HW ⊢
  rw [hgL] at HL ⊢
  clear hgL hgW hgR
  have q2 := HL.out.cell 0 _ rfl
  go_wp2_with fail
  refine (tellerOf_any v l a _ (HS.out.ext HE.out) HA.out).mono ?_
  rintro e w1 ⟨rfl, he⟩
  have HX := Lib.hid he
  have HTO := Lib.hid (telV_one (l := l) (a := a) HV.out)
  have HTS := Lib.hid (telV_size l a v)
  clear he q2
  obtain ⟨tv, htv⟩ : ∃ tv, telV l a v = tv := ⟨_, rfl⟩
  obtain ⟨te, hte⟩ : ∃ te, teE l a = te := ⟨_, rfl⟩
  have HTV := Lib.hid htv
  have HTE := Lib.hid hte
  rw [htv] at HTO HTS ⊢
  rw [hte] at ⊢
  clear htv hte
  go_upto_region 2 with ((with_reducible refine wpList_store_agg ?_ ?_ 165 (.tmp 10) (.tmp 17) ?_ tlinfo w1.heap.size (tlc hz0 (.slice none 0 0)) tv ?_ ?_ ?_ ?_ ?_ ?_ ?_); (exact rfl); (exact rfl); (exact rfl); (exact HTO.out); (exact rfl); (exact rfl); (rw [← lit_tl0]; exact Cs.new _ _ _ _ rfl); (exact rfl); (exact HTS.out); intro w5 k5 g5; have K5 := Lib.hid k5; have G5 := Lib.hid g5; clear k5 g5)
  have HX5 := Lib.hid (HX.out.trans (((Ext.refl w1).alloc _).grown G5.out (Nat.le_refl _)))
  have HG8 := Lib.hid (show w.heap.size ≤ w1.heap.size from (HE.out.trans HX.out).size)
  have HG08 := Lib.hid (show w0.heap.size ≤ w1.heap.size from HX.out.size)
  obtain ⟨g8, hg8⟩ : ∃ g8, w1.heap.size = g8 := ⟨_, rfl⟩
  rw [hg8] at K5 HG8 HG08 ⊢
  clear hg8 HX G5
  have HSP : Hid (bndS l a n d = if te ≠ 0 then ([], te) else if d = 0 ∨ 1073741824 < d ∨ d < (rowG l a).dly then ([], 2) else if (rowG l a).stkB = false ∧ n = 0 then ([], 172) else if tkE l (rowG l a) n ≠ 0 then ([], tkE l (rowG l a) n) else (plG l { rowG l a with stk := ((rowG l a).stk + n) % M256, dly := d, fre := 0 }, 0)) := Lib.hid (by rw [← HTE.out]; rfl)
  by_cases ht0 : te = 0
  · subst ht0
    obtain ⟨hr, ha0⟩ := teE_zero HTE.out
    have HRI := Lib.hid (rightG_rise hr)
    have HLN := Lib.hid (rightG_parts hr).1
    have HROK := Lib.hid (rowG_ok HS.out.oks HA.out (a := a))
    have HRF := Lib.hid (rowG_fits hr a)
    have htv : tv = tlc (rowG l a) v := by rw [← HTV.out, telV_zero HTE.out]
    subst htv
    obtain ⟨h, hh⟩ : ∃ h, rowG l a = h := ⟨_, rfl⟩
    rw [hh] at HROK HSP K5 HRF HTV HTO HTS
    clear hr ha0 hh
    have q9 := Tl.dly K5.out
    by_cases hd0 : d = 0
    · have e1 : ((d : Nat) : Int) == 0 := by rw [beq_iff_eq]; omega
      have e2 : (d == 0) = true := by rw [beq_iff_eq]; exact hd0
      have e1' : (((d : Nat) : Int) == 0) = true := e1
      have HFIN := Lib.hid (show bndS l a n d = ([], 2) by rw [HSP.out, if_neg (by simp), if_pos (.inl hd0)])
      clear hd0 e1 q9
      have HRX := Lib.hid (Cs.ext HR.out HX5.out)
      go_wp2_with ((with_reducible refine wpList_store_agg ?_ ?_ 88 (.tmp 8) (.tmp 38) ?_ ldinfo gR #[.slice none 0 0] #[.slice none 0 0] ?_ ?_ ?_ ?_ ?_ ?_ ?_); (exact rfl); (exact rfl); (exact rfl); (exact one_slice _ _ _); (exact rfl); (exact rfl); (exact HRX.out); (exact rfl); (exact rfl); intro w9 k9 g9; have K9 := Lib.hid k9; have G9 := Lib.hid g9; clear k9 g9)
      refine bodyPost_ret (results_ld_tmp Try.results78 _ _ gR _ rfl K9.out) rfl ?_
      exact ⟨_, by rw [HFIN.out]; rfl, by rw [HFIN.out]; exact OwnH.nil _ _, (HE.out.trans HX5.out).grown G9.out HGR.out⟩
    · have e1 : (((d : Nat) : Int) == 0) = false := by rw [beq_eq_false_iff_ne]; omega
      have e2 : (d == 0) = false := by rw [beq_eq_false_iff_ne]; exact hd0
      by_cases hd1 : 1073741824 < d
      · have e3 : decide ((1073741824 : Int) < ((d : Nat) : Int)) = true := decide_eq_true (by omega)
        have e4 : decide (1073741824 < d) = true := decide_eq_true hd1
        have HFIN := Lib.hid (show bndS l a n d = ([], 2) by rw [HSP.out, if_neg (by simp), if_pos (.inr (.inl hd1))])
        clear hd0 hd1 q9
        have HRX := Lib.hid (Cs.ext HR.out HX5.out)
        go_wp2_with ((with_reducible refine wpList_store_agg ?_ ?_ 88 (.tmp 8) (.tmp 38) ?_ ldinfo gR #[.slice none 0 0] #[.slice none 0 0] ?_ ?_ ?_ ?_ ?_ ?_ ?_); (exact rfl); (exact rfl); (exact rfl); (exact one_slice _ _ _); (exact rfl); (exact rfl); (exact HRX.out); (exact rfl); (exact rfl); intro w9 k9 g9; have K9 := Lib.hid k9; have G9 := Lib.hid g9; clear k9 g9)
        refine bodyPost_ret (results_ld_tmp Try.results78 _ _ gR _ rfl K9.out) rfl ?_
        exact ⟨_, by rw [HFIN.out]; rfl, by rw [HFIN.out]; exact OwnH.nil _ _, (HE.out.trans HX5.out).grown G9.out HGR.out⟩
      · have e3 : decide ((1073741824 : Int) < ((d : Nat) : Int)) = false := decide_eq_false (by omega)
        have e4 : decide (1073741824 < d) = false := decide_eq_false hd1
        by_cases hd2 : d < h.dly
        · have e5 : decide (((d : Nat) : Int) < ((h.dly : Nat) : Int)) = true := decide_eq_true (by omega)
          have e6 : decide (d < h.dly) = true := decide_eq_true hd2
          have HFIN := Lib.hid (show bndS l a n d = ([], 2) by rw [HSP.out, if_neg (by simp), if_pos (.inr (.inr hd2))])
          clear hd0 hd1 hd2
          have HRX := Lib.hid (Cs.ext HR.out HX5.out)
          go_wp2_with ((with_reducible refine wpList_store_agg ?_ ?_ 88 (.tmp 8) (.tmp 38) ?_ ldinfo gR #[.slice none 0 0] #[.slice none 0 0] ?_ ?_ ?_ ?_ ?_ ?_ ?_); (exact rfl); (exact rfl); (exact rfl); (exact one_slice _ _ _); (exact rfl); (exact rfl); (exact HRX.out); (exact rfl); (exact rfl); intro w9 k9 g9; have K9 := Lib.hid k9; have G9 := Lib.hid g9; clear k9 g9)
          refine bodyPost_ret (results_ld_tmp Try.results78 _ _ gR _ rfl K9.out) rfl ?_
          exact ⟨_, by rw [HFIN.out]; rfl, by rw [HFIN.out]; exact OwnH.nil _ _, (HE.out.trans HX5.out).grown G9.out HGR.out⟩
        · have e5 : decide (((d : Nat) : Int) < ((h.dly : Nat) : Int)) = false := decide_eq_false (by omega)
          have e6 : decide (d < h.dly) = false := decide_eq_false hd2
          replace HSP := Lib.hid (show bndS l a n d = if h.stkB = false ∧ n = 0 then ([], 172) else if tkE l h n ≠ 0 then ([], tkE l h n) else (plG l { h with stk := (h.stk + n) % M256, dly := d, fre := 0 }, 0) by rw [HSP.out, if_neg (by simp), if_neg (by omega)])
          clear hd0 hd1 hd2
          go_wp2_with ((with_reducible refine wpList_load_tl ?_ (.tmp 10) ?_ (g8) (h) (v) ?_ ?_ ?_); (exact rfl); (exact rfl); (exact rfl); (exact K5.out))
          clear q9
          refine (staked_any h v _ HROK.out HV.out).mono ?_
          rintro e w6 ⟨rfl, he⟩
          have HX6 := Lib.hid (HX5.out.trans he)
          have K6 := Lib.hid (Cs.ext K5.out he)
          clear he K5 HX5
          have HWX := Lib.hid (Cs.rg (Cs.ext HW.out HX6.out))
          by_cases hno : h.stkB = false ∧ n = 0
          · obtain ⟨hs0, hn0⟩ := hno
            have e7 : (n == 0) = true := by rw [beq_iff_eq]; exact hn0
            have HFIN := Lib.hid (show bndS l a n d = ([], 172) by rw [HSP.out, if_pos ⟨hs0, hn0⟩])
            rw [hs0]
            clear hs0 hn0
            have HRX := Lib.hid (Cs.ext HR.out HX6.out)
            go_wp2_with (first
              | ((with_reducible refine wpList_load_wordIn ?_ (.tmp 6) ?_ gW 0 (n) ?_ ?_ ?_); (exact rfl); (exact rfl); (exact rfl); (exact HWX.out))
              | ((with_reducible refine wpList_eql_word ?_ (.tmp 44) (.tmp 45) ?_ (n) (0) HN.out (by decide) ?_ ?_ ?_); (exact rfl); (exact rfl); (exact rfl); (exact rfl))
              | ((with_reducible refine wpList_store_agg ?_ ?_ 88 (.tmp 8) (.tmp 48) ?_ ldinfo gR #[.slice none 0 0] #[.slice none 0 0] ?_ ?_ ?_ ?_ ?_ ?_ ?_); (exact rfl); (exact rfl); (exact rfl); (exact one_slice _ _ _); (exact rfl); (exact rfl); (exact HRX.out); (exact rfl); (exact rfl); intro w9 k9 g9; have K9 := Lib.hid k9; have G9 := Lib.hid g9; clear k9 g9))
            refine bodyPost_ret (results_ld_tmp Try.results78 _ _ gR _ rfl K9.out) rfl ?_
            exact ⟨_, by rw [HFIN.out]; rfl, by rw [HFIN.out]; exact OwnH.nil _ _, (HE.out.trans HX6.out).grown G9.out HGR.out⟩
          · replace HSP := Lib.hid (show bndS l a n d = if tkE l h n ≠ 0 then ([], tkE l h n) else (plG l { h with stk := (h.stk + n) % M256, dly := d, fre := 0 }, 0) by rw [HSP.out, if_neg hno])
            obtain ⟨sb, hsb⟩ : ∃ sb, h.stkB = sb := ⟨_, rfl⟩
            rw [hsb] at hno ⊢
            clear hsb
            cases sb with
            | true =>
              clear hno
              go_wp2_with (first
                | ((with_reducible refine wpList_load_wordIn ?_ (.tmp 6) ?_ gW 0 (n) ?_ ?_ ?_); (exact rfl); (exact rfl); (exact rfl); (exact HWX.out))
                | ((with_reducible refine wpList_eql_word ?_ (.tmp 44) (.tmp 45) ?_ (n) (0) HN.out (by decide) ?_ ?_ ?_); (exact rfl); (exact rfl); (exact rfl); (exact rfl))
                | ((with_reducible refine wpList_load_tl ?_ (.tmp 10) ?_ (g8) (h) (v) ?_ ?_ ?_); (exact rfl); (exact rfl); (exact rfl); (exact K6.out)))
              refine (takes_any h v l n _ HROK.out (HS.out.ext (HE.out.trans HX6.out)) HN.out (by have := HLN.out; omega)).mono ?_
              rintro e w7 ⟨rfl, he⟩
              have HX7 := Lib.hid (HX6.out.trans he)
              have K7 := Lib.hid (Cs.ext K6.out he)
              clear he K6 HX6 HWX
              obtain ⟨tk, htk⟩ : ∃ tk, tkE l h n = tk := ⟨_, rfl⟩
              rw [htk] at HSP ⊢
              clear htk
              by_cases hk0 : tk = 0
              · subst hk0
                have HFIN := Lib.hid (show bndS l a n d = (plG l { h with stk := (h.stk + n) % M256, dly := d, fre := 0 }, 0) by rw [HSP.out, if_neg (by simp)])
                have HWX := Lib.hid (Cs.rg (Cs.ext HW.out HX7.out))
                have HSR := Lib.hid (Tl.stk K7.out)
                have hvok := HROK.out.2.2.1
                have HDL := Lib.hid hvok
                clear hvok
                go_wp2_with (first
                  | ((with_reducible refine wpList_load_wordIn ?_ (.tmp 58) ?_ g8 5 (h.stk) ?_ ?_ ?_); (exact rfl); (exact rfl); (exact rfl); (exact HSR.out))
                  | ((with_reducible refine wpList_load_wordIn ?_ (.tmp 6) ?_ gW 0 (n) ?_ ?_ ?_); (exact rfl); (exact rfl); (exact rfl); (exact HWX.out)))
                refine (add_any h.stk n _ HDL.out HN.out).mono ?_
                rintro e wa ⟨rfl, he⟩
                have HXa := Lib.hid (HX7.out.trans he)
                have Ka := Lib.hid (Cs.ext K7.out he)
                clear he K7 HX7 HSR
                obtain ⟨s, hs⟩ : ∃ s, (h.stk + n) % M256 = s := ⟨_, rfl⟩
                have HDM := Lib.hid (show s < M256 by rw [← hs]; exact Nat.mod_lt _ M256_pos)
                rw [hs] at HFIN ⊢
                clear hs
                go_upto_region 12 with ((with_reducible refine wpList_store_in ?_ ?_ 29 (.tmp 65) (.tmp 62) ?_ g8 5 165 ((tlc h v)) (wc s) ?_ ?_ ?_ ?_ ?_ ?_ ?_); (exact rfl); (exact rfl); (exact rfl); (exact rfl); (exact rfl); (exact Ka.out); (exact winfo); (exact of_decide_eq_true rfl); (exact wc_one s); intro w8 k8 g8; have K8 := Lib.hid k8; have G8 := Lib.hid g8; clear k8 g8)
                have K8' := Lib.hid (show Tl w8 g8 { h with stk := s } v by have := K8.out; rw [layC_stk] at this; exact this)
                have HX8 := Lib.hid (HXa.out.grown G8.out HG08.out)
                clear K8 G8 Ka HXa
                go_upto_region 13 with (first
                  | ((with_reducible refine wpList_store_in1 ?_ ?_ 26 (.tmp 68) (.tmp 66) ?_ g8 9 165 ((tlc { h with stk := s } v)) (.int .u64 (d : Nat)) rfl ?_ ?_ ?_ u64info ?_ rfl ?_); (exact rfl); (exact rfl); (exact rfl); (exact rfl); (exact rfl); (exact K8'.out); (exact of_decide_eq_true rfl); intro w15 k15 g15; have K15 := Lib.hid k15; have G15 := Lib.hid g15; clear k15 g15)
                  | ((with_reducible refine wpList_store_in1 ?_ ?_ 26 (.tmp 70) (.const (.int .u64 0)) ?_ g8 10 165 ((layC (tlc { h with stk := s } v) 9 #[.int .u64 (d : Nat)])) (.int .u64 0) rfl ?_ ?_ ?_ u64info ?_ rfl ?_); (exact rfl); (exact rfl); (exact rfl); (exact rfl); (exact rfl); (exact K15.out); (exact of_decide_eq_true rfl); intro w16 k16 g16; have K16 := Lib.hid k16; have G16 := Lib.hid g16; clear k16 g16))
                have HXb := Lib.hid ((HX8.out.grown G15.out HG08.out).grown G16.out HG08.out)
                have Kb := Lib.hid (show Tl w16 g8 { h with stk := s, dly := d, fre := 0 } v from K16.out)
                clear K15 G15 K16 G16 HX8 K8'
                have HL8 := Lib.hid (show w.heap.size ≤ _ from (HE.out.trans HXb.out).size)
                go_wp2_with ((with_reducible refine wpList_load_tl ?_ (.tmp 10) ?_ (g8) ({ h with stk := s, dly := d, fre := 0 }) (v) ?_ ?_ ?_); (exact rfl); (exact rfl); (exact rfl); (exact Kb.out))
                refine (ledger_any { h with stk := s, dly := d, fre := 0 } v l _ ⟨HROK.out.1, HROK.out.2.1, HDM.out, HDB.out, Nat.zero_lt_succ _⟩ (HS.out.ext (HE.out.trans HXb.out)) HRI.out (by have := HLN.out; omega)).mono ?_
                rintro e w9 ⟨v', rfl, ho, he⟩
                have HO := Lib.hid (ho.mono HL8.out)
                have HX9 := Lib.hid (HXb.out.trans he)
                have HRX := Lib.hid (Cs.ext HR.out HX9.out)
                clear ho he
                have HV1 := Lib.hid (show v'.oneCell' = true by obtain ⟨A, c, e, _⟩ := HO.out.hds.len; rw [e]; rfl)
                go_wp2_with ((with_reducible refine wpList_store_agg ?_ ?_ 88 (.tmp 8) (.tmp 72) ?_ ldinfo gR #[.slice none 0 0] #[v'] ?_ ?_ ?_ ?_ ?_ ?_ ?_); (exact rfl); (exact rfl); (exact rfl); (exact one_val HV1.out); (exact rfl); (exact rfl); (exact HRX.out); (exact rfl); (exact rfl); intro w10 k10 g10; have K10 := Lib.hid k10; have G10 := Lib.hid g10; clear k10 g10)
                refine bodyPost_ret (results_ld_tmp Try.results78 _ _ gR _ rfl K10.out) rfl ?_
                exact ⟨v', by rw [HFIN.out]; rfl, by rw [HFIN.out]; exact HO.out.keptT G10.out HRX.out (by decide), (HE.out.trans HX9.out).grown G10.out HGR.out⟩
              · have hk1 : (tk != 0) = true := by simpa using hk0
                have HFIN := Lib.hid (show bndS l a n d = ([], tk) by rw [HSP.out, if_pos hk0])
                clear hk0
                have HRX := Lib.hid (Cs.ext HR.out HX7.out)
                go_wp2_with ((with_reducible refine wpList_store_agg ?_ ?_ 88 (.tmp 8) (.tmp 54) ?_ ldinfo gR #[.slice none 0 0] #[.slice none 0 0] ?_ ?_ ?_ ?_ ?_ ?_ ?_); (exact rfl); (exact rfl); (exact rfl); (exact one_slice _ _ _); (exact rfl); (exact rfl); (exact HRX.out); (exact rfl); (exact rfl); intro w9 k9 g9; have K9 := Lib.hid k9; have G9 := Lib.hid g9; clear k9 g9)
                refine bodyPost_ret (results_ld_tmp Try.results78 _ _ gR _ rfl K9.out) rfl ?_
                exact ⟨_, by rw [HFIN.out]; rfl, by rw [HFIN.out]; exact OwnH.nil _ _, (HE.out.trans HX7.out).grown G9.out HGR.out⟩
            | false =>
              have hn0 : n ≠ 0 := fun e => hno ⟨rfl, e⟩
              have e7 : (n == 0) = false := by rw [beq_eq_false_iff_ne]; exact hn0
              clear hno hn0
              go_wp2_with (first
                | ((with_reducible refine wpList_load_wordIn ?_ (.tmp 6) ?_ gW 0 (n) ?_ ?_ ?_); (exact rfl); (exact rfl); (exact rfl); (exact HWX.out))
                | ((with_reducible refine wpList_eql_word ?_ (.tmp 44) (.tmp 45) ?_ (n) (0) HN.out (by decide) ?_ ?_ ?_); (exact rfl); (exact rfl); (exact rfl); (exact rfl))
                | ((with_reducible refine wpList_load_tl ?_ (.tmp 10) ?_ (g8) (h) (v) ?_ ?_ ?_); (exact rfl); (exact rfl); (exact rfl); (exact K6.out)))
              refine (takes_any h v l n _ HROK.out (HS.out.ext (HE.out.trans HX6.out)) HN.out (by have := HLN.out; omega)).mono ?_
              rintro e w7 ⟨rfl, he⟩
              have HX7 := Lib.hid (HX6.out.trans he)
              have K7 := Lib.hid (Cs.ext K6.out he)
              clear he K6 HX6 HWX
              obtain ⟨tk, htk⟩ : ∃ tk, tkE l h n = tk := ⟨_, rfl⟩
              rw [htk] at HSP ⊢
              clear htk
              by_cases hk0 : tk = 0
              · subst hk0
                have HFIN := Lib.hid (show bndS l a n d = (plG l { h with stk := (h.stk + n) % M256, dly := d, fre := 0 }, 0) by rw [HSP.out, if_neg (by simp)])
                have HWX := Lib.hid (Cs.rg (Cs.ext HW.out HX7.out))
                have HSR := Lib.hid (Tl.stk K7.out)
                have hvok := HROK.out.2.2.1
                have HDL := Lib.hid hvok
                clear hvok
                go_wp2_with (first
                  | ((with_reducible refine wpList_load_wordIn ?_ (.tmp 58) ?_ g8 5 (h.stk) ?_ ?_ ?_); (exact rfl); (exact rfl); (exact rfl); (exact HSR.out))
                  | ((with_reducible refine wpList_load_wordIn ?_ (.tmp 6) ?_ gW 0 (n) ?_ ?_ ?_); (exact rfl); (exact rfl); (exact rfl); (exact HWX.out)))
                refine (add_any h.stk n _ HDL.out HN.out).mono ?_
                rintro e wa ⟨rfl, he⟩
                have HXa := Lib.hid (HX7.out.trans he)
                have Ka := Lib.hid (Cs.ext K7.out he)
                clear he K7 HX7 HSR
                obtain ⟨s, hs⟩ : ∃ s, (h.stk + n) % M256 = s := ⟨_, rfl⟩
                have HDM := Lib.hid (show s < M256 by rw [← hs]; exact Nat.mod_lt _ M256_pos)
                rw [hs] at HFIN ⊢
                clear hs
                go_upto_region 12 with ((with_reducible refine wpList_store_in ?_ ?_ 29 (.tmp 65) (.tmp 62) ?_ g8 5 165 ((tlc h v)) (wc s) ?_ ?_ ?_ ?_ ?_ ?_ ?_); (exact rfl); (exact rfl); (exact rfl); (exact rfl); (exact rfl); (exact Ka.out); (exact winfo); (exact of_decide_eq_true rfl); (exact wc_one s); intro w8 k8 g8; have K8 := Lib.hid k8; have G8 := Lib.hid g8; clear k8 g8)
                have K8' := Lib.hid (show Tl w8 g8 { h with stk := s } v by have := K8.out; rw [layC_stk] at this; exact this)
                have HX8 := Lib.hid (HXa.out.grown G8.out HG08.out)
                clear K8 G8 Ka HXa
                go_upto_region 13 with (first
                  | ((with_reducible refine wpList_store_in1 ?_ ?_ 26 (.tmp 68) (.tmp 66) ?_ g8 9 165 ((tlc { h with stk := s } v)) (.int .u64 (d : Nat)) rfl ?_ ?_ ?_ u64info ?_ rfl ?_); (exact rfl); (exact rfl); (exact rfl); (exact rfl); (exact rfl); (exact K8'.out); (exact of_decide_eq_true rfl); intro w15 k15 g15; have K15 := Lib.hid k15; have G15 := Lib.hid g15; clear k15 g15)
                  | ((with_reducible refine wpList_store_in1 ?_ ?_ 26 (.tmp 70) (.const (.int .u64 0)) ?_ g8 10 165 ((layC (tlc { h with stk := s } v) 9 #[.int .u64 (d : Nat)])) (.int .u64 0) rfl ?_ ?_ ?_ u64info ?_ rfl ?_); (exact rfl); (exact rfl); (exact rfl); (exact rfl); (exact rfl); (exact K15.out); (exact of_decide_eq_true rfl); intro w16 k16 g16; have K16 := Lib.hid k16; have G16 := Lib.hid g16; clear k16 g16))
                have HXb := Lib.hid ((HX8.out.grown G15.out HG08.out).grown G16.out HG08.out)
                have Kb := Lib.hid (show Tl w16 g8 { h with stk := s, dly := d, fre := 0 } v from K16.out)
                clear K15 G15 K16 G16 HX8 K8'
                have HL8 := Lib.hid (show w.heap.size ≤ _ from (HE.out.trans HXb.out).size)
                go_wp2_with ((with_reducible refine wpList_load_tl ?_ (.tmp 10) ?_ (g8) ({ h with stk := s, dly := d, fre := 0 }) (v) ?_ ?_ ?_); (exact rfl); (exact rfl); (exact rfl); (exact Kb.out))
                refine (ledger_any { h with stk := s, dly := d, fre := 0 } v l _ ⟨HROK.out.1, HROK.out.2.1, HDM.out, HDB.out, Nat.zero_lt_succ _⟩ (HS.out.ext (HE.out.trans HXb.out)) HRI.out (by have := HLN.out; omega)).mono ?_
                rintro e w9 ⟨v', rfl, ho, he⟩
                have HO := Lib.hid (ho.mono HL8.out)
                have HX9 := Lib.hid (HXb.out.trans he)
                have HRX := Lib.hid (Cs.ext HR.out HX9.out)
                clear ho he
                have HV1 := Lib.hid (show v'.oneCell' = true by obtain ⟨A, c, e, _⟩ := HO.out.hds.len; rw [e]; rfl)
                go_wp2_with ((with_reducible refine wpList_store_agg ?_ ?_ 88 (.tmp 8) (.tmp 72) ?_ ldinfo gR #[.slice none 0 0] #[v'] ?_ ?_ ?_ ?_ ?_ ?_ ?_); (exact rfl); (exact rfl); (exact rfl); (exact one_val HV1.out); (exact rfl); (exact rfl); (exact HRX.out); (exact rfl); (exact rfl); intro w10 k10 g10; have K10 := Lib.hid k10; have G10 := Lib.hid g10; clear k10 g10)
                refine bodyPost_ret (results_ld_tmp Try.results78 _ _ gR _ rfl K10.out) rfl ?_
                exact ⟨v', by rw [HFIN.out]; rfl, by rw [HFIN.out]; exact HO.out.keptT G10.out HRX.out (by decide), (HE.out.trans HX9.out).grown G10.out HGR.out⟩
              · have hk1 : (tk != 0) = true := by simpa using hk0
                have HFIN := Lib.hid (show bndS l a n d = ([], tk) by rw [HSP.out, if_pos hk0])
                clear hk0
                have HRX := Lib.hid (Cs.ext HR.out HX7.out)
                go_wp2_with ((with_reducible refine wpList_store_agg ?_ ?_ 88 (.tmp 8) (.tmp 54) ?_ ldinfo gR #[.slice none 0 0] #[.slice none 0 0] ?_ ?_ ?_ ?_ ?_ ?_ ?_); (exact rfl); (exact rfl); (exact rfl); (exact one_slice _ _ _); (exact rfl); (exact rfl); (exact HRX.out); (exact rfl); (exact rfl); intro w9 k9 g9; have K9 := Lib.hid k9; have G9 := Lib.hid g9; clear k9 g9)
                refine bodyPost_ret (results_ld_tmp Try.results78 _ _ gR _ rfl K9.out) rfl ?_
                exact ⟨_, by rw [HFIN.out]; rfl, by rw [HFIN.out]; exact OwnH.nil _ _, (HE.out.trans HX7.out).grown G9.out HGR.out⟩
  · have ht1 : (te != 0) = true := by simpa using ht0
    have HFIN := Lib.hid (show bndS l a n d = ([], te) by rw [HSP.out, if_pos ht0])
    clear ht0
    have HRX := Lib.hid (Cs.ext HR.out HX5.out)
    go_wp2_with ((with_reducible refine wpList_store_agg ?_ ?_ 88 (.tmp 8) (.tmp 22) ?_ ldinfo gR #[.slice none 0 0] #[.slice none 0 0] ?_ ?_ ?_ ?_ ?_ ?_ ?_); (exact rfl); (exact rfl); (exact rfl); (exact one_slice _ _ _); (exact rfl); (exact rfl); (exact HRX.out); (exact rfl); (exact rfl); intro w9 k9 g9; have K9 := Lib.hid k9; have G9 := Lib.hid g9; clear k9 g9)
    refine bodyPost_ret (results_ld_tmp Try.results78 _ _ gR _ rfl K9.out) rfl ?_
    exact ⟨_, by rw [HFIN.out]; rfl, by rw [HFIN.out]; exact OwnH.nil _ _, (HE.out.trans HX5.out).grown G9.out HGR.out⟩
end Go.Proofs.Ytepggbhibpjkpaa
