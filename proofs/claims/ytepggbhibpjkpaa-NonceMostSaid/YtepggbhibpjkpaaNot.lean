/- The law NonceMost: as many keys as there may be, and the last sequence. -/
import Derived.Test.YtepggbhibpjkpaaNoq
import Derived.Test.YtepggbhibpjkpaaNok
namespace Go.Proofs.Ytepggbhibpjkpaa
open Go.ChangeShapes Go.WideShapes Go.ChangeAt Go.RowKit Go.Shelf

set_option maxRecDepth 100000 in
theorem most_n (z : Int) : ∃ n : Nat, (n = 47 ∨ n = 48) ∧ wrap64 (48 - (wrap64 (z.tmod 2 + 2)).tmod 2) = (n : Int) := by
  have h : z.tmod 2 = -1 ∨ z.tmod 2 = 0 ∨ z.tmod 2 = 1 := by
    rcases Int.le_total 0 z with h0 | h0
    · rw [Int.tmod_eq_emod_of_nonneg h0]
      omega
    · obtain ⟨y, rfl⟩ : ∃ y, z = -y := ⟨-z, by omega⟩
      rw [Int.neg_tmod, Int.tmod_eq_emod_of_nonneg (by omega)]
      omega
  rcases h with h | h | h <;> rw [h]
  · exact ⟨47, .inl rfl, by kernel_rfl⟩
  · exact ⟨48, .inr rfl, by kernel_rfl⟩
  · exact ⟨47, .inl rfl, by kernel_rfl⟩
/-- The nonces of keys below n, each at the last sequence but one. -/
def mostL (n : Nat) : List Nn := (List.range n).map fun i => ⟨5, i, 18446744073709551614⟩
set_option maxRecDepth 100000 in
theorem mostL_snoc (n : Nat) : mostL (n + 1) = mostL n ++ [⟨5, n, 18446744073709551614⟩] := by unfold mostL; rw [List.range_succ, List.map_append]; rfl
set_option maxRecDepth 100000 in
theorem mostL_len (n : Nat) : (mostL n).length = n := by simp [mostL]
set_option maxRecDepth 100000 in
theorem mostL_ok {n : Nat} (hn : n ≤ 48) : ∀ p ∈ mostL n, p.ok := by
  intro p hp
  unfold mostL at hp
  obtain ⟨i, hi, rfl⟩ := List.mem_map.1 hp
  have := List.mem_range.1 hi
  exact ⟨by show 5 < _; decide, by show i < M256; unfold M256; omega, by show 18446744073709551614 < 18446744073709551616; decide⟩
set_option maxRecDepth 100000 in
theorem most_facts {n : Nat} (hn : n = 47 ∨ n = 48) : rightN (mostL n) = true ∧ usE (mostL n) 5 18446744073709551614 = 0 ∧ usE (usL (mostL n) 5 18446744073709551614) 5 18446744073709551615 = 6 := by
  rcases hn with rfl | rfl
  · exact ⟨by kernel_rfl, by kernel_rfl, by kernel_rfl⟩
  · exact ⟨by kernel_rfl, by kernel_rfl, by kernel_rfl⟩
def wm1 : Nat := ofL 0 9 9 0
def wm3 (n : Nat) : Nat := ofL 18446744073709551614 (n - 1) 0 0
/-- The three words that are used. -/
def wmL (n : Nat) : List Nat := [wm1, 18446744073709551614, wm3 n]
set_option maxRecDepth 100000 in
theorem wmL_lt {n : Nat} (hn : n ≤ 48) : ∀ i, i < 3 → (wmL n).getD i 0 < M256 := by
  intro i hi
  match i, hi with
  | 0, _ => exact ofL_lt _ _ _ _ (by decide) (by decide) (by decide) (by decide)
  | 1, _ => show 18446744073709551614 < M256; decide
  | 2, _ => exact ofL_lt _ _ _ _ (by decide) (by omega) (by decide) (by decide)
set_option maxRecDepth 100000 in
theorem wpList_build_words3 {ops : Array Oper} {rest : List Oper} {o : Oper} {a : Act} {W : World} {Q : Exit → Act → World → Prop} (hgd : Region.wanted o (yielded ops a.tmps) = true) (x y z : Operand) (ho : o.op = .buildSlice 42 3 #[(0, x), (1, y), (2, z)]) (l m n : Nat) (hx : a.eval x = wv l) (hy : a.eval y = wv m) (hz : a.eval z = wv n)
    (h : wpList Try.prog ops Q rest (a.put o.dst (.slice (some ⟨W.heap.size, 0, none⟩) 3 3)) (W.alloc (.cells (wc l ++ (wc m ++ wc n)) 29))) : wpList Try.prog ops Q (o :: rest) a W := by
  obtain ⟨i0, hi, hz0, hz1, hz2⟩ := info_parts winfo3
  refine wpList_step fun K hK' => ?_
  rw [if_pos hgd]
  have hK := hK' _ _ h
  have hp : (#[(0, x), (1, y), (2, z)] : Array (Nat × Operand)).map (fun (i, x) => (i, a.eval x)) = #[(0, wv l), (1, wv m), (2, wv n)] := by simp [hx, hy, hz]
  have hrun : (execOp a.eval o).run Try.prog W = .ok (.value (.slice (some ⟨W.heap.size, 0, none⟩) 3 3)) (W.alloc (.cells (wc l ++ (wc m ++ wc n)) 29)) := by
    simp only [execOp, ho]
    rw [hp]
    simp [wv, wc, lv, Instr.buildSlice, Instr.fill, go_sem, run_underlying Try.underlying42, Value.cells, sizeOf, typeInfo, hi, hz1]
  unfold Oper.wp
  rw [hrun]
  exact hK
set_option maxRecDepth 100000 in
theorem wmL_ws {W : World} {g n : Nat} (hn : n ≤ 48) (h : Cs W g 29 (wc wm1 ++ (wc 18446744073709551614 ++ wc (wm3 n)))) : Ws W (.slice (some ⟨g, 0, none⟩) 3 3) (wmL n) := by
  refine ⟨_, _, rfl, Nat.le_refl _, by unfold maxLen; show 3 ≤ _; omega, fun _ => ⟨g, 0, rfl, fun i hi j hj => ?_⟩, fun i hi => wmL_lt hn i hi⟩
  have hi3 : i < 3 := hi
  rw [Nat.zero_add]
  refine Cs.cell h _ _ ?_
  match i, hi3, j, hj with
  | 0, _, 0, _ => rfl
  | 0, _, 1, _ => rfl
  | 0, _, 2, _ => rfl
  | 0, _, 3, _ => rfl
  | 1, _, 0, _ => rfl
  | 1, _, 1, _ => rfl
  | 1, _, 2, _ => rfl
  | 1, _, 3, _ => rfl
  | 2, _, 0, _ => rfl
  | 2, _, 1, _ => rfl
  | 2, _, 2, _ => rfl
  | 2, _, 3, _ => rfl
def MsJ (g9 x g50 a : Nat) (w W : World) : Prop := Wd W g9 29 x ∧ Cs W g50 27 #[.int .u64 (a : Nat), .int .u64 5] ∧ Ext w W
set_option maxRecDepth 100000 in
theorem MsJ.ext {g9 x g50 a : Nat} {w W W' : World} (h : MsJ g9 x g50 a w W) (he : Ext W W') : MsJ g9 x g50 a w W' := ⟨Wd.ext h.1 he, Cs.ext h.2.1 he, h.2.2.trans he⟩
set_option maxRecDepth 100000 in
set_option maxHeartbeats 16000000 in
theorem nonceMost_any (z : Int) (a : Nat) (w : World) (ha : a < 18446744073709551616) : Calls Try.prog 6 #[.int .i64 z, .int .u64 (a : Nat)] w (RetT w) := by
  have HA := Lib.hid ha
  obtain ⟨n, hn, hnz⟩ := most_n z
  have HN := Lib.hid hn
  have HNZ := Lib.hid hnz
  have HN48 := Lib.hid (show n ≤ 48 ∧ 1 ≤ n by omega)
  have HMF := Lib.hid (most_facts hn)
  clear ha hn hnz
  go_enter Try.func6, Try.ntmps6
  go_wp2_with fail
  refine (wakesN_any _).mono ?_
  rintro e w1 ⟨rfl, he⟩
  have HE1 := Lib.hid he
  clear he
  go_upto_region 4 with fail
  rw [HNZ.out]
  have hn1 : n ≤ 48 := HN48.out.1
  go_wp2_with fail
  obtain ⟨lo, hlo⟩ : ∃ lo, w1.heap.size = lo := ⟨_, rfl⟩
  have HLO := Lib.hid hlo
  clear hlo
  go_loopw [26, 6] (fun iv lv wr => ∃ i : Nat, i ≤ n ∧ iv = .int .i64 i ∧ Hid (OwnN wr lo lv (mostL i) ∧ Ext w1 wr)) (fun iv _ _ => n - (intOf iv).toNat)
  case atStart => exact ⟨0, by omega, rfl, Lib.hid ⟨OwnN.nil _ _, Ext.refl _⟩⟩
  case round =>
    obtain ⟨i, hi, rfl, HJ⟩ := hrel
    obtain ⟨_, A3, c3, rfl, _, _, _⟩ := Rs.of_own HJ.out.1.1
    have HLL := Lib.hid (mostL_len i)
    rw [HLL.out]
    by_cases hlt : i < n
    · have hd : decide (i < n) = true := decide_eq_true hlt
      have hd2 : decide ((i : Int) < (n : Int)) = true := decide_eq_true (by omega)
      have HWS := Lib.hid (wc_small i (by omega))
      have HOKP := Lib.hid (show (⟨5, i, 18446744073709551614⟩ : Nn).ok from mostL_ok (n := i + 1) (by omega) _ (by rw [mostL_snoc]; simp))
      have HPC := Lib.hid (show nnc ⟨5, i, 18446744073709551614⟩ = #[.int .u64 5, .int .u64 (i : Nat), .int .u64 0, .int .u64 0, .int .u64 0, .int .u64 18446744073709551614] by
        have h := HWS.out
        unfold wc at h
        injection h with h
        injection h with h0 h
        injection h with h1 h
        injection h with h2 h
        injection h with h3 h
        show (#[.int .u64 5, lv (lb i 0), lv (lb i 1), lv (lb i 2), lv (lb i 3), .int .u64 18446744073709551614] : Array Value) = _
        rw [h0, h1, h2, h3])
      have HLOW := Lib.hid (show lo ≤ wr.heap.size by rw [← HLO.out]; exact HJ.out.2.size)
      have HI48 := Lib.hid (show i + 1 ≤ 1099511627776 by omega)
      have HWR := Lib.hid (show IntKind.u64.wrap (i : Int) = (i : Int) by rw [IntKind.wrap_u64]; omega)
      obtain ⟨p, hp⟩ : ∃ p, (⟨5, i, 18446744073709551614⟩ : Nn) = p := ⟨_, rfl⟩
      have HPP := Lib.hid hp
      rw [hp] at HOKP HPC
      clear hp
      have HOWR := Lib.hid (show wr.ownsRow lo 38 6 (.slice A3 i c3) i (nnf (mostL i)) by have := HJ.out.1.1; rwa [HLL.out] at this)
      have HMS := Lib.hid (show mostL (i + 1) = mostL i ++ [p] by rw [mostL_snoc, HPP.out])
      go_wp2_with (first
        | ((with_reducible refine wpList_build_one ?_ (.tmp 33) 22 38 ?_ Try.underlying22 _ 6 48 nninfo3 (by decide) (by decide) (nnc p) rfl ?_ ?_); (exact rfl); (exact rfl); (rw [HPC.out]; first | exact rfl | (rw [← HWR.out]; exact rfl)))
        | (at_builtin; refine wpList_append_row ?_ (.tmp 29) (.tmp 34) 22 rfl lo 38 Try.underlying22 _ 6 48 nninfo3 rfl (by decide) (.slice A3 i c3) i (nnf (mostL i)) rfl (own_ext HOWR.out ((Ext.refl _).alloc _)) (.slice (some ⟨wr.heap.size, 0, none⟩) 1 1) 1 (nnc p).toList rfl (rs_nn1 (Cs.new _ _ _ _ rfl)) (nnc_ones p) HI48.out (by decide) (Nat.le_trans HLOW.out (by rw [World.size_alloc]; exact Nat.le_succ _)) ?_; (exact rfl); intro v5 w5 o5 g5 b5; have O5 := Lib.hid (OwnN.add HJ.out.1.2 HOKP.out (by rw [HLL.out]; exact o5)); have E5 := Lib.hid (Ext.appendR (HJ.out.2.alloc (.cells (nnc p) 38)) (by rw [HLO.out]; exact own_ext HOWR.out ((Ext.refl _).alloc _)) g5); clear o5 g5 b5))
      exact ⟨⟨i + 1, by omega, by go_num, Lib.hid ⟨by rw [HMS.out]; exact O5.out, E5.out⟩⟩, by simp [intOf]; omega⟩
    · obtain rfl : i = n := by omega
      have hd : decide (i < i) = false := decide_eq_false (by omega)
      have hd2 : decide ((i : Int) < (i : Int)) = false := decide_eq_false (by omega)
      have HX := Lib.hid (HE1.out.trans HJ.out.2)
      have HON := Lib.hid HJ.out.1
      clear HJ HE1 hd hd2
      have HKO := Lib.hid (mostL_ok HN48.out.1)
      obtain ⟨LL, hLL⟩ : ∃ LL, mostL i = LL := ⟨_, rfl⟩
      rw [hLL] at HMF HON HLL HKO
      clear hLL
      go_wp2_with (first
        | ((with_reducible refine wpList_build_words3 ?_ (.tmp 37) (.tmp 38) (.tmp 42) ?_ wm1 18446744073709551614 (wm3 i) ?_ ?_ ?_ ?_); (exact rfl); (exact rfl); (exact rfl); (exact rfl); (rcases HN.out with h | h <;> (subst h; rfl))))
      have HWS := Lib.hid (wmL_ws HN48.out.1 (Cs.new wr (wc wm1 ++ (wc 18446744073709551614 ++ wc (wm3 i))) 29 wr.heap.size rfl))
      have HXB := Lib.hid (HX.out.alloc (.cells (wc wm1 ++ (wc 18446744073709551614 ++ wc (wm3 i))) 29))
      have HNB := Lib.hid (HON.out.nns.ext ((Ext.refl wr).alloc (.cells (wc wm1 ++ (wc 18446744073709551614 ++ wc (wm3 i))) 29)))
      rw [HLL.out] at HNB
      have HWL := Lib.hid (wmL_lt HN48.out.1)
      generalize wr.alloc (.cells (wc wm1 ++ (wc 18446744073709551614 ++ wc (wm3 i))) 29) = wB at *
      generalize wr.heap.size = g43 at *
      clear HX HON HNZ
      go_loopw [45] (fun kv ws => ∃ k : Nat, k ≤ 3 ∧ kv = .int .i64 k ∧ Hid (Ext wB ws)) (fun kv _ => 3 - (intOf kv).toNat)
      case atStart => exact ⟨0, by omega, rfl, Lib.hid (Ext.refl _)⟩
      case round =>
        obtain ⟨k, hk, rfl, HJ⟩ := hrel
        by_cases hk3 : k < 3
        · have hd : decide (k < 3) = true := decide_eq_true hk3
          have hd2 : decide ((k : Int) < 3) = true := decide_eq_true (by omega)
          obtain ⟨b', o', eA, hrx, _⟩ := (HWS.out.ext HJ.out).atN k hk3
          cases eA
          rw [Nat.zero_add] at hrx
          have HRX := Lib.hid hrx
          have HXM := Lib.hid (HWL.out k hk3)
          have HZS := Lib.hid HJ.out.size
          clear hrx
          generalize (wmL i).getD k 0 = x at *
          go_upto_region 13 with (first
            | ((with_reducible refine wpList_load_wordIn ?_ (.tmp 47) ?_ g43 (k * 4) (x) ?_ ?_ ?_); (exact rfl); (exact rfl); (exact rfl); (exact HRX.out))
            | ((with_reducible refine wpList_store_word ?_ ?_ 29 (.tmp 9) (.tmp 48) ?_ winfo wr.heap.size (wc 0) (x) ?_ ?_ ?_ ?_ ?_); (exact rfl); (exact rfl); (exact rfl); (exact rfl); (exact rfl); (exact (Cs.new _ _ _ _ rfl)); (exact rfl); intro w9 k9 g9; have K9 := Lib.hid k9; have G9 := Lib.hid g9; clear k9 g9))
          have HX9 := Lib.hid ((HJ.out.alloc (.cells (wc 0) 29)).grown G9.out HZS.out)
          have HW9 := Lib.hid K9.out
          clear hd hd2 HRX K9 G9 HJ HZS
          generalize wr.heap.size = g9 at *
          go_wp2_with fail
          have HM0 : Hid (MsJ g9 x w9.heap.size a wB (w9.alloc (.cells #[.int .u64 (a : Nat), .int .u64 5] 27))) := Lib.hid ⟨Wd.ext HW9.out ((Ext.refl _).alloc _), Cs.new _ _ _ _ rfl, HX9.out.alloc _⟩
          generalize w9.alloc (.cells #[.int .u64 (a : Nat), .int .u64 5] 27) = wD at *
          generalize w9.heap.size = g50 at *
          clear HX9 HW9
          go_loopw [52] (fun mv wz => ∃ m : Nat, m ≤ 2 ∧ mv = .int .i64 m ∧ Hid (MsJ g9 x g50 a wB wz)) (fun mv _ => 2 - (intOf mv).toNat)
          case atStart => exact ⟨0, by omega, rfl, HM0⟩
          case round =>
            clear HM0
            obtain ⟨m, hm, rfl, HM⟩ := hrel
            by_cases hm2 : m < 2
            · have hd : decide (m < 2) = true := decide_eq_true hm2
              have hd2 : decide ((m : Int) < 2) = true := decide_eq_true (by omega)
              obtain ⟨who, hwl, hcw⟩ : ∃ who : Nat, who < 18446744073709551616 ∧ wr.cell? ⟨g50, m, none⟩ = some (.int .u64 (who : Nat)) := by
                match m, hm2 with
                | 0, _ => exact ⟨a, HA.out, Cs.cell HM.out.2.1 0 _ rfl⟩
                | 1, _ => exact ⟨5, by decide, Cs.cell HM.out.2.1 1 _ rfl⟩
              have HWH := Lib.hid hwl
              have HXW := Lib.hid (Cs.rg HM.out.1)
              clear hwl
              go_wp2_with (first
                | ((with_reducible refine wpList_load_wordIn ?_ (.tmp 9) ?_ g9 0 (x) ?_ ?_ ?_); (exact rfl); (exact rfl); (exact rfl); (exact HXW.out)))
              clear hd hd2 hcw
              refine (useN_any _ LL who x _ (HNB.out.ext HM.out.2.2) HWH.out HXM.out).mono ?_
              rintro e w5 ⟨v5, rfl, ho, he⟩
              have HO5 := Lib.hid ho
              have HM5 := Lib.hid (HM.out.ext he)
              clear ho he HM HXW
              obtain ⟨A5, c5, rfl, _, _⟩ := HO5.out.sl
              have HXW := Lib.hid (Cs.rg HM5.out.1)
              go_wp2_with (first
                | ((with_reducible refine wpList_load_wordIn ?_ (.tmp 9) ?_ g9 0 (x) ?_ ?_ ?_); (exact rfl); (exact rfl); (exact rfl); (exact HXW.out)))
              refine (refUseN_any _ LL who x _ (HNB.out.ext HM5.out.2.2) HMF.out.1 HWH.out HXM.out).mono ?_
              rintro e w6 ⟨v6, rfl, ho, he⟩
              have HO6 := Lib.hid ho
              have HM6 := Lib.hid (HM5.out.ext he)
              have HO56 := Lib.hid (HO5.out.ext he)
              clear ho he HM5 HXW HO5
              obtain ⟨A6, c6, rfl, _, _⟩ := HO6.out.sl
              generalize usL LL who x = U at *
              generalize usE LL who x = E at *
              have e0 : (E != E) = false := bne_self_eq_false E
              go_wp2_with fail
              refine (refSameN_any _ _ _ _ _ HO56.out.nns HO6.out.nns).mono ?_
              rintro e w7 ⟨rfl, he⟩
              rw [show decide (U = U) = true from decide_eq_true rfl]
              have HM7 := Lib.hid (HM6.out.ext he)
              clear he
              go_wp2_with fail
              exact ⟨⟨m + 1, by omega, by go_num, HM7⟩, by simp [intOf]; omega⟩
            · obtain rfl : m = 2 := by omega
              have HXE := Lib.hid HM.out.2.2
              clear HM
              go_wp2_with fail
              exact ⟨⟨k + 1, by omega, by go_num, HXE⟩, by simp [intOf]; omega⟩
        · obtain rfl : k = 3 := by omega
          go_wp2_with fail
          refine (useN_any _ LL 5 18446744073709551614 _ (HNB.out.ext HJ.out) (by decide) (by decide)).mono ?_
          rintro e w5 ⟨v5, rfl, ho, he⟩
          have HO5 := Lib.hid ho
          have HX5 := Lib.hid (HXB.out.trans (HJ.out.trans he))
          rw [HMF.out.2.1]
          have HM6 := Lib.hid HMF.out.2.2
          clear ho he HJ HMF
          obtain ⟨A5, c5, rfl, _, _⟩ := HO5.out.sl
          generalize usL LL 5 18446744073709551614 = U at *
          go_wp2_with fail
          refine (useN_any _ U 5 18446744073709551615 _ HO5.out.nns (by decide) (by decide)).mono ?_
          rintro e w6 ⟨v6, rfl, ho, he⟩
          have HX6 := Lib.hid (HX5.out.trans he)
          rw [HM6.out]
          clear ho he
          go_wp2_with fail
          go_ret
          exact ⟨rfl, HX6.out⟩

set_option maxRecDepth 100000 in
theorem nonceMost_told (W : World) (args : Array Value) (h : Told Try.f6 W args) : Calls Try.prog 6 args W (RetT W) := by
  obtain ⟨H, enc, base, ds, p, hval, hA⟩ := h
  rw [Try.params6] at hA hval
  obtain ⟨v0, v1, d0, d1, p0, p1, rfl, rfl, rfl, h0, h1⟩ := trodAll_two hA
  obtain ⟨z, rfl, lo, hi⟩ := int_came Try.underlying3 (hval 0 _ _ rfl rfl) h0
  obtain ⟨s, rfl, hs⟩ := u64_came Try.underlying27 (hval 1 _ v1 rfl rfl) h1
  exact nonceMost_any z s W hs

set_option maxRecDepth 100000 in
theorem nonceMost_spec (H : Type) : ∀ ds : List (DataW H), ds.length = Try.f6.params.toList.length → Rows.nonceMostSpec.fn H ds = { results := [.lit (.bool true)], args := ds }
  | [_, _], _ => rfl
  | [], h | [_], h | _ :: _ :: _ :: _, h => by rw [Try.params6] at h; simp at h

set_option maxRecDepth 100000 in
theorem nonceMost_holds : Rows.NonceMostSaid :=
  OpenClaim.holds_of_wide 6 Try.f6 rfl rfl rfl rfl rfl rfl rfl ⟨rfl, rfl, rfl, rfl, rfl⟩ rfl rfl rfl rfl rfl (by kernel_rfl) Try.func6 (by kernel_rfl)
    (of_decide_eq_true (by kernel_rfl)) (by unfold Func.isWrapper; first | (rw [if_pos (by decide +kernel)]; kernel_rfl) | (rw [if_neg (by decide +kernel)]; exact ⟨rfl, rfl⟩))
    (fun os started H enc _ => law_lifted started (by kernel_rfl) Try.func6 rfl rfl (nonceMost_spec H) (of_decide_eq_true (by kernel_rfl))
      (ChangeSpec.witness6 (enc := enc) (C := Try.checked) false ⟨#[], #[.int .i64 0, .int .u64 0], []⟩ 8 (by kernel_rfl) (by kernel_rfl) (by kernel_rfl) (by kernel_rfl)) nonceMost_told)
end Go.Proofs.Ytepggbhibpjkpaa
