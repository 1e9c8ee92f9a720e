/- Package access: slices.IndexFunc of what is passing. Package access: slices.DeleteFunc of what is passing. Package access: without. -/
import Derived.Test.YtjampleddeidaaaQAcp
namespace Go.Proofs.Ytjampleddeidaaa
open Go.ChangeShapes Go.WideShapes Go.ChangeAt Go.RowKit Go.Shelf

def fxP (l : List Pe) (c : Nat) : Int := if hasX l c then (posX l c : Int) else -1
set_option maxRecDepth 100000 in
theorem fxP_at {l : List Pe} (hr : RiseX l) {c k : Nat} (hk : k < l.length) (h : (l.getD k pz0).cod = c) : fxP l c = (k : Int) := by
  have h1 : hasX l c = true := (hasX_iff hr).2 ⟨_, getX_mem hk, h⟩
  unfold fxP
  rw [if_pos h1, ← h, posX_at hr hk]
set_option maxRecDepth 100000 in
theorem fxP_no {l : List Pe} (hr : RiseX l) {c : Nat} (h : ∀ i, i < l.length → (l.getD i pz0).cod ≠ c) : hasX l c = false := by
  cases hh : hasX l c with
  | false => rfl
  | true =>
    obtain ⟨p, hp, e⟩ := (hasX_iff hr).1 hh
    obtain ⟨i, hi, e2⟩ := memX_get hp
    exact absurd (e2 ▸ e) (h i hi)
set_option maxRecDepth 100000 in
set_option maxHeartbeats 4000000 in
theorem indexP_any (sv : Value) (l : List Pe) (c : Nat) (F : FuncId) (cap : Array Value) (I : World → Prop) (w : World) (hs : XP w sv l) (hr : RiseX l) (hl : l.length ≤ 100000)
    (hF : ∀ (args : Array Value) (u : World), (callFunc F args).run Try.prog u = .ok (.enter F args) u) (hI : I w) (hIe : ∀ W W', I W → Ext W W' → I W')
    (hC : ∀ p W, okP p → I W → Calls Try.prog F (#[.agg (cP p)] ++ cap) W fun e w' => e = .returned (.bool (decide (p.cod = c))) ∧ Ext W w') :
    Calls Try.prog 93 #[sv, .func (.func F) #[] cap] w fun e w' => e = .returned (.int .i64 (fxP l c)) ∧ Ext w w' := by
  have HS := Lib.hid hs
  have HFF := Lib.hid hF
  have HC := Lib.hid hC
  have HII := Lib.hid hI
  have HIE := Lib.hid hIe
  have HAT := Lib.hid (fun k (hk : k < l.length) h => fxP_at (c := c) hr hk h)
  have HNO := Lib.hid (fun h => show fxP l c = -1 by unfold fxP; rw [fxP_no hr h, if_neg Bool.false_ne_true])
  obtain ⟨A1, c1, rfl, h1, h2⟩ := hs.len
  unfold maxLen at h2
  clear hs hF hC hI hIe hr
  go_enter Try.func93, Try.ntmps93
  go_wp2_with fail
  go_loopw [8] (fun iv wr => ∃ k : Nat, k ≤ l.length ∧ iv = .int .i64 k ∧ Hid ((∀ i, i < k → (l.getD i pz0).cod ≠ c) ∧ Ext w wr)) (fun iv _ => l.length - (intOf iv).toNat)
  case atStart => exact ⟨0, by omega, rfl, Lib.hid ⟨fun i hi => absurd hi (by omega), Ext.refl _⟩⟩
  case round =>
    obtain ⟨k, hk, rfl, HJ⟩ := hrel
    by_cases hlt : k < l.length
    · have hd : decide (k < l.length) = true := decide_eq_true hlt
      have hd2 : decide ((k : Int) < (l.length : Int)) = true := decide_eq_true (by omega)
      obtain ⟨bb, oo, rfl, hrg, hpk⟩ := (HS.out.ext HJ.out.2).at k hlt
      have HR := Lib.hid hrg
      have HPK := Lib.hid hpk
      have HF := Lib.hid (fun h => HAT.out k hlt h)
      have HMO := Lib.hid (fun (h : (l.getD k pz0).cod ≠ c) => show ∀ i, i < k + 1 → (l.getD i pz0).cod ≠ c from fun i hi => by
        rcases Nat.lt_or_ge i k with h' | h'
        · exact HJ.out.1 i h'
        · obtain rfl : i = k := by omega
          exact h)
      clear hrg hpk
      generalize l.getD k pz0 = p at *
      go_wp2_with ((with_reducible refine wpList_loadP ?_ (.tmp 14) ?_ bb (oo + k * 9) p ?_ ?_ ?_); (exact rfl); (exact rfl); (exact rfl); (exact HR.out))
      rw [HFF.out, Oper.upon_enter]
      refine (HC.out p wr HPK.out (HIE.out _ _ HII.out HJ.out.2)).mono ?_
      rintro e w2 ⟨rfl, he⟩
      have HE2 := Lib.hid (HJ.out.2.trans he)
      clear he
      by_cases hz : p.cod = c
      · have fz : decide (p.cod = c) = true := decide_eq_true hz
        have HF := Lib.hid (HF.out hz)
        rw [fz]
        clear hz fz
        go_wp2_with fail
        refine bodyPost_ret (results_tmp rfl _ _ _) rfl ?_
        exact ⟨by rw [HF.out]; rfl, HE2.out⟩
      · have fz : decide (p.cod = c) = false := decide_eq_false hz
        have HM := Lib.hid (HMO.out hz)
        rw [fz]
        clear hz fz
        go_wp2_with fail
        exact ⟨⟨k + 1, by omega, by go_num, Lib.hid ⟨HM.out, HE2.out⟩⟩, by simp [intOf]; omega⟩
    · obtain rfl : k = l.length := by omega
      have hd : decide (l.length < l.length) = false := decide_eq_false (by omega)
      have HF := Lib.hid (HNO.out HJ.out.1)
      go_wp2_with fail
      refine bodyPost_ret (results_tmp rfl _ _ _) rfl ?_
      exact ⟨by rw [HF.out]; rfl, HJ.out.2⟩
end Go.Proofs.Ytjampleddeidaaa
namespace Go.Proofs.Ytjampleddeidaaa
open Go.ChangeShapes Go.WideShapes Go.ChangeAt Go.RowKit Go.Shelf

def dlX (l : List Pe) (c : Nat) : List Pe := l.filter fun p => decide (p.cod ≠ c)
def shL (l : List Pe) (k j : Nat) : List Pe := l.take k ++ ((l.take j).drop (k + 1) ++ l.drop (j - 1))
set_option maxRecDepth 100000 in
theorem shL_len {l : List Pe} {k j : Nat} (h1 : k + 1 ≤ j) (h2 : j ≤ l.length) : (shL l k j).length = l.length := by
  unfold shL
  simp only [List.length_append, List.length_take, List.length_drop]
  omega
set_option maxRecDepth 100000 in
theorem shL_start {l : List Pe} {k : Nat} (_h2 : k + 1 ≤ l.length) : shL l k (k + 1) = l := by
  unfold shL
  rw [List.drop_take, Nat.sub_self, List.take_zero, List.nil_append, Nat.add_sub_cancel, List.take_append_drop]
set_option maxRecDepth 100000 in
theorem shL_at {l : List Pe} {k j : Nat} (h1 : k + 1 ≤ j) (h2 : j < l.length) : (shL l k j).getD j pz0 = l.getD j pz0 := by
  unfold shL
  have e1 : (l.take k).length = k := by rw [List.length_take]; omega
  have e2 : ((l.take j).drop (k + 1)).length = j - (k + 1) := by rw [List.length_drop, List.length_take]; omega
  simp only [List.getD_eq_getElem?_getD]
  rw [List.getElem?_append_right (by rw [e1]; omega), List.getElem?_append_right (by rw [e1, e2]; omega), e1, e2, List.getElem?_drop]
  congr 2
  omega
set_option maxRecDepth 100000 in
theorem shL_step {l : List Pe} {k j : Nat} (h1 : k + 1 ≤ j) (h2 : j < l.length) : (shL l k j).set (j - 1) (l.getD j pz0) = shL l k (j + 1) := by
  unfold shL
  have e1 : (l.take k).length = k := by rw [List.length_take]; omega
  have e2 : ((l.take j).drop (k + 1)).length = j - (k + 1) := by rw [List.length_drop, List.length_take]; omega
  have hg : l[j]? = some (l.getD j pz0) := by rw [List.getD_eq_getElem?_getD, List.getElem?_eq_getElem h2]; rfl
  rw [List.set_append_right _ _ (by rw [e1]; omega), List.set_append_right _ _ (by rw [e1, e2]; omega), e1, e2]
  rw [show j - 1 - k - (j - (k + 1)) = 0 by omega, Nat.add_sub_cancel]
  have hd : l.drop (j - 1) = l.getD (j - 1) pz0 :: l.drop j := by
    rw [List.drop_eq_getElem_cons (by omega), List.getD_eq_getElem?_getD, List.getElem?_eq_getElem (by omega), show j - 1 + 1 = j by omega]
    rfl
  rw [hd, List.set_cons_zero, List.take_add_one, hg, Option.toList_some, List.drop_append_of_le_length (by rw [List.length_take]; omega), List.append_assoc]
  rfl
set_option maxRecDepth 100000 in
theorem shL_end {l : List Pe} {k : Nat} (h2 : k + 1 ≤ l.length) : (shL l k l.length).take (l.length - 1) = l.take k ++ l.drop (k + 1) := by
  unfold shL
  rw [List.take_length, ← List.append_assoc, List.take_left' (by simp only [List.length_append, List.length_take, List.length_drop]; omega)]
set_option maxRecDepth 100000 in
theorem dlX_no {l : List Pe} (hr : RiseX l) {c : Nat} (h : hasX l c = false) : dlX l c = l := by
  unfold dlX
  rw [List.filter_eq_self]
  intro p hp
  rw [decide_eq_true_eq]
  intro e
  rw [(hasX_iff hr).2 ⟨p, hp, e⟩] at h
  cases h
set_option maxRecDepth 100000 in
theorem dlX_has {l : List Pe} (hr : RiseX l) {c : Nat} (h : hasX l c = true) : dlX l c = l.take (posX l c) ++ l.drop (posX l c + 1) := by
  have hlt := filt_ltX hr c
  have hgt := filt_gtX hr c
  rw [h, if_pos rfl] at hgt
  rw [← hlt, ← hgt]
  have hk := hasX_lt h
  have hkc : (l.getD (posX l c) pz0).cod = c := by
    unfold hasX at h
    simp only [Bool.and_eq_true, decide_eq_true_eq] at h
    exact h.2
  unfold dlX
  have hsp : l = l.take (posX l c) ++ l.drop (posX l c) := (List.take_append_drop _ _).symm
  rw [hlt, hgt]
  conv => lhs; rw [hsp, List.filter_append]
  congr 1
  · rw [List.filter_eq_self]
    intro p hp
    rw [← hlt] at hp
    have := (List.mem_filter.1 hp).2
    rw [decide_eq_true_eq] at this ⊢
    omega
  · have hd : l.drop (posX l c) = l.getD (posX l c) pz0 :: l.drop (posX l c + 1) := by
      rw [List.drop_eq_getElem_cons hk, List.getD_eq_getElem?_getD, List.getElem?_eq_getElem hk]
      rfl
    rw [hd, List.filter_cons, if_neg (by rw [hkc]; simp), List.filter_eq_self]
    intro p hp
    rw [← hgt] at hp
    have := (List.mem_filter.1 hp).2
    rw [decide_eq_true_eq] at this ⊢
    omega
set_option maxRecDepth 100000 in
theorem grown_two {W W1 W2 : World} {g : Nat} (h : W.grownBy W1 (some g)) (k : W1.grownBy W2 (some g)) : W.grownBy W2 (some g) := ⟨k.os.trans h.os, k.tape.trans h.tape, k.output.trans h.output, Nat.le_trans h.size k.size, fun j hj hne => (k.block j (Nat.lt_of_lt_of_le hj h.size) hne).trans (h.block j hj hne)⟩
set_option maxRecDepth 100000 in
theorem run_clear_oneP (w : World) (ty : TypeId) (g k c : Nat) (cur : Array Value) (hg : w.heap[g]? = some (.cells cur 69 (0, 0))) (hfit : k * 9 + 9 ≤ cur.size) :
    ∃ news : List Value, news.length = 9 ∧ (Builtin.clear_ #[24] ty #[.slice (some ⟨g, k * 9, none⟩) 1 c]).run Try.prog w = .ok (.tuple #[]) (w.setRow g (rowP cur k news)) := by
  obtain ⟨i0, hi, hy0, hy1, hy2⟩ := info_parts infoP3
  have hl : (Builtin.zeroCells (cP pz0) 1).toList.length = 9 := by rw [Array.length_toList, size_zeroCells]; rfl
  refine ⟨(Builtin.zeroCells (cP pz0) 1).toList, hl, ?_⟩
  have hst := run_storeCells_at (P := Try.prog) g (k * 9) 69 (Builtin.zeroCells (cP pz0) 1).toList 0 cur w hg (by rw [hl]; exact hfit) (fun v hv => by
    simp only [Builtin.zeroCells, Array.toList_map, List.mem_map] at hv
    obtain ⟨a, _, rfl⟩ := hv
    have h8 : (cP pz0).size = 9 := rfl
    have h : a % 9 = 0 ∨ a % 9 = 1 ∨ a % 9 = 2 ∨ a % 9 = 3 ∨ a % 9 = 4 ∨ a % 9 = 5 ∨ a % 9 = 6 ∨ a % 9 = 7 ∨ a % 9 = 8 := by omega
    show ((cP pz0)[a % (cP pz0).size]!).oneCell' = true
    rw [h8]
    rcases h with h | h | h | h | h | h | h | h | h <;> rw [h] <;> rfl)
  simp only [Nat.add_zero] at hst
  unfold rowP
  simp [Builtin.clear_, run_underlying Try.underlying24, zeroValue, typeInfo, hi, hy0, hst, Value.cells]
set_option maxRecDepth 100000 in
theorem OwnP.cut {W : World} {lo g n c : Nat} {l : List Pe} {cur : Array Value} (h : OwnP W lo (.slice (some ⟨g, 0, none⟩) n c) l) (hg : Cs W g 69 cur) (hn : 0 < n) (news : List Value) (hl : news.length = 9) :
    OwnP (W.setRow g (rowP cur (n - 1) news)) lo (.slice (some ⟨g, 0, none⟩) (n - 1) c) (l.take (n - 1)) ∧ (n - 1) * 9 + 9 ≤ cur.size := by
  have hcm := own_capH h.1
  obtain ⟨cur', hnl, hlo, hg', hcs, htk⟩ := own_block2H h.1
  have hcc : cur' = cur := by
    rw [show W.heap[g]? = _ from hg] at hg'
    injection hg' with hg'
    injection hg' with hg' _
    exact hg'.symm
  subst hcc
  have hfit : (n - 1) * 9 + 9 ≤ cur'.size := by rw [hcs]; omega
  refine ⟨⟨?_, fun p hp => h.2 p (List.mem_of_mem_take hp)⟩, hfit⟩
  have hlen : (l.take (n - 1)).length = n - 1 := by rw [List.length_take]; omega
  have htk2 : (rowP cur' (n - 1) news).toList.take ((n - 1) * 9) = fP (l.take (n - 1)) := by
    rw [rowP_keep _ _ _ _ (by rw [hl]; exact hfit) (Nat.le_refl _), ← fP_take, ← htk, List.take_take, Nat.min_eq_left (by omega)]
  rw [hlen]
  exact ⟨by rw [fP_len, hlen], .inr ⟨g, c, _, rfl, hlo, setRow_heap W g _ _ _ (0, 0) hg, by omega, by unfold maxLen; omega, (rowP_size _ _ _ (by rw [hl]; exact hfit)).trans hcs, htk2⟩⟩
set_option maxRecDepth 100000 in
set_option maxHeartbeats 8000000 in
theorem deleteP_any (sv : Value) (l : List Pe) (c : Nat) (F : FuncId) (cap : Array Value) (I : World → Prop) (lo : Nat) (w : World) (hs : OwnP w lo sv l) (hr : RiseX l) (hl : l.length ≤ 100000)
    (hF : ∀ (args : Array Value) (u : World), (callFunc F args).run Try.prog u = .ok (.enter F args) u) (hI : I w) (hIe : ∀ W W', I W → Ext W W' → I W') (hIg : ∀ W W' g, I W → Ext w W ∨ True → sv.ownBlock = some g → W.grownBy W' (some g) → I W')
    (hC : ∀ p W, okP p → I W → Calls Try.prog F (#[.agg (cP p)] ++ cap) W fun e w' => e = .returned (.bool (decide (p.cod = c))) ∧ Ext W w') :
    Calls Try.prog 76 #[sv, .func (.func F) #[] cap] w fun e w' => ∃ v', e = .returned v' ∧ OwnP w' lo v' (dlX l c) ∧ w.grownBy w' sv.ownBlock := by
  have HS := Lib.hid hs
  have HFF := Lib.hid hF
  have HC := Lib.hid hC
  have HIE := Lib.hid hIe
  have HRI := Lib.hid hr
  have HIX := Lib.hid (indexP_any sv l c F cap I w hs.xs hr hl hF hI hIe hC)
  have HI0 := Lib.hid hI
  cases hh : hasX l c with
  | false =>
    have HD := Lib.hid (dlX_no hr hh)
    have HFX : Hid (fxP l c = -1) := Lib.hid (by unfold fxP; rw [hh, if_neg Bool.false_ne_true])
    obtain ⟨A1, c1, rfl, h1, h2⟩ := hs.xs.len
    unfold maxLen at h2
    clear hs hF hC hI hIe hIg hr hh
    go_enter Try.func76, Try.ntmps76
    go_wp2_with fail
    refine HIX.out.mono ?_
    rintro e w1 ⟨rfl, he⟩
    rw [HFX.out]
    have HE1 := Lib.hid he
    clear he
    go_wp2_with fail
    refine bodyPost_ret (results_tmp rfl _ _ _) rfl ?_
    exact ⟨_, rfl, by rw [HD.out]; exact HS.out.ext HE1.out, grown_of_ext HE1.out _⟩
  | true =>
    obtain ⟨k, hk⟩ : ∃ k, posX l c = k := ⟨_, rfl⟩
    have hkl : k < l.length := by rw [← hk]; exact hasX_lt hh
    have HD := Lib.hid (show dlX l c = l.take k ++ l.drop (k + 1) by rw [dlX_has hr hh, hk])
    have HFX : Hid (fxP l c = (k : Int)) := Lib.hid (by unfold fxP; rw [hh, if_pos rfl, hk])
    have HNE := Lib.hid (show ∀ j, k < j → j < l.length → decide ((l.getD j pz0).cod = c) = false from fun j h1 h2 => decide_eq_false (fun e => by
      have h3 := hr k j h1 h2
      unfold hasX at hh
      simp only [Bool.and_eq_true, decide_eq_true_eq] at hh
      rw [hk] at hh
      omega))
    obtain ⟨g, c7, cur0, e7, k1, k2, hbg, _, _, _⟩ := hs.form k hkl
    subst e7
    have HIG := Lib.hid (fun W W' (h : I W) (h' : W.grownBy W' (some g)) => hIg W W' g h (.inr trivial) rfl h')
    obtain ⟨n, hn⟩ : ∃ n, l.length = n := ⟨_, rfl⟩
    have HN := Lib.hid hn
    have hf1 : ((k : Int) == -1) = false := by rw [beq_eq_false_iff_ne]; omega
    rw [hn] at hkl k1 HIX HS HNE hl ⊢
    clear hs hF hC hI hIe hIg hr hh hk hn
    go_enter Try.func76, Try.ntmps76
    go_wp2_with fail
    refine HIX.out.mono ?_
    rintro e w1 ⟨rfl, he⟩
    rw [HFX.out]
    have HJ1 : Hid (OwnP w1 lo (.slice (some ⟨g, 0, none⟩) n c7) (shL l k (k + 1)) ∧ I w1 ∧ w.grownBy w1 (some g)) := Lib.hid ⟨by rw [shL_start (by have := HN.out; omega)]; exact HS.out.ext he, HIE.out _ _ HI0.out he, grown_of_ext he _⟩
    clear he HS HI0 HIX
    go_wp2_with fail
    go_loopw [5, 6, 7] (fun iv jv _ wr => ∃ i : Nat, k ≤ i ∧ i + 1 ≤ n ∧ iv = .int .i64 i ∧ jv = .int .i64 ((i + 1 : Nat) : Int) ∧ Hid (OwnP wr lo (.slice (some ⟨g, 0, none⟩) n c7) (shL l k (i + 1)) ∧ I wr ∧ w.grownBy wr (some g))) (fun _ jv _ _ => n - (intOf jv).toNat)
    case atStart => exact ⟨k, Nat.le_refl _, by omega, rfl, by go_num, HJ1⟩
    case round =>
      obtain ⟨i, hi, hin, rfl, rfl, HJ⟩ := hrel
      clear HJ1
      have HL := Lib.hid (show (shL l k (i + 1)).length = n by rw [shL_len (by omega) (by have := HN.out; omega)]; exact HN.out)
      by_cases hlt : i + 1 < n
      · have hd : decide (i + 1 < n) = true := decide_eq_true hlt
        have hd2 : decide (((i + 1 : Nat) : Int) < (n : Int)) = true := decide_eq_true (by omega)
        have hd3 : decide (i < n) = true := decide_eq_true (by omega)
        have hd4 : decide ((i : Int) < (n : Int)) = true := decide_eq_true (by omega)
        obtain ⟨bb, oo, e9, hrg, hpk⟩ := HJ.out.1.xs.at (i + 1) (by rw [HL.out]; exact hlt)
        injection e9 with e9
        injection e9 with e9 e10
        subst e9 e10
        rw [shL_at (by omega) (by rw [HN.out]; exact hlt)] at hrg hpk
        rw [Nat.zero_add] at hrg
        have HR := Lib.hid hrg
        have HPK := Lib.hid hpk
        have HNX := Lib.hid (HNE.out (i + 1) (by omega) hlt)
        have HST := Lib.hid (show (shL l k (i + 1)).set i (l.getD (i + 1) pz0) = shL l k (i + 1 + 1) from shL_step (l := l) (k := k) (j := i + 1) (by omega) (by rw [HN.out]; exact hlt))
        clear hrg hpk
        generalize l.getD (i + 1) pz0 = p at *
        go_wp2_with (first
          | ((with_reducible refine wpList_loadP ?_ (.tmp 24) ?_ g ((i + 1) * 9) p ?_ ?_ ?_); (exact rfl); (exact rfl); (exact rfl); (exact HR.out))
          | ((with_reducible refine wpList_storeP ?_ ?_ (.tmp 7) (.tmp 25) ?_ wr.heap.size pz0 p ?_ ?_ ?_ ?_); (exact rfl); (exact rfl); (exact rfl); (exact rfl); (exact rfl); (exact Cs.new _ _ _ _ rfl); intro w4 k4 g4; have K4 := Lib.hid k4; have HX4 := Lib.hid (((Ext.refl wr).alloc _).grown g4 (Nat.le_refl _)); have HRP := Lib.hid (Cs.rg k4); clear k4 g4)
          | ((with_reducible refine wpList_loadP ?_ (.tmp 7) ?_ wr.heap.size 0 p ?_ ?_ ?_); (exact rfl); (exact rfl); (exact rfl); (exact HRP.out)))
        rw [HFF.out, Oper.upon_enter]
        refine (HC.out p w4 HPK.out (HIE.out _ _ HJ.out.2.1 HX4.out)).mono ?_
        rintro e w5 ⟨rfl, he⟩
        rw [HNX.out]
        have HE5 := Lib.hid (HX4.out.trans he)
        have HRP := Lib.hid (Cs.rg (Cs.ext K4.out he))
        have HI5 := Lib.hid (HIE.out _ _ HJ.out.2.1 HE5.out)
        obtain ⟨g8, c8, cur, e8, _, _, _, hcs, hsz, hst⟩ := (HJ.out.1.ext HE5.out).form i (by rw [HL.out]; omega)
        injection e8 with ea eb ec
        injection ea with ea
        injection ea with ea
        subst ea ec
        clear eb
        have HST2 := Lib.hid (fun W' h => hst p W' HPK.out h)
        have HCS := Lib.hid hcs
        have HSZ := Lib.hid hsz
        have HGR := Lib.hid (grown_thenH' HJ.out.2.2 HE5.out)
        clear hst hcs hsz he
        go_wp2_with (first
          | ((with_reducible refine wpList_loadP ?_ (.tmp 7) ?_ wr.heap.size 0 p ?_ ?_ ?_); (exact rfl); (exact rfl); (exact rfl); (exact HRP.out))
          | ((with_reducible refine wpList_store_in ?_ ?_ 69 (.tmp 33) (.tmp 32) ?_ g (i * 9) 69 cur (cP p) ?_ ?_ ?_ ?_ ?_ ?_ ?_); (exact rfl); (exact rfl); (exact rfl); (exact rfl); (exact rfl); (exact HCS.out); (exact infoP); (exact HSZ.out); (exact cP_one p); intro w9 k9 g9; have K9 := Lib.hid k9; have G9 := Lib.hid g9; clear k9 g9))
        exact ⟨⟨i + 1, by omega, by omega, by go_num, by go_num, Lib.hid ⟨by have := HST2.out _ K9.out; rw [HST.out] at this; exact this, HIG.out _ _ HI5.out G9.out, grown_two HGR.out G9.out⟩⟩, by simp [intOf]; omega⟩
      · have hni : n = i + 1 := by omega
        have hd : decide (i + 1 < n) = false := decide_eq_false (by omega)
        have hd2 : decide (((i + 1 : Nat) : Int) < (n : Int)) = false := decide_eq_false (by omega)
        obtain ⟨g8, c8, cur, e8, _, _, _, hcs, hsz, _⟩ := HJ.out.1.form i (by rw [HL.out]; omega)
        injection e8 with ea eb ec
        injection ea with ea
        injection ea with ea
        subst ea ec
        clear eb
        obtain ⟨news, hnl, hrun⟩ := run_clear_oneP wr 0 g i (c7 - i) cur hcs hsz
        have hcut := (HJ.out.1.cut hcs (by omega) news hnl).1
        rw [show n - 1 = i by omega] at hcut
        have HCUT := Lib.hid hcut
        have HSE := Lib.hid (show (shL l k (i + 1)).take i = dlX l c by
          have := shL_end (l := l) (k := k) (by have := HN.out; omega)
          rw [HD.out, ← this, HN.out, hni, Nat.add_sub_cancel])
        have HGR := Lib.hid (grown_two HJ.out.2.2 (show wr.grownBy (wr.setRow g (rowP cur i news)) (some g) from ⟨rfl, rfl, rfl, by simp [World.setRow], fun j hj hne => setRow_other wr g j _ (fun e => hne (by rw [e]))⟩))
        have hnk : n - i = 1 := by omega
        have hkc : i ≤ c7 := by omega
        have hkn : i ≤ n := by omega
        have hck : ¬ c7 - i = 0 := by omega
        have hck2 : ¬ c7 = i := by omega
        clear hcut hcs hsz hni
        go_wp2_with fail
        refine bodyPost_ret (results_tmp rfl _ _ _) rfl ?_
        exact ⟨_, rfl, by rw [← HSE.out]; exact HCUT.out, HGR.out⟩
end Go.Proofs.Ytjampleddeidaaa
namespace Go.Proofs.Ytjampleddeidaaa
open Go.ChangeShapes Go.WideShapes Go.ChangeAt Go.RowKit Go.Shelf

set_option maxRecDepth 100000 in
theorem eqS_cod {p q : Pe} (hk : p.key < M256) (hj : q.key < M256) : p.eqS q = decide (p.cod = q.cod) := by
  by_cases h : p.cod = q.cod
  · obtain ⟨h1, h2⟩ := cdN_inj hk hj (show cdN p.addr p.key = cdN q.addr q.key from h)
    rw [decide_eq_true h]
    unfold Pe.eqS
    rw [h1, h2, beq_self_eq_true, beq_self_eq_true, Bool.and_true]
  · rw [decide_eq_false h]
    cases he : p.eqS q with
    | false => rfl
    | true =>
      unfold Pe.eqS at he
      rw [Bool.and_eq_true, beq_iff_eq, beq_iff_eq] at he
      exact absurd (show cdN p.addr p.key = cdN q.addr q.key by rw [he.1, he.2]) h
set_option maxRecDepth 100000 in
set_option maxHeartbeats 4000000 in
theorem without1_any (ga : Nat) (q p : Pe) (w : World) (hp : okP p) (hq : okS q) (hga : Cs w ga 32 (cS q)) :
    Calls Try.prog 77 #[.agg (cP p), .pointer (some ⟨ga, 0, none⟩)] w fun e w' => e = .returned (.bool (decide (p.cod = q.cod))) ∧ Ext w w' := by
  have HE := Lib.hid (eqS_cod (p := p) (q := q) hp.2.1 hq.2.1)
  have HK1 := Lib.hid (show p.key < M256 from hp.2.1)
  have HK2 := Lib.hid (show q.key < M256 from hq.2.1)
  obtain ⟨w0, hw0⟩ : ∃ w0, w.alloc (.cells (cP p) 69) = w0 := ⟨_, rfl⟩
  have HB : Hid (Cs w0 w.heap.size 69 (cP p)) := Lib.hid (by rw [← hw0]; exact Cs.new _ _ _ _ rfl)
  have HG : Hid (Cs w0 ga 32 (cS q)) := Lib.hid (by rw [← hw0]; exact Cs.alloc hga _)
  have HX : Hid (Ext w w0) := Lib.hid (by rw [← hw0]; exact (Ext.refl w).alloc _)
  have HR1 := Lib.hid (cS_key (cP_spot (Cs.rg HB.out)))
  have HR2 := Lib.hid (cS_key (Cs.rg HG.out))
  obtain ⟨pc, hpc⟩ : ∃ pc, cP p = pc := ⟨_, rfl⟩
  rw [hpc] at hw0 ⊢
  have HW0 := Lib.hid hw0
  clear hp hq hga hw0 hpc
  go_enter Try.func77, Try.ntmps77
  go_upto_region 1 with fail
  rw [HW0.out]
  clear HW0
  have c0 := cP_addr (Cs.rg HB.out)
  have c1 := cS_addr (Cs.rg HG.out)
  by_cases ha : p.addr = q.addr
  · have f1 : ((p.addr : Int) == (q.addr : Int)) = true := by rw [beq_iff_eq]; omega
    have f2 : (p.addr == q.addr) = true := by rw [beq_iff_eq]; exact ha
    have HF := Lib.hid (show decide (p.cod = q.cod) = (p.key == q.key) by rw [← HE.out]; unfold Pe.eqS; rw [f2, Bool.true_and])
    clear ha HE
    go_wp2_with (first
      | ((with_reducible refine wpList_load_wordIn ?_ (.tmp 12) ?_ w.heap.size 1 p.key ?_ ?_ ?_); (exact rfl); (exact rfl); (exact rfl); (exact HR1.out))
      | ((with_reducible refine wpList_load_wordIn ?_ (.tmp 14) ?_ ga 1 q.key ?_ ?_ ?_); (exact rfl); (exact rfl); (exact rfl); (exact HR2.out))
      | ((with_reducible refine wpList_eql_word ?_ (.tmp 13) (.tmp 15) ?_ p.key q.key HK1.out HK2.out ?_ ?_ ?_); (exact rfl); (exact rfl); (exact rfl); (exact rfl)))
    refine bodyPost_ret (results_tmp rfl _ _ _) rfl ?_
    exact ⟨by rw [HF.out]; rfl, HX.out⟩
  · have f1 : ((p.addr : Int) == (q.addr : Int)) = false := by rw [beq_eq_false_iff_ne]; omega
    have f2 : (p.addr == q.addr) = false := by rw [beq_eq_false_iff_ne]; exact ha
    have HF := Lib.hid (show decide (p.cod = q.cod) = false by rw [← HE.out]; unfold Pe.eqS; rw [f2, Bool.false_and])
    clear ha HE
    go_wp2_with fail
    refine bodyPost_ret (results_tmp rfl _ _ _) rfl ?_
    exact ⟨by rw [HF.out]; rfl, HX.out⟩
set_option maxRecDepth 100000 in
set_option maxHeartbeats 4000000 in
theorem without_any (sv : Value) (l : List Pe) (q : Pe) (lo : Nat) (w : World) (hs : OwnP w lo sv l) (hr : RiseX l) (hl : l.length ≤ 100000) (hq : okS q) (_hlo : lo ≤ w.heap.size) :
    Calls Try.prog 65 #[sv, .agg (cS q)] w fun e w' => ∃ v', e = .returned v' ∧ OwnP w' lo v' (dlX l q.cod) ∧ w.grownBy w' sv.ownBlock := by
  obtain ⟨w0, hw0⟩ : ∃ w0, w.alloc (.cells (cS q) 32) = w0 := ⟨_, rfl⟩
  have HG : Hid (Cs w0 w.heap.size 32 (cS q)) := Lib.hid (by rw [← hw0]; exact Cs.new _ _ _ _ rfl)
  have HX : Hid (Ext w w0) := Lib.hid (by rw [← hw0]; exact (Ext.refl w).alloc _)
  have HLT := Lib.hid (fun g (h : sv.ownBlock = some g) => (hs.lt g h).2)
  have HD := Lib.hid (deleteP_any sv l q.cod 77 #[.pointer (some ⟨w.heap.size, 0, none⟩)] (fun W => Cs W w.heap.size 32 (cS q)) lo w0 (hs.ext HX.out) hr hl
    (enters_of Try.func77 (by kernel_rfl) rfl) HG.out (fun W W' h he => Cs.ext h he) (fun W W' g h _ hg hgr => Cs.kept h hgr (fun e => by injection e with e; have := HLT.out g hg; omega))
    (fun p W hp hI => without1_any w.heap.size q p W hp hq hI))
  have HOB : Hid (∀ W W', Ext w W → W.grownBy W' sv.ownBlock → w.grownBy W' sv.ownBlock) := Lib.hid (fun _ _ h k => grown_of h k)
  obtain ⟨A1, c1, rfl, h1, h2⟩ := hs.xs.len
  obtain ⟨qc, hqc⟩ : ∃ qc, cS q = qc := ⟨_, rfl⟩
  rw [hqc] at hw0 ⊢
  have HW0 := Lib.hid hw0
  clear hw0 hqc hs hr hl hq
  go_enter Try.func65, Try.ntmps65
  go_upto_region 1 with fail
  rw [HW0.out]
  clear HW0
  go_wp2_with fail
  refine HD.out.mono ?_
  rintro e w1 ⟨v1, rfl, ho, hg⟩
  have HO := Lib.hid ho
  have HGR := Lib.hid (HOB.out _ _ HX.out hg)
  obtain ⟨A2, c2, rfl, h3, h4⟩ := ho.sl
  clear ho hg HD
  obtain ⟨m, hm⟩ : ∃ m, dlX l q.cod = m := ⟨_, rfl⟩
  rw [hm] at HO h3 ⊢
  have HM := Lib.hid hm
  clear hm
  by_cases h0 : m.length = 0
  · have f0 : (((m.length : Nat) : Int) == 0) = true := by rw [beq_iff_eq]; omega
    have HN := Lib.hid (List.length_eq_zero_iff.1 h0)
    clear h0
    go_wp2_with fail
    refine bodyPost_ret (results_tmp rfl _ _ _) rfl ?_
    exact ⟨_, rfl, by rw [HM.out, HN.out]; exact OwnP.nil _ _, HGR.out⟩
  · have f0 : (((m.length : Nat) : Int) == 0) = false := by rw [beq_eq_false_iff_ne]; omega
    clear h0
    go_wp2_with fail
    refine bodyPost_ret (results_tmp rfl _ _ _) rfl ?_
    exact ⟨_, rfl, by rw [HM.out]; exact HO.out, HGR.out⟩
end Go.Proofs.Ytjampleddeidaaa
