/- The law WordMany: the sum of many hangs on no order, and on no parts. -/
import Derived.Test.YtgjpddalccmlkaaWsq
namespace Go.Proofs.Ytgjpddalccmlkaa
open Go.ChangeShapes Go.WideShapes Go.ChangeAt Go.RowKit

/-- The row, turned round up to k. -/
def turnF (l : List Nat) (k i : Nat) : Nat := if i < k then l.getD (l.length - 1 - i) 0 else l.getD i 0
theorem turnF_zero (l : List Nat) : turnF l 0 = fun i => l.getD i 0 := by
  funext i
  unfold turnF
  rw [if_neg (by omega)]
theorem turnF_step (l : List Nat) (k : Nat) : (fun i => if i = k then l.getD (l.length - 1 - k) 0 else turnF l k i) = turnF l (k + 1) := by
  funext i
  unfold turnF
  by_cases h : i = k
  · rw [if_pos h, if_pos (by omega), h]
  · rw [if_neg h]
    by_cases h2 : i < k
    · rw [if_pos h2, if_pos (by omega)]
    · rw [if_neg h2, if_neg (by omega)]
theorem turnF_all (l : List Nat) (i : Nat) (h : i < l.length) : turnF l l.length i = l.reverse.getD i 0 := by
  unfold turnF
  rw [if_pos h]
  simp [List.getD, List.getElem?_reverse h]

theorem many_at (m : Int) (n : Nat) (hn : n ≤ 12) : ∃ kk : Nat, wrap64 ((IntKind.u64.wrap m).tmod ((n : Int) + 1)) = kk ∧ kk ≤ n := by
  have h0 : 0 ≤ IntKind.u64.wrap m := by
    simp [IntKind.wrap, IntKind.signed, IntKind.bits]
    omega
  have h1 := Int.tmod_nonneg ((n : Int) + 1) h0
  have h2 := Int.tmod_lt_of_pos (IntKind.u64.wrap m) (show (0 : Int) < (n : Int) + 1 by omega)
  generalize (IntKind.u64.wrap m).tmod ((n : Int) + 1) = x at *
  refine ⟨x.toNat, ?_, by omega⟩
  unfold wrap64
  omega

set_option maxRecDepth 100000 in
set_option maxHeartbeats 4000000 in
theorem many_walk (v : Value) (l0 : List Nat) (m : Int) (w : World) (hv : Ws w v l0) (hm1 : -9223372036854775808 ≤ m) (hm2 : m ≤ 9223372036854775807) : Calls Try.prog 13 #[v, .int .i64 m] w (RetT w) := by
  have HV := Lib.hid hv
  obtain ⟨A, c, rfl, h1, h2, h3, h4⟩ := hv
  clear h3 h4
  unfold maxLen at h2
  go_enter Try.func13, Try.ntmps13
  go_wp2_with fail
  refine (wakes_any _).mono ?_
  rintro e w1 ⟨rfl, he1⟩
  have HV1 := Lib.hid ((HV.out.ext he1).takeMin 12 (l0.take 12).length (by rw [List.length_take, Nat.min_comm]))
  have HX1 := Lib.hid he1
  have hll : (l0.take 12).length ≤ 12 := List.length_take_le _ _
  clear he1 HV
  go_wp2_with fail
  have hn : (min (l0.length : Int) 12).toNat = (l0.take 12).length := by rw [List.length_take]; omega
  rw [hn]
  have hlc : (l0.take 12).length ≤ c := by rw [List.length_take]; omega
  generalize l0.take 12 = l at *
  clear hn
  refine (sum_any _ l _ HV1.out (by omega)).mono ?_
  rintro e w2 ⟨rfl, he2⟩
  have HV2 := Lib.hid (HV1.out.ext he2)
  have HX2 := Lib.hid (HX1.out.trans he2)
  clear he2 HV1 HX1
  have HSM := Lib.hid (sumW_reverse l HV2.out.lt)
  have HSP := Lib.hid (fun k => sumW_parts l k HV2.out.lt)
  have hs := sumW_lt l
  generalize hsl : sumW l = ss at *
  obtain ⟨s, bo⟩ := ss
  dsimp only at hs
  have HSS := Lib.hid hsl
  clear hsl
  have HK2 : Ks w [] w2 := ⟨fun x hx => absurd hx (by simp), HX2.out⟩
  go_wp2_with (first
    | ((with_reducible refine wpList_store_word rfl rfl 27 (.tmp 5) (.tmp 28) rfl winfo w2.heap.size (wc 0) s ?_ ?_ ?_ ?_ ?_); (exact rfl); (exact rfl); (exact heap_alloc_new _ _); (exact rfl); intro w3 k3 g3; have HK3 := HK2.put g3 k3; have HV3 := Lib.hid (HV2.out.ext (((Ext.refl w2).alloc _).grown g3 (Nat.le_refl _))); clear k3 g3 HV2 HX2 HK2)
    | ((with_reducible refine wpList_append_words ?_ (.tmp 30) (.tmp 31) 24 rfl w3.heap.size w3.heap.size Try.underlying24 ?_ ?_ (Nat.le_refl _) _ l ?_ (HV3.out.ext ((Ext.refl w3).alloc _)) ?_ ?_); (exact rfl); (exact rfl); (exact Cs.new _ _ _ _ rfl); (exact rfl); omega; intro g cap w4 b4 hc1 hc2 hg4 g4; have HX4 := Lib.hid (((Ext.refl w3).alloc _).grown g4 (Nat.le_refl _)); have HB4 := Lib.hid b4; clear b4 g4))
  go_loopw [35] (fun iv wr => ∃ k : Nat, k ≤ l.length ∧ iv = .int .i64 k ∧ Hid (Ext w3 wr) ∧ Hid (Bk wr g l.length (turnF l k))) (fun iv _ => l.length - (intOf iv).toNat)
  case atStart => exact ⟨0, Nat.zero_le _, rfl, HX4, by rw [turnF_zero]; exact HB4⟩
  case round =>
    obtain ⟨k, hk, rfl, HX, HB⟩ := hrel
    by_cases hlt : k < l.length
    · obtain ⟨A', c', eA, _, _, h3, h4⟩ := HV3.out
      injection eA with e1 e2 e3
      subst e1
      obtain ⟨b, o, rfl, hc⟩ := h3 (by omega)
      have HC := Lib.hid (fun j hj => HX.out.cell (hc (l.length - 1 - k) (by omega) j hj))
      have hx := h4 (l.length - 1 - k) (by omega)
      have HT := Lib.hid (turnF_step l k)
      clear hc h3 h4 e2 e3
      generalize l.getD (l.length - 1 - k) 0 = x at *
      have q0 := HC.out 0 (by omega)
      have q1 := HC.out 1 (by omega)
      have q2 := HC.out 2 (by omega)
      have q3 := HC.out 3 (by omega)
      rw [Nat.add_zero] at q0
      clear HC
      go_wp2_with (first
        | ((with_reducible refine wpList_store_elem rfl rfl (.tmp 48) (.tmp 47) rfl g l.length (turnF l k) k x ?_ ?_ HB.out hlt ?_); (exact ⟨_, rfl, by omega⟩); (exact rfl); intro w5 k5 g5))
      refine ⟨⟨k + 1, by omega, by go_num, Lib.hid (HX.out.grown g5 hg4), Lib.hid (by rw [← HT.out]; exact k5)⟩, by simp [intOf]; omega⟩
    · obtain rfl : k = l.length := by omega
      have hws : Ws wr (.slice (some ⟨g, 0, none⟩) l.length cap) l.reverse := by
        obtain ⟨cur, hc, hg⟩ := HB.out
        exact Bk.ws ⟨cur, hc, fun i hi j hj => by show _ = some (Value.int .u64 (lb (l.reverse.getD i 0) j : Nat)); rw [← turnF_all l i hi]; exact hg i hi j hj⟩ (by simp) hc1 hc2 (fun x hx => HV3.out.lt x (List.mem_reverse.1 hx))
      have HK5 := HK3.ext HX.out
      have HV5 := Lib.hid (HV3.out.ext HX.out)
      have HW := Lib.hid hws
      clear HB HB4 HX4 HV3 hk hlt hws
      go_wp2_with fail
      refine (sum_any _ l.reverse _ HW.out (by simp; omega)).mono ?_
      rintro e w6 ⟨rfl, he⟩
      rw [HSM.out]
      dsimp only
      have HK6 := HK5.ext he
      have HV6 := Lib.hid (HV5.out.ext he)
      clear he HK5 HV5 HW HX HSM
      have hss : (s != s) = false := by simp
      obtain ⟨kk, hq, hkk⟩ := many_at m l.length hll
      go_wp2_with (first
        | ((with_reducible refine wpList_store_word rfl rfl 27 (.tmp 9) (.tmp 53) rfl winfo w6.heap.size (wc 0) s ?_ ?_ ?_ ?_ ?_); (exact rfl); (exact rfl); (exact heap_alloc_new _ _); (exact rfl); intro w7 k7 g7; have HK7 := HK6.put g7 k7; have HV7 := Lib.hid (HV6.out.ext (((Ext.refl w6).alloc _).grown g7 (Nat.le_refl _))); clear k7 g7 HV6 HK6)
        | ((with_reducible refine wpList_load_wordG ?_ 27 25 (.tmp 5) rfl Try.underlying27 winfo (w2.heap.size) (s) ?_ ?_ ?_); (exact rfl); (exact rfl); (exact HK7.at (w2.heap.size) (s) (by simp)))
        | ((with_reducible refine wpList_load_wordG ?_ 27 25 (.tmp 9) rfl Try.underlying27 winfo (w6.heap.size) (s) ?_ ?_ ?_); (exact rfl); (exact rfl); (exact HK7.at (w6.heap.size) (s) (by simp)))
        | ((with_reducible refine wpList_neq_word ?_ (.tmp 55) (.tmp 56) rfl (s) (s) hs hs ?_ ?_ ?_); (exact rfl); (exact rfl); (exact rfl); rw [hss]))
      refine (sum_any _ (l.take kk) _ (HV7.out.take kk hkk) (by rw [List.length_take]; omega)).mono ?_
      rintro e w8 ⟨rfl, he⟩
      have HK8 := HK7.ext he
      have HV8 := Lib.hid (HV7.out.ext he)
      have HP := Lib.hid (HSP.out kk)
      have ha := sumW_lt (l.take kk)
      have hb := sumW_lt (l.drop kk)
      clear he HK7 HV7 HSP hss
      generalize sumW (l.take kk) = sa at *
      generalize hsb : sumW (l.drop kk) = sb at *
      have HSB := Lib.hid hsb
      clear hsb
      obtain ⟨a, x⟩ := sa
      obtain ⟨b, y⟩ := sb
      dsimp only at ha hb ⊢
      go_wp2_with ((with_reducible refine wpList_store_word rfl rfl 27 (.tmp 12) (.tmp 76) rfl winfo w8.heap.size (wc 0) a ?_ ?_ ?_ ?_ ?_); (exact rfl); (exact rfl); (exact heap_alloc_new _ _); (exact rfl); intro w9 k9 g9; have HK9 := HK8.put g9 k9; have HV9 := Lib.hid (HV8.out.ext (((Ext.refl w8).alloc _).grown g9 (Nat.le_refl _))); clear k9 g9 HV8 HK8)
      all_goals
        have hd := HV9.out.drop kk hkk
        first
          | rw [if_pos (show c = kk by omega), show c - kk = 0 by omega] at hd
          | rw [if_neg (show ¬ c = kk by omega)] at hd
        have HD := Lib.hid hd
        have HKD := Lib.hid HK9
        clear hd HV9 HK9
        refine (sum_any _ (l.drop kk) _ HD.out (by rw [List.length_drop]; omega)).mono ?_
        rintro e w10 ⟨rfl, he⟩
        rw [HSB.out]
        dsimp only
        have HKa := HKD.out.ext he
        clear he HKD HSB HD
        go_wp2_with (first
          | ((with_reducible refine wpList_store_word rfl rfl 27 (.tmp 14) (.tmp 83) rfl winfo w10.heap.size (wc 0) b ?_ ?_ ?_ ?_ ?_); (exact rfl); (exact rfl); (exact heap_alloc_new _ _); (exact rfl); intro w11 k11 g11; have HKb := HKa.put g11 k11; clear k11 g11 HKa)
          | ((with_reducible refine wpList_load_wordG ?_ 27 25 (.tmp 12) rfl Try.underlying27 winfo (w8.heap.size) (a) ?_ ?_ ?_); (exact rfl); (exact rfl); (exact HKb.at (w8.heap.size) (a) (by simp)))
          | ((with_reducible refine wpList_load_wordG ?_ 27 25 (.tmp 14) rfl Try.underlying27 winfo (w10.heap.size) (b) ?_ ?_ ?_); (exact rfl); (exact rfl); (exact HKb.at (w10.heap.size) (b) (by simp))))
        refine (add_w a b _ ha hb).mono ?_
        rintro e w12 ⟨rfl, ks, he⟩
        have HKc := HKb.ext he
        have hbo := HP.out.2
        rw [HP.out.1]
        clear he HKb ks HP
        generalize ovr a b = z at *
        have hee : (s == s) = true := by simp
        subst hbo
        cases x <;> cases y <;> cases z
        all_goals
          go_wp2_with (first
            | ((with_reducible refine wpList_store_word rfl rfl 27 (.tmp 16) (.tmp 89) rfl winfo w12.heap.size (wc 0) s ?_ ?_ ?_ ?_ ?_); (exact rfl); (exact rfl); (exact heap_alloc_new _ _); (exact rfl); intro w13 k13 g13; have HKd := HKc.put g13 k13; clear k13 g13 HKc)
            | ((with_reducible refine wpList_load_wordG ?_ 27 25 (.tmp 16) rfl Try.underlying27 winfo (w12.heap.size) (s) ?_ ?_ ?_); (exact rfl); (exact rfl); (exact HKd.at (w12.heap.size) (s) (by simp)))
            | ((with_reducible refine wpList_load_wordG ?_ 27 25 (.tmp 5) rfl Try.underlying27 winfo (w2.heap.size) (s) ?_ ?_ ?_); (exact rfl); (exact rfl); (exact HKd.at (w2.heap.size) (s) (by simp)))
            | ((with_reducible refine wpList_eql_word ?_ (.tmp 91) (.tmp 92) rfl (s) (s) hs hs ?_ ?_ ?_); (exact rfl); (exact rfl); (exact rfl); rw [hee]))
          go_ret
          exact ⟨rfl, HKd.2⟩

theorem many_told (W : World) (args : Array Value) (h : Told Try.f13 W args) : Calls Try.prog 13 args W (RetT W) := by
  obtain ⟨H, enc, base, ds, p, hval, hA⟩ := h
  rw [Try.params13] at hA hval
  obtain ⟨v0, v1, d0, d1, p0, p1, rfl, rfl, rfl, h0, h1⟩ := trodAll_two hA
  obtain ⟨l, hl⟩ := ws_came (hval 0 _ v0 rfl rfl) h0
  obtain ⟨m, rfl, hm1, hm2⟩ := int_came Try.underlying3 (hval 1 _ v1 rfl rfl) h1
  exact many_walk v0 l m W hl hm1 hm2

theorem many_spec (H : Type) : ∀ ds : List (DataW H), ds.length = Try.f13.params.toList.length → Rows.wordManySpec.fn H ds = { results := [.lit (.bool true)], args := ds }
  | [_, _], _ => rfl
  | [], h | [_], h | _ :: _ :: _ :: _, h => by rw [Try.params13] at h; simp at h

set_option maxRecDepth 100000 in
theorem wordMany_holds : Rows.WordManySaid :=
  OpenClaim.holds_of_wide 13 Try.f13 rfl rfl rfl rfl rfl rfl rfl ⟨rfl, rfl, rfl, rfl, rfl⟩ rfl rfl rfl rfl rfl (by kernel_rfl) Try.func13 (by kernel_rfl)
    (of_decide_eq_true (by kernel_rfl)) (by unfold Func.isWrapper; first | (rw [if_pos (by decide +kernel)]; kernel_rfl) | (rw [if_neg (by decide +kernel)]; exact ⟨rfl, rfl⟩))
    (fun os started H enc _ => law_lifted started (by kernel_rfl) Try.func13 rfl rfl (many_spec H) (of_decide_eq_true (by kernel_rfl))
      (ChangeSpec.witness6 (enc := enc) (C := Try.checked) false ⟨#[], #[.slice none 0 0, .int .i64 0], []⟩ 8 (by kernel_rfl) (by kernel_rfl) (by kernel_rfl) (by kernel_rfl)) many_told)
end Go.Proofs.Ytgjpddalccmlkaa
