/- StateAccounts: which accounts may be, for every row of them. -/
import Derived.Test.YtmojbekihbmdfaaStt
import Derived.Deep.Strs
import Derived.Test.YtmojbekihbmdfaaFrm
namespace Go.Proofs.Ytmojbekihbmdfaa
open Go.ChangeShapes Go.WideShapes Go.ChangeAt Go.RowKit Go.Shelf

/-! ### Accounts that came in -/
set_option maxRecDepth 100000 in
theorem u64_trod {H : Type} {enc : TypeId × Value → H} {W : World} {f : Nat → Bool} {b : Bool} {fuel : Nat} {t : TypeId} {cs : List Value} {x : DataW H × List MemPlace} (ht : Try.prog.underlying t = some (.int .u64)) (h : DataW.trod enc Try.prog W 0 f b fuel t cs = some x) : ∃ z : Nat, z < 18446744073709551616 ∧ cs = [.int .u64 (z : Nat)] := by
  obtain ⟨z, e0, _, wz⟩ := DataW.trod_int ht h
  have hb : 0 ≤ z ∧ z ≤ 18446744073709551615 := by simpa [Lit.wf, IntKind.min, IntKind.max, IntKind.signed, IntKind.bits] using wz
  exact ⟨z.toNat, by omega, by rw [e0, Int.toNat_of_nonneg hb.1]⟩
set_option maxRecDepth 100000 in
theorem pair_trod {H : Type} {enc : TypeId × Value → H} {W : World} {f : Nat → Bool} {b : Bool} {fuel : Nat} {cs : List Value} {x : DataW H × List MemPlace} (h : DataW.trod enc Try.prog W 0 f b fuel 33 cs = some x) : ∃ z, PkR cs z := by
  obtain ⟨y0, y1, n, _, hl, h0, h1⟩ := trod_struct2 Try.underlying33 h
  have hC : Try.prog.cellsOf 33 = 8 := by kernel_rfl
  have hW : Try.prog.cellsOf 31 = 4 := by kernel_rfl
  rw [hC] at hl
  dsimp only at h0 h1
  rw [hW] at h0 h1
  obtain ⟨z0, hz0, hl0, hzc0⟩ := word_trod h0
  obtain ⟨z1, hz1, hl1, hzc1⟩ := word_trod h1
  have e0 := wc_list z0 _ hl0 hzc0
  have e1 := wc_list z1 _ hl1 hzc1
  refine ⟨(z0, z1), hz0, hz1, ?_⟩
  have e : cs = (cs.drop 0).take 4 ++ (cs.drop 4).take 4 := by
    rw [List.take_of_length_le (show (cs.drop 4).length ≤ 4 by rw [List.length_drop]; omega), show cs.drop 4 = (cs.drop 0).drop 4 by rw [List.drop_drop], List.take_append_drop, List.drop_zero]
  rw [e, e0, e1]
  rfl
set_option maxRecDepth 100000 in
theorem ac_trod {H : Type} {enc : TypeId × Value → H} {W : World} {f : Nat → Bool} {b : Bool} {fuel : Nat} {cs : List Value} {x : DataW H × List MemPlace} (h : DataW.trod enc Try.prog W 0 f b fuel 37 cs = some x) : ∃ z, AcR W cs z := by
  obtain ⟨xs, n, _, _, hl, hlen, hf⟩ := DataW.trod_struct Try.underlying37 h
  have hC : Try.prog.cellsOf 37 = 8 := by kernel_rfl
  have hA : Try.prog.cellsOf 29 = 1 := by kernel_rfl
  have hU : Try.prog.cellsOf 28 = 1 := by kernel_rfl
  have hW : Try.prog.cellsOf 31 = 4 := by kernel_rfl
  have hS : Try.prog.cellsOf 34 = 1 := by kernel_rfl
  have hP : Try.prog.cellsOf 35 = 1 := by kernel_rfl
  rw [hC] at hl
  match xs, hlen with
  | [y0, y1, y2, y3, y4], _ =>
    have h0 : DataW.trod enc Try.prog W 0 f b n 29 ((cs.drop 0).take (Try.prog.cellsOf 29)) = some y0 := by simpa using hf 0 _ rfl
    have h1 : DataW.trod enc Try.prog W 0 f b n 31 ((cs.drop 1).take (Try.prog.cellsOf 31)) = some y1 := by simpa using hf 1 _ rfl
    have h2 : DataW.trod enc Try.prog W 0 f b n 28 ((cs.drop 5).take (Try.prog.cellsOf 28)) = some y2 := by simpa using hf 2 _ rfl
    have h3 : DataW.trod enc Try.prog W 0 f b n 34 ((cs.drop 6).take (Try.prog.cellsOf 34)) = some y3 := by simpa using hf 3 _ rfl
    have h4 : DataW.trod enc Try.prog W 0 f b n 35 ((cs.drop 7).take (Try.prog.cellsOf 35)) = some y4 := by simpa using hf 4 _ rfl
    rw [hA] at h0
    rw [hW] at h1
    rw [hU] at h2
    rw [hS] at h3
    rw [hP] at h4
    obtain ⟨z0, b0, e0⟩ := u64_trod Try.underlying29 h0
    obtain ⟨z1, b1, hl1, hc1⟩ := word_trod h1
    have e1 := wc_list z1 _ hl1 hc1
    obtain ⟨z2, b2, e2⟩ := u64_trod Try.underlying28 h2
    obtain ⟨u, d, e3, hb⟩ := bytes_trod Try.underlying34 Try.underlying5 (by kernel_rfl) h3
    obtain ⟨v, s, e4, hs⟩ := slice_came (α := Nat × Nat) (s := 8) Try.underlying35 (by kernel_rfl) (by decide) PkR (fun _ _ _ h => pair_trod h) h4
    refine ⟨⟨z0, z1, z2, d, s⟩, ⟨b0, b1, b2⟩, u, v, ?_, hb, hs⟩
    have e : cs = (cs.drop 0).take 1 ++ ((cs.drop 1).take 4 ++ ((cs.drop 5).take 1 ++ ((cs.drop 6).take 1 ++ (cs.drop 7).take 1))) := by
      rw [List.take_of_length_le (show (cs.drop 7).length ≤ 1 by rw [List.length_drop]; omega), show cs.drop 7 = (cs.drop 6).drop 1 by rw [List.drop_drop], List.take_append_drop, show cs.drop 6 = (cs.drop 5).drop 1 by rw [List.drop_drop], List.take_append_drop, show cs.drop 5 = (cs.drop 1).drop 4 by rw [List.drop_drop], List.take_append_drop, show cs.drop 1 = (cs.drop 0).drop 1 by rw [List.drop_drop], List.take_append_drop, List.drop_zero]
    rw [e, e0, e1, e2, e3, e4]
    rfl
set_option maxRecDepth 100000 in
theorem acs_came {H : Type} {enc : TypeId × Value → H} {W : World} {base : Nat} {v : Value} {d : DataW H} {p : List MemPlace}
    (hval : Value.okWide Try.prog W .any base 22 v) (h : DataW.Trod enc Try.prog W 0 (fun _ => true) true 22 v d p) : ∃ l : List Ac, Acs W v l := by
  obtain ⟨a0, len0, cap0, rfl⟩ := okWide_slice Try.underlying22 hval
  obtain ⟨fuel, hf⟩ := h
  obtain ⟨v, l, hv, hl⟩ := slice_came (α := Ac) (s := 8) Try.underlying22 (by kernel_rfl) (by decide) (AcR W) (fun _ _ _ h => ac_trod h) hf
  simp [Value.cells] at hv
  rw [hv]
  exact ⟨l, hl⟩

/-! ### The law -/
set_option maxRecDepth 100000 in
set_option maxHeartbeats 4000000 in
theorem stateAccounts_any (v0 : Value) (l : List Ac) (w : World) (hs : Acs w v0 l) : Calls Try.prog 5 #[v0] w (RetT w) := by
  have HS := Lib.hid hs
  obtain ⟨A0, c0, rfl, h1, h2⟩ := hs.len
  unfold maxLen at h2
  clear hs
  go_enter Try.func5, Try.ntmps5
  go_wp2_with fail
  refine (stateWakes_any w).mono ?_
  rintro e w1 ⟨rfl, he⟩
  have HE1 := Lib.hid he
  clear he
  go_wp2_with fail
  go_loopw [11] (fun u wr => ∃ k : Nat, k ≤ l.length ∧ k ≤ 10 ∧ u = .int .i64 k ∧ Hid (Ext w wr)) (fun u _ => l.length - (intOf u).toNat)
  case atStart => exact ⟨0, by omega, by omega, rfl, HE1⟩
  case round =>
    clear HE1
    obtain ⟨k, hk, hk10, rfl, HE⟩ := hrel
    by_cases hlt : k < l.length
    · have hd : decide (k < l.length) = true := decide_eq_true hlt
      obtain ⟨b, o, u, v, rfl, hrg, hu, hv, hok⟩ := (HS.out.ext HE.out).at k hlt
      have HR := Lib.hid hrg
      have HU := Lib.hid hu
      have HV := Lib.hid hv
      have HOK := Lib.hid hok
      clear hrg hu hv hok
      generalize l.getD k acz = p at *
      by_cases h10 : k = 10
      · have d10 : ((k : Int) == 10) = true := by simp [h10]
        have d11 : (k == 10) = true := by simp [h10]
        clear h10
        go_wp2_with (first
          | ((with_reducible refine wpList_load_ac ?_ (.tmp 14) ?_ b (o + k * 8) p u v ?_ ?_ ?_); (exact rfl); (exact rfl); (exact rfl); (exact HR.out))
          | ((with_reducible refine wpList_store_ac ?_ ?_ (.tmp 4) (.tmp 15) ?_ wr.heap.size az0 p u v ?_ ?_ ?_ ?_ ?_ ?_ ?_); (exact rfl); (exact rfl); (exact rfl); (exact bs_one HU.out); (exact pks_one HV.out); (exact rfl); (exact rfl); (exact Cs.new _ _ _ _ rfl); (exact rfl); intro w4 k4 g4; have HX4 := Lib.hid (((Ext.refl wr).alloc _).grown g4 (Nat.le_refl _)); clear k4 g4))
        go_ret
        exact ⟨rfl, HE.out.trans HX4.out⟩
      · have d10 : ((k : Int) == 10) = false := by simp; omega
        have d11 : (k == 10) = false := by simpa using h10
        go_wp2_with (first
          | ((with_reducible refine wpList_load_ac ?_ (.tmp 14) ?_ b (o + k * 8) p u v ?_ ?_ ?_); (exact rfl); (exact rfl); (exact rfl); (exact HR.out))
          | ((with_reducible refine wpList_store_ac ?_ ?_ (.tmp 4) (.tmp 15) ?_ wr.heap.size az0 p u v ?_ ?_ ?_ ?_ ?_ ?_ ?_); (exact rfl); (exact rfl); (exact rfl); (exact bs_one HU.out); (exact pks_one HV.out); (exact rfl); (exact rfl); (exact Cs.new _ _ _ _ rfl); (exact rfl); intro w4 k4 g4; have K4 := Lib.hid k4; have HX4 := Lib.hid (((Ext.refl wr).alloc _).grown g4 (Nat.le_refl _)); clear k4 g4)
          | ((with_reducible refine wpList_load_ac ?_ (.tmp 4) ?_ wr.heap.size 0 p u v ?_ ?_ ?_); (exact rfl); (exact rfl); (exact rfl); (exact K4.out.range)))
        have HE4 := Lib.hid (HE.out.trans HX4.out)
        have HU4 := Lib.hid (HU.out.ext HX4.out)
        have HV4 := Lib.hid (HV.out.ext HX4.out)
        clear HR HU HV HX4 HE
        refine (one_any p u v _ HU4.out HV4.out).mono ?_
        rintro e w5 ⟨u5, v5, rfl, ho, he⟩
        have HA5 := Lib.hid ho
        have HX5 := Lib.hid he
        have HOK1 : Hid (oneA p).ok := Lib.hid HOK.out
        clear ho he
        go_wp2_with fail
        refine (rightAccount_any (oneA p) u5 v5 _ HOK1.out HA5.out.1.bs HA5.out.2.pks).mono ?_
        rintro e w6 ⟨rfl, he⟩
        have HX6 := Lib.hid (HX5.out.trans he)
        have K6 := Lib.hid (K4.out.ext HX6.out)
        clear he HX5 HA5 K4
        go_wp2_with ((with_reducible refine wpList_load_ac ?_ (.tmp 4) ?_ wr.heap.size 0 p u v ?_ ?_ ?_); (exact rfl); (exact rfl); (exact rfl); (exact K6.out.range))
        refine (one_any p u v _ (HU4.out.ext HX6.out) (HV4.out.ext HX6.out)).mono ?_
        rintro e w7 ⟨u7, v7, rfl, ho, he⟩
        have HA7 := Lib.hid ho
        have HX7 := Lib.hid (HX6.out.trans he)
        clear ho he
        go_wp2_with fail
        refine (checkAccount_any (oneA p) u7 v7 _ HOK1.out HA7.out.1.bs HA7.out.2.pks).mono ?_
        rintro e w8 ⟨rfl, he⟩
        have HE8 := Lib.hid (HE4.out.trans (HX7.out.trans he))
        clear he HX7 HX6 HA7 K6 HU4 HV4 HE4
        cases hr : (oneA p).rightB with
        | true =>
          rw [ckE_yes _ hr]
          clear hr
          go_wp2_with fail
          exact ⟨⟨k + 1, by omega, by omega, by go_num, HE8⟩, by simp [intOf]; omega⟩
        | false =>
          rw [ckE_no _ hr]
          clear hr
          go_wp2_with fail
          exact ⟨⟨k + 1, by omega, by omega, by go_num, HE8⟩, by simp [intOf]; omega⟩
    · obtain rfl : k = l.length := by omega
      go_wp2_with fail
      go_ret
      exact ⟨rfl, HE.out⟩

set_option maxRecDepth 100000 in
theorem stateAccounts_told (W : World) (args : Array Value) (h : Told Try.f5 W args) : Calls Try.prog 5 args W (RetT W) := by
  obtain ⟨H, enc, base, ds, p, hval, hA⟩ := h
  rw [Try.params5] at hA hval
  obtain ⟨v0, d0, rfl, rfl, h0⟩ := trodAll_one hA
  obtain ⟨x0, hx0⟩ := acs_came (hval 0 _ v0 rfl rfl) h0
  exact stateAccounts_any v0 x0 W hx0

set_option maxRecDepth 100000 in
theorem stateAccounts_spec (H : Type) : ∀ ds : List (DataW H), ds.length = Try.f5.params.toList.length → Rows.stateAccountsSpec.fn H ds = { results := [.lit (.bool true)], args := ds }
  | [_], _ => rfl
  | [], h | _ :: _ :: _, h => by rw [Try.params5] at h; simp at h

set_option maxRecDepth 100000 in
theorem stateAccounts_holds : Rows.StateAccountsSaid :=
  OpenClaim.holds_of_wide 5 Try.f5 rfl rfl rfl rfl rfl rfl rfl ⟨rfl, rfl, rfl, rfl, rfl⟩ rfl rfl rfl rfl rfl (by kernel_rfl) Try.func5 (by kernel_rfl)
    (of_decide_eq_true (by kernel_rfl)) (by unfold Func.isWrapper; first | (rw [if_pos (by decide +kernel)]; kernel_rfl) | (rw [if_neg (by decide +kernel)]; exact ⟨rfl, rfl⟩))
    (fun os started H enc _ => law_lifted started (by kernel_rfl) Try.func5 rfl rfl (stateAccounts_spec H) (of_decide_eq_true (by kernel_rfl))
      (ChangeSpec.witness6 (enc := enc) (C := Try.checked) false ⟨#[], #[.slice none 0 0], []⟩ 8 (by kernel_rfl) (by kernel_rfl) (by kernel_rfl) (by kernel_rfl)) stateAccounts_told)
end Go.Proofs.Ytmojbekihbmdfaa
