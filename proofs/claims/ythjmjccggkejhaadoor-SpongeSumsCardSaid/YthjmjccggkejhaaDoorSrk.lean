/- SpongeSums: digests, and padded bytes. -/
import Derived.Test.YthjmjccggkejhaaDoorSrj
import Derived.Test.YthjmjccggkejhaaDoorSlc
namespace Go.Proofs.YthjmjccggkejhaaDoor
open Go.ChangeShapes Go.WideShapes Go.ChangeAt Go.RowKit Go.Shelf

set_option maxRecDepth 100000 in
set_option maxHeartbeats 400000 in
theorem sameB_any (v1 v2 : Value) (a b : List UInt8) (w : World) (h1 : Bs w v1 a) (h2 : Bs w v2 b) :
    Calls Tryd.prog 16 #[v1, v2] w fun e w' => e = .returned (.bool (a == b)) ∧ w = w' := by
  have c1 := h1.conv (P := Tryd.prog) 24 5 9 Tryd.underlying24 Tryd.underlying5 Tryd.underlying9
  have c2 := h2.conv (P := Tryd.prog) 24 5 9 Tryd.underlying24 Tryd.underlying5 Tryd.underlying9
  have e1 : (⟨a.toArray⟩ : ByteArray).toList = a := by simp
  have e2 : (⟨b.toArray⟩ : ByteArray).toList = b := by simp
  generalize (⟨a.toArray⟩ : ByteArray) = s1 at *
  generalize (⟨b.toArray⟩ : ByteArray) = s2 at *
  subst e1
  subst e2
  clear h1 h2
  go_enter Tryd.func16, Tryd.ntmps16
  go_wp2
  go_ret
  exact ⟨rfl, rfl⟩
set_option maxRecDepth 100000 in
theorem sameB_yes (v1 v2 : Value) (a : List UInt8) (w : World) (h1 : Bs w v1 a) (h2 : Bs w v2 a) :
    Calls Tryd.prog 16 #[v1, v2] w fun e w' => e = .returned (.bool true) ∧ w = w' :=
  (sameB_any v1 v2 a a w h1 h2).mono fun _ _ ⟨h, e⟩ => ⟨by rw [h]; simp, e⟩
set_option maxRecDepth 100000 in
theorem Bss.ext3 {W W' : World} {v : Value} {l : List (List UInt8)} (h : Bss W v l) (he : Ext W W') : Bss W' v l :=
  Sl.mono h (fun _ _ hc => he.cell hc) fun _ _ ⟨u, e, hb⟩ => ⟨u, e, hb.ext he⟩
set_option maxRecDepth 100000 in
theorem up_byte : ∀ y : Fin 256, IntKind.u8.wrap ((y.val : Int) + 1) = (((UInt8.ofNat y.val + 1).toNat : Nat) : Int) := by decide +kernel

set_option maxRecDepth 100000 in
set_option maxHeartbeats 1000000 in
theorem sums3_any (v : Value) (l : List (List UInt8)) (w : World) (hl : Bss w v l) (ht : Tb w) :
    Calls Tryd.prog 3 #[v] w (RetT w) := by
  have HL := Lib.hid hl
  have HT := Lib.hid ht
  obtain ⟨A, c, rfl, h1, h2⟩ := hl.len
  unfold maxLen at h2
  clear hl ht
  go_enter Tryd.func3, Tryd.ntmps3
  go_wp2_with fail
  refine (wakes_any _ HT.out).mono ?_
  rintro e w1 ⟨rfl, he1⟩
  have HE := Lib.hid he1
  clear he1
  go_wp2_with fail
  go_loopw [3, 4, 5, 6, 7, 12, 13, 14, 15, 16, 17, 18, 19, 20, 21, 22, 23, 24, 25, 26, 27, 28, 29, 30, 31, 32, 33, 34, 35, 36, 37, 38, 39, 40, 41, 42, 43, 44, 45, 46, 47, 48, 49, 50, 51, 52, 53, 54] (fun _ _ _ _ _ u _ _ _ _ _ _ _ _ _ _ _ _ _ _ _ _ _ _ _ _ _ _ _ _ _ _ _ _ _ _ _ _ _ _ _ _ _ _ _ _ _ _ wr => ∃ k : Nat, k ≤ 6 ∧ k ≤ l.length ∧ u = .int .i64 k ∧ Hid (Ext w wr)) (fun _ _ _ _ _ u _ _ _ _ _ _ _ _ _ _ _ _ _ _ _ _ _ _ _ _ _ _ _ _ _ _ _ _ _ _ _ _ _ _ _ _ _ _ _ _ _ _ _ => l.length - (intOf u).toNat)
  case atStart => exact ⟨0, by omega, by omega, rfl, HE⟩
  case round =>
    clear HE
    obtain ⟨k, hk6, hk, rfl, HE⟩ := hrel
    by_cases hlt : k < l.length
    · have hdk : decide (k < l.length) = true := decide_eq_true hlt
      obtain ⟨b, o, u, rfl, hc, hu⟩ := (HL.out.ext3 HE.out).at k hlt
      have HU := Lib.hid hu
      generalize l.getD k [] = x at *
      clear hu
      by_cases h6 : k = 6
      · have hd : ((k : Int) == 6) = true := by rw [h6]; rfl
        clear h6
        go_wp2_with fail
        go_ret
        exact ⟨rfl, HE.out⟩
      · have hd : ((k : Int) == 6) = false := by simp; omega
        have hk5 : k < 6 := by omega
        clear h6
        have hxl : (x.take 800).length ≤ 800 := by simp; omega
        have HXL := Lib.hid hxl
        go_wp2_with fail
        refine (few_any u x _ HU.out).mono ?_
        rintro e w2 ⟨v5, rfl, ho, he⟩
        have HB := Lib.hid ho.bs
        have HE2 := Lib.hid (HE.out.trans he)
        have HX2 := Lib.hid (HU.out.ext he)
        clear ho he HU hxl
        have HFEW := Lib.hid (fun W (h : Ext w2 W) => few_any u x W (HX2.out.ext h))
        generalize x.take 800 = y at *
        have hyl : y.length ≤ 1000000000 := Nat.le_trans HXL.out (by decide)
        have HYL := Lib.hid hyl
        clear hyl
        go_wp2_with fail
        refine (pad_any v5 y _ HB.out HYL.out).mono ?_
        rintro e w3 ⟨v6, rfl, ho, he⟩
        have HO := Lib.hid ho
        have HE3 := Lib.hid he
        clear ho he
        go_wp2_with fail
        refine (sum_any v5 y _ (HB.out.ext HE3.out) HYL.out (HT.out.ext (HE2.out.trans HE3.out))).mono ?_
        rintro e w4 ⟨rfl, he⟩
        have HO := Lib.hid (HO.out.ext he)
        have HE4 := Lib.hid (HE3.out.trans he)
        clear he HE3
        go_wp2_with fail
        refine (HFEW.out _ HE4.out).mono ?_
        rintro e w5 ⟨v7, rfl, ho, he⟩
        have HB7 := Lib.hid ho.bs
        have HO := Lib.hid (HO.out.ext he)
        have HE5 := Lib.hid (HE4.out.trans he)
        clear he ho HE4
        go_wp2_with fail
        refine (refSum3_any v7 y _ HB7.out HYL.out).mono ?_
        rintro e w6 ⟨rfl, he⟩
        have HO := Lib.hid (HO.out.ext he)
        have HE6 := Lib.hid (HE5.out.trans he)
        clear he HE5 HB7
        generalize sumF y = sm at *
        go_wp2_with ((with_reducible refine wpList_neq_id ?_ (.tmp 24) (.tmp 27) ?_ sm sm false ?_ ?_ (same_self sm) ?_); (exact rfl); (exact rfl); (exact rfl); (exact rfl))
        refine (HFEW.out _ HE6.out).mono ?_
        rintro e w7 ⟨v8, rfl, ho, he⟩
        have HB8 := Lib.hid ho.bs
        have HO := Lib.hid (HO.out.ext he)
        have HE7 := Lib.hid (HE6.out.trans he)
        clear he ho HE6
        go_wp2_with fail
        refine (refPad_any v8 y _ HB8.out HYL.out).mono ?_
        rintro e w8 ⟨v9, rfl, ho, he⟩
        have HB9 := Lib.hid ho.bs
        have HO := Lib.hid (HO.out.ext he)
        have HE8 := Lib.hid (HE7.out.trans he)
        clear he ho HE7 HB8
        go_wp2_with fail
        refine (sameB_yes v6 v9 (padL y) _ HO.out.bs HB9.out).mono ?_
        rintro e w9 ⟨rfl, rfl⟩
        clear HB9
        obtain ⟨P, hP⟩ : ∃ P, padL y = P := ⟨_, rfl⟩
        rw [hP] at HO
        have hPp : 0 < P.length := by rw [← hP, padL_len]; unfold padN; omega
        clear hP
        obtain ⟨g0, cap0, rfl, _, _, _, _⟩ := HO.out.form hPp
        have HN := Lib.hid (show P.length ≤ maxLen from by obtain ⟨_, _, e1, h1, h2, _⟩ := HO.out.bs; exact Nat.le_trans h1 h2)
        have hN := HN.out
        unfold maxLen at hN
        obtain ⟨n, hn⟩ : ∃ n, P.length = n := ⟨_, rfl⟩
        rw [hn] at hN ⊢
        have HO2 : Hid (∃ P', P'.length = n ∧ Own w8 w2.heap.size 5 (.slice (some ⟨g0, 0, none⟩) n cap0) P') := Lib.hid ⟨P, hn, by have := HO.out; rwa [hn] at this⟩
        clear HO hn hPp HN
        go_wp2_with fail
        go_loopw [7, 39, 40, 41, 42, 43, 44, 45, 46, 47, 48] (fun _ u _ _ _ _ _ _ _ _ _ wr => ∃ j : Nat, j ≤ n ∧ u = .int .i64 j ∧ Hid (∃ P', P'.length = n ∧ Own wr w2.heap.size 5 (.slice (some ⟨g0, 0, none⟩) n cap0) P') ∧ Hid (Ext w2 wr)) (fun _ u _ _ _ _ _ _ _ _ _ _ => n - (intOf u).toNat)
        case atStart => exact ⟨0, by omega, rfl, HO2, HE8⟩
        case round =>
          clear HO2 HE8
          obtain ⟨j, hj, rfl, HO2, HW⟩ := hrel
          by_cases hlj : j < n
          · have hdj : decide (j < n) = true := decide_eq_true hlj
            obtain ⟨P', hP', ho⟩ := HO2.out
            obtain ⟨g, cap, e, hbg, hcell, hfr, hst⟩ := ho.form (by omega)
            simp only [Value.slice.injEq, Option.some.injEq, Addr.mk.injEq, and_true] at e
            obtain ⟨rfl, _, rfl⟩ := e
            have hc := hcell j (by omega)
            have hf := hfr j
            have h2 := hst j (P'.getD j 0 + 1)
            have hup := up_byte ⟨(P'.getD j 0).toNat, (P'.getD j 0).toNat_lt⟩
            dsimp only at hup
            rw [show UInt8.ofNat (P'.getD j 0).toNat = P'.getD j 0 by simp] at hup
            unfold bv at hc h2
            have H2 := Lib.hid (show (∃ P'', P''.length = n ∧ Own (wr.setCell ⟨g0, j, none⟩ (.int .u8 (((P'.getD j 0 + 1).toNat : Nat) : Int))) w2.heap.size 5 (.slice (some ⟨g0, 0, none⟩) n cap0) P'') ∧ Ext w2 (wr.setCell ⟨g0, j, none⟩ (.int .u8 (((P'.getD j 0 + 1).toNat : Nat) : Int))) from ⟨⟨_, by rw [List.length_set, hP'], h2.1⟩, HW.out.grown h2.2 hbg⟩)
            generalize (P'.getD j 0 + 1).toNat = z at *
            have hcb := (P'.getD j 0).toNat_lt
            generalize (P'.getD j 0).toNat = y0 at *
            clear h2 hst hcell hfr ho hP' HO2
            have a1 : (0 : Int) ≤ (j : Int) := by omega
            go_wp2_with fail
            exact ⟨⟨j + 1, by omega, by go_num, Lib.hid H2.out.1, Lib.hid H2.out.2⟩, by simp [intOf]; omega⟩
          · obtain rfl : j = n := by omega
            go_wp2_with fail
            refine (HFEW.out _ HW.out).mono ?_
            rintro e w10 ⟨v10, rfl, ho, he⟩
            have HB10 := Lib.hid ho.bs
            have HW2 := Lib.hid (HW.out.trans he)
            clear he ho
            go_wp2_with fail
            refine (sameB_yes v5 v10 y _ (HB.out.ext HW2.out) HB10.out).mono ?_
            rintro e w11 ⟨rfl, rfl⟩
            go_wp2_with fail
            exact ⟨⟨k + 1, by omega, by omega, by go_num, Lib.hid (HE2.out.trans HW2.out)⟩, by simp [intOf]; omega⟩
    · obtain rfl : k = l.length := by omega
      go_wp2_with fail
      go_ret
      exact ⟨rfl, HE.out⟩

set_option maxRecDepth 100000 in
theorem sums3_told (W : World) (args : Array Value) (h : Told Tryd.f3 W args) (ht : Tb W) : Calls Tryd.prog 3 args W (RetT W) := by
  obtain ⟨H, enc, base, ds, p, hval, hA⟩ := h
  rw [Tryd.params3] at hA hval
  obtain ⟨v0, d0, rfl, rfl, k0⟩ := trodAll_one hA
  obtain ⟨f2, k2⟩ := k0
  obtain ⟨v, raw, hv, hraw⟩ := slice_came (α := List UInt8) Tryd.underlying22 (s := 1) (by kernel_rfl) (by decide) (fun cs x => ∃ u, cs = [u] ∧ Bs W u x) (fun fuel cs x h => by
    obtain ⟨u, l, e, hl⟩ := bytes_trod Tryd.underlying24 Tryd.underlying5 (by kernel_rfl) h
    exact ⟨l, u, e, hl⟩) k2
  obtain rfl : v0 = v := by
    obtain ⟨a2, n2, c2, rfl⟩ := okWide_slice Tryd.underlying22 (hval 0 _ v0 rfl rfl)
    simpa [Value.cells] using hv
  exact sums3_any v0 raw W hraw ht

set_option maxRecDepth 100000 in
theorem sums3_spec (H : Type) : ∀ ds : List (DataW H), ds.length = Tryd.f3.params.toList.length → Rows.spongeSumsSpec.fn H ds = { results := [.lit (.bool true)], args := ds }
  | [_], _ => rfl
  | [], h | _ :: _ :: _, h => by rw [Tryd.params3] at h; simp at h

set_option maxRecDepth 100000 in
theorem spongeSums_holds : Rows.SpongeSumsSaid :=
  OpenClaim.holds_of_wide 3 Tryd.f3 rfl rfl rfl rfl rfl rfl rfl ⟨rfl, rfl, rfl, rfl, rfl⟩ rfl rfl rfl rfl rfl (by kernel_rfl) Tryd.func3 (by kernel_rfl)
    (of_decide_eq_true (by kernel_rfl)) (by unfold Func.isWrapper; first | (rw [if_pos (by decide +kernel)]; kernel_rfl) | (rw [if_neg (by decide +kernel)]; exact ⟨rfl, rfl⟩))
    (fun os started H enc _ => law_lifted_t started (by kernel_rfl) Tryd.func3 rfl rfl (sums3_spec H) (of_decide_eq_true (by kernel_rfl))
      (ChangeSpec.witness_shaped (enc := enc) (C := Tryd.checked) (os := os) (X := fun w _ => laidMetH Tryd.prog laid2 w) false (World.doorLaid Tryd.prog 400 os) #[.slice none 0 0] 8 rfl (World.shaped_of_RefB (by kernel_rfl) (by kernel_rfl)) (by kernel_rfl) (by kernel_rfl) (by kernel_rfl) (door_met os _)) sums3_told)

set_option maxRecDepth 100000 in
theorem spongeSums_card : Rows.SpongeSumsCardSaid :=
  Claim7.holds_tied_plain_at .later [] [.data, .data] true (true, "6022e3c362c65ddb5e4c18bedef3ddafca15e789426a41385729bbd240e05e94") false
    spongeSums_holds (fun _ h => by cases h) (by kernel_rfl) (fun _ h => by cases h) spongeSums_row_tie rfl ⟨rfl, rfl⟩ (by kernel_rfl) rfl
    (fun f fn hf hfn => by
      obtain rfl : f = 3 := Option.some.inj ((show Tryd.prog.funcNamed "sheafer/sheaferlaw03.SpongeSums" = some 3 by kernel_rfl).symm.trans hf) |>.symm
      obtain rfl : fn = Tryd.f3 := (Option.some.inj (Tryd.func3.symm.trans hfn)).symm
      exact ⟨by kernel_rfl, fun j t ht => by
        rw [Tryd.params3] at ht
        have hm : t ∈ [22] := by simpa using Array.mem_of_getElem? ht
        have hall : ([22].all fun u => !Tryd.prog.wantsStandIn u) = true := by kernel_rfl
        exact (show Tryd.prog.wantsStandIn t = false by simpa using List.all_eq_true.1 hall t hm)⟩)
    (by kernel_rfl)
end Go.Proofs.YthjmjccggkejhaaDoor
