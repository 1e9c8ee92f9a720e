/- PackReads: the parts of bytes. No condition: every row of slices of bytes, every form. -/
import Derived.Test.YtdlllihfibjabaaPlf
import Derived.Test.YtdlllihfibjabaaPlh
namespace Go.Proofs.Ytdlllihfibjabaa
open Go.ChangeShapes Go.WideShapes Go.ChangeAt Go.RowKit Go.Shelf

set_option maxRecDepth 100000 in
theorem Bls.takeMin {W : World} {A : Option Addr} {n c : Nat} {l : List Bool} (h : Bls W (.slice A n c) l) (m k : Nat) (hk : k = min l.length m) : Bls W (.slice A k c) (l.take m) := by
  obtain ⟨A', c', e, h1, h2, h3⟩ := h
  injection e with e1 e2 e3
  subst e1; subst e3
  have hl : (l.take m).length = k := by rw [List.length_take, hk, Nat.min_comm]
  refine ⟨A, c, by rw [hl], by rw [hl]; omega, h2, fun hp => ?_⟩
  rw [hl] at hp
  obtain ⟨b, o, ea, hc⟩ := h3 (by omega)
  refine ⟨b, o, ea, fun i x hx => hc i x ?_⟩
  rw [List.getElem?_take] at hx
  split at hx
  · exact hx
  · cases hx
/-- What lies there while bytes are turned: those bytes, what was read, what is wanted. -/
def PrJ (w : World) (B3 B4 : Nat) (v3 v7 v9 : Value) (n : Nat) (ps qs : List Pt) (W : World) : Prop :=
  (∃ d', d'.length = n ∧ Own W B3 5 v3 d') ∧ Far B4 No W (fun W => Pts W v7 ps) ∧ Far B4 No W (fun W => Pts W v9 qs) ∧ Ext w W
set_option maxRecDepth 100000 in
set_option maxHeartbeats 4000000 in
theorem packReads_any (v1 v2 : Value) (raw : List (List UInt8)) (ls : List Bool) (w : World) (h1 : Bss w v1 raw) (h2 : Bls w v2 ls) : Calls Try.prog 4 #[v1, v2] w (RetT w) := by
  have H1 := Lib.hid h1
  obtain ⟨A1, c1, rfl, k3, k4, k5⟩ := h1
  clear k5
  obtain ⟨A2, c2, rfl, k6, k7⟩ := h2.len
  unfold maxLen at k4 k7
  have HLT := Lib.hid (h2.takeMin 17 (min (ls.length : Int) 17).toNat (by omega))
  obtain ⟨lt, hlt⟩ : ∃ lt, ls.take 17 = lt := ⟨_, rfl⟩
  have HLL := Lib.hid (show (min (ls.length : Int) 17).toNat = lt.length from by rw [← hlt, List.length_take]; omega)
  have HL17 := Lib.hid (show lt.length ≤ 17 from by rw [← hlt, List.length_take]; omega)
  rw [hlt, HLL.out] at HLT
  clear hlt h2
  have hL17 : (lt.length : Int) ≤ 17 := by have := HL17.out; omega
  go_enter Try.func4, Try.ntmps4
  go_wp2_with fail
  refine (packWakes_any _).mono ?_
  rintro e w1 ⟨rfl, he1⟩
  have HE1 := Lib.hid he1
  clear he1
  go_wp2_with fail
  rw [HLL.out]
  go_loopw [21] (fun u wr => ∃ k : Nat, k ≤ raw.length ∧ u = .int .i64 k ∧ Hid (Ext w wr)) (fun u _ => raw.length - (intOf u).toNat)
  case atStart => exact ⟨0, by omega, rfl, HE1⟩
  case round =>
    clear HE1
    obtain ⟨q, hq, rfl, HF⟩ := hrel
    by_cases hlt2 : q < raw.length
    · have hd2 : decide (q < raw.length) = true := decide_eq_true hlt2
      obtain ⟨b2, o2, ub, rfl, hcb, hpb⟩ := (Bss.ext H1.out HF.out).at q hlt2
      generalize raw.getD q [] = x at *
      have HX := Lib.hid hpb
      obtain ⟨A3, c3, rfl, y1, y2, y3⟩ := hpb
      unfold maxLen at y2
      clear y3
      by_cases h9 : q = 8
      · have h91 : ((q : Int) == 8) = true := by simp; omega
        have h92 : (q == 8) = true := by simp; omega
        clear h9
        go_wp2_with fail
        go_ret
        exact ⟨rfl, HF.out⟩
      · have h91 : ((q : Int) == 8) = false := by simp; omega
        have h92 : (q == 8) = false := by simpa using h9
        clear h9
        obtain ⟨d, hdd⟩ : ∃ d, x.take 4000 = d := ⟨_, rfl⟩
        have HDL := Lib.hid (show d.length ≤ 4000 by rw [← hdd]; simp; omega)
        have HB3 := Lib.hid (show Bs wr (.slice A3 (min (x.length : Int) 4000).toNat c3) d from by rw [← hdd]; exact HX.out.takeMin 4000 _ (by omega))
        clear hdd
        go_wp2_with (at_builtin; go_loud ((refine wpList_append_bytes rfl (.tmp 28) (.tmp 33) _ rfl wr.heap.size 5 Try.underlying28 u8info _ [] rfl (own_made wr _ 5 (Nat.le_refl _)) _ d rfl (HB3.out.ext ((Ext.refl wr).alloc _)) (by have := HDL.out; simp; omega) ((Ext.refl wr).alloc _).size ?_); intro w3v w3 ho hg _; have HX3 := Lib.hid (((Ext.refl wr).alloc (.cells #[] 5)).append (own_made wr _ 5 (Nat.le_refl _)) hg); rw [List.nil_append] at ho; have HO3 := Lib.hid ho; clear ho hg))
        have HLT3 := Lib.hid (HLT.out.ext (HF.out.trans HX3.out))
        refine (packRead_any _ _ d lt _ HO3.out.bs HLT3.out (by have := HDL.out; omega)).mono ?_
        rintro e w4 ⟨v7, rfl, hf4, he4⟩
        have HF4 := Lib.hid hf4
        have HO4 := Lib.hid (HO3.out.ext he4)
        have HE4 := Lib.hid (HF.out.trans (HX3.out.trans he4))
        have HLT4 := Lib.hid (HLT3.out.ext he4)
        have HV3 := Lib.hid (show ∀ g, w3v.ownBlock = some g → g < w3.heap.size from fun g hg => (HO3.out.lt g hg).2)
        have HV4 := Lib.hid (show w3.heap.size ≤ w4.heap.size from he4.size)
        have HB3L := Lib.hid (show w.heap.size ≤ wr.heap.size from HF.out.size)
        clear hf4 he4 HX3 HLT3 HX HB3 HO3
        by_cases h16 : 16 < lt.length
        · have hdl : decide ((16 : Int) < (lt.length : Int)) = true := decide_eq_true (by omega)
          have hdl2 : decide (16 < lt.length) = true := decide_eq_true h16
          rw [show rdErr d lt = 3 by unfold rdErr; rw [if_pos h16]]
          have HF5 := Lib.hid (show Pts w4 v7 [] by have := HF4.out.here; unfold rdL at this; rwa [if_pos h16] at this)
          obtain ⟨A7, c7, rfl, _, s7⟩ := HF5.out.len
          clear h16
          go_wp2_with fail
          exact ⟨⟨q + 1, by omega, by go_num, HE4⟩, by simp [intOf]; omega⟩
        · have hdl : decide ((16 : Int) < (lt.length : Int)) = false := decide_eq_false (by omega)
          have hdl2 : decide (16 < lt.length) = false := decide_eq_false h16
          have HRE := Lib.hid (show rdErr d lt = if (rdE d lt).isSome then 0 else 141 by unfold rdErr; rw [if_neg h16])
          have HRL := Lib.hid (show rdL d lt = (rdE d lt).getD [] by unfold rdL; rw [if_neg h16])
          rw [HRE.out]
          rw [HRL.out] at HF4
          have HBD := Lib.hid (show lt.length ≤ 16 by omega)
          obtain ⟨ee, hee⟩ : ∃ ee : Int, (if (rdE d lt).isSome then 0 else 141) = ee := ⟨_, rfl⟩
          rw [hee]
          have HEE := Lib.hid hee
          clear h16 HRE HRL hee
          go_wp2_with fail
          refine (refReadP_any _ _ d lt _ HO4.out.bs HLT4.out (by have := HDL.out; omega) HBD.out).mono ?_
          rintro e w5 ⟨v9, rfl, hf5, he5⟩
          have HF9 := Lib.hid (hf5.low HV4.out)
          have HF7 := Lib.hid (HF4.out.ext he5)
          have HO5 := Lib.hid (HO4.out.ext he5)
          have HE5 := Lib.hid (HE4.out.trans he5)
          clear hf5 he5 HF4 HO4 HE4 HLT4
          obtain ⟨A5, c5, rfl, y5, y6, y7⟩ := HO5.out.bs
          unfold maxLen at y6
          clear y7
          obtain ⟨r, hr⟩ : ∃ r, rdE d lt = r := ⟨_, rfl⟩
          rw [hr] at HF7 HF9 HEE
          rw [hr]
          clear hr
          cases r with
          | none =>
            obtain rfl : ee = 141 := HEE.out.symm
            have HF7 : Hid (Far w3.heap.size No w5 (fun W => Pts W v7 [])) := HF7
            have HF9 : Hid (Far w3.heap.size No w5 (fun W => Pts W v9 [])) := HF9
            obtain ⟨A7, c7, e7, _, s7⟩ := HF7.out.here.len
            have e7 : v7 = .slice A7 0 c7 := e7
            subst e7
            go_wp2_with fail
            have HJ0 : Hid (PrJ w wr.heap.size w3.heap.size (.slice A5 d.length c5) (.slice A7 0 c7) v9 d.length [] [] w5) := Lib.hid ⟨⟨d, rfl, HO5.out⟩, HF7.out, HF9.out, HE5.out⟩
            have HN8 := Lib.hid (show (d.length : Int) ≤ 4000 by have := HDL.out; omega)
            have hdl8 := HN8.out
            clear HO5 HE5
            generalize w3.heap.size = B4 at *
            generalize wr.heap.size = B3 at *
            go_loopw [83] (fun u wr => ∃ i : Nat, i ≤ d.length ∧ u = .int .i64 i ∧ Hid (PrJ w B3 B4 (.slice A5 d.length c5) (.slice A7 0 c7) v9 d.length [] [] wr)) (fun u _ => d.length - (intOf u).toNat)
            case atStart => exact ⟨0, by omega, rfl, HJ0⟩
            case round =>
              clear HJ0
              obtain ⟨i, hi, rfl, HJ⟩ := hrel
              by_cases hlt3 : i < d.length
              · have hd3 : decide (i < d.length) = true := decide_eq_true hlt3
                obtain ⟨⟨d', hl', ho'⟩, h7, h9', hex⟩ := HJ.out
                obtain ⟨g8, cap8, e8, hb8, hcl8, hfr8, hst8⟩ := Own.form ho' (by omega)
                rw [hl'] at hcl8 e8
                injection e8 with e8 _ e9
                subst e8
                subst e9
                have hci := hcl8 i hlt3
                have hfi := hfr8 i
                have hv8 : g8 < B4 := HV3.out g8 rfl
                generalize d'.getD i 0 = c at hci
                have HNX : Hid (PrJ w B3 B4 (.slice (some ⟨g8, 0, none⟩) d.length c5) (.slice A7 0 c7) v9 d.length [] [] (wr.setCell ⟨g8, i, none⟩ (bv (c ^^^ 85)))) := Lib.hid ⟨⟨_, by rw [List.length_set]; exact hl', (hst8 i (c ^^^ 85)).1⟩, h7.old (grown_set _ _ _ _) (.inl hv8), h9'.old (grown_set _ _ _ _) (.inl hv8), hex.grown (grown_set _ _ _ _) (by have := HB3L.out; omega)⟩
                unfold bv at hci
                clear hcl8 hfr8 hst8 ho' h7 h9' hex HJ
                go_wp2_with fail
                rw [show Value.int .u8 (bits .xor .u8 (c.toNat : Int) 85) = bv (c ^^^ 85) from bv_xor c 85]
                exact ⟨⟨i + 1, by omega, by go_num, HNX⟩, by simp [intOf]; omega⟩
              · obtain rfl : i = d.length := by omega
                have HFX := Lib.hid HJ.out.2.2.2
                go_wp2_with fail
                exact ⟨⟨q + 1, by omega, by go_num, HFX⟩, by simp [intOf]; omega⟩
          | some ps =>
            obtain rfl : ee = 0 := HEE.out.symm
            have HF7 : Hid (Far w3.heap.size No w5 (fun W => Pts W v7 ps)) := HF7
            have HF9 : Hid (Far w3.heap.size No w5 (fun W => Pts W v9 ps)) := HF9
            go_wp2_with fail
            refine (refSameL_any _ _ ps ps _ HF7.out.here HF9.out.here).mono ?_
            rintro e w6 ⟨rfl, he6⟩
            rw [show (ps == ps) = true by simp]
            have HG7 := Lib.hid (HF7.out.ext he6)
            have HG9 := Lib.hid (HF9.out.ext he6)
            have HO6 := Lib.hid (HO5.out.ext he6)
            have HE6 := Lib.hid (HE5.out.trans he6)
            clear he6 HF7 HF9 HO5 HE5
            go_wp2_with fail
            have HJ0 : Hid (PrJ w wr.heap.size w3.heap.size (.slice A5 d.length c5) v7 v9 d.length ps ps w6) := Lib.hid ⟨⟨d, rfl, HO6.out⟩, HG7.out, HG9.out, HE6.out⟩
            have HN8 := Lib.hid (show (d.length : Int) ≤ 4000 by have := HDL.out; omega)
            have hdl8 := HN8.out
            clear HO6 HE6
            generalize w3.heap.size = B4 at *
            generalize wr.heap.size = B3 at *
            go_loopw [83] (fun u wr => ∃ i : Nat, i ≤ d.length ∧ u = .int .i64 i ∧ Hid (PrJ w B3 B4 (.slice A5 d.length c5) v7 v9 d.length ps ps wr)) (fun u _ => d.length - (intOf u).toNat)
            case atStart => exact ⟨0, by omega, rfl, HJ0⟩
            case round =>
              clear HJ0
              obtain ⟨i, hi, rfl, HJ⟩ := hrel
              by_cases hlt3 : i < d.length
              · have hd3 : decide (i < d.length) = true := decide_eq_true hlt3
                obtain ⟨⟨d', hl', ho'⟩, h7, h9', hex⟩ := HJ.out
                obtain ⟨g8, cap8, e8, hb8, hcl8, hfr8, hst8⟩ := Own.form ho' (by omega)
                rw [hl'] at hcl8 e8
                injection e8 with e8 _ e9
                subst e8
                subst e9
                have hci := hcl8 i hlt3
                have hfi := hfr8 i
                have hv8 : g8 < B4 := HV3.out g8 rfl
                generalize d'.getD i 0 = c at hci
                have HNX : Hid (PrJ w B3 B4 (.slice (some ⟨g8, 0, none⟩) d.length c5) v7 v9 d.length ps ps (wr.setCell ⟨g8, i, none⟩ (bv (c ^^^ 85)))) := Lib.hid ⟨⟨_, by rw [List.length_set]; exact hl', (hst8 i (c ^^^ 85)).1⟩, h7.old (grown_set _ _ _ _) (.inl hv8), h9'.old (grown_set _ _ _ _) (.inl hv8), hex.grown (grown_set _ _ _ _) (by have := HB3L.out; omega)⟩
                unfold bv at hci
                clear hcl8 hfr8 hst8 ho' h7 h9' hex HJ
                go_wp2_with fail
                rw [show Value.int .u8 (bits .xor .u8 (c.toNat : Int) 85) = bv (c ^^^ 85) from bv_xor c 85]
                exact ⟨⟨i + 1, by omega, by go_num, HNX⟩, by simp [intOf]; omega⟩
              · obtain rfl : i = d.length := by omega
                have HFX := Lib.hid HJ.out.2.2.2
                have HQ7 := Lib.hid HJ.out.2.1.here
                have HQ9 := Lib.hid HJ.out.2.2.1.here
                go_wp2_with fail
                refine (refSameL_any _ _ ps ps _ HQ7.out HQ9.out).mono ?_
                rintro e w7 ⟨rfl, he⟩
                rw [show (ps == ps) = true by simp]
                have HFY := Lib.hid (HFX.out.trans he)
                go_wp2_with fail
                exact ⟨⟨q + 1, by omega, by go_num, HFY⟩, by simp [intOf]; omega⟩
    · obtain rfl : q = raw.length := by omega
      go_wp2_with fail
      go_ret
      exact ⟨rfl, HF.out⟩

set_option maxRecDepth 100000 in
theorem packReads_told (W : World) (args : Array Value) (h : Told Try.f4 W args) : Calls Try.prog 4 args W (RetT W) := by
  obtain ⟨H, enc, base, ds, p, hval, hA⟩ := h
  rw [Try.params4] at hA hval
  obtain ⟨v0, v1, d0, d1, p0, p1, ha, rfl, rfl, h0, h1⟩ := trodAll_two hA
  obtain rfl : args = #[v0, v1] := by apply Array.toList_inj.1; rw [ha]
  obtain ⟨x0, hx0⟩ := bss_came (hval 0 _ v0 rfl rfl) h0
  obtain ⟨x1, hx1⟩ := bls_came (hval 1 _ v1 rfl rfl) h1
  exact packReads_any v0 v1 x0 x1 W hx0 hx1

set_option maxRecDepth 100000 in
theorem packReads_spec (H : Type) : ∀ ds : List (DataW H), ds.length = Try.f4.params.toList.length → Rows.packReadsSpec.fn H ds = { results := [.lit (.bool true)], args := ds }
  | [_, _], _ => rfl
  | [], h | [_], h | _ :: _ :: _ :: _, h => by rw [Try.params4] at h; simp at h

set_option maxRecDepth 100000 in
theorem packReads_holds : Rows.PackReadsSaid :=
  OpenClaim.holds_of_wide 4 Try.f4 rfl rfl rfl rfl rfl rfl rfl ⟨rfl, rfl, rfl, rfl, rfl⟩ rfl rfl rfl rfl rfl (by kernel_rfl) Try.func4 (by kernel_rfl)
    (of_decide_eq_true (by kernel_rfl)) (by unfold Func.isWrapper; first | (rw [if_pos (by decide +kernel)]; kernel_rfl) | (rw [if_neg (by decide +kernel)]; exact ⟨rfl, rfl⟩))
    (fun os started H enc _ => law_lifted started (by kernel_rfl) Try.func4 rfl rfl (packReads_spec H) (of_decide_eq_true (by kernel_rfl))
      (ChangeSpec.witness6 (enc := enc) (C := Try.checked) false ⟨#[], #[.slice none 0 0, .slice none 0 0], []⟩ 8 (by kernel_rfl) (by kernel_rfl) (by kernel_rfl) (by kernel_rfl)) packReads_told)
end Go.Proofs.Ytdlllihfibjabaa
