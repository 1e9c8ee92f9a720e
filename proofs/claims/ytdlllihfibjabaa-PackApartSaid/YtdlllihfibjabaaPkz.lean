/- PackApart: parts of one form that are not the same have other bytes. No condition: every two slices of parts. -/
import Derived.Test.YtdlllihfibjabaaPky
namespace Go.Proofs.Ytdlllihfibjabaa
open Go.ChangeShapes Go.WideShapes Go.ChangeAt Go.RowKit Go.Shelf

set_option maxRecDepth 100000 in
/-- Of one form: bytes are the same just if parts are. -/
theorem lay_one (a b : List Pt) (ha : errP a = 0) (hb : errP b = 0) (wa : ∀ p ∈ a, p.2.1 < M256) (wb : ∀ p ∈ b, p.2.1 < M256) (hf : a.map (·.1) = b.map (·.1)) : (layL a == layL b) = (a == b) := by
  by_cases h : a = b
  · subst h
    simp
  · have : layL a ≠ layL b := fun e => h (by
      have h1 := rdE_of a ha wa
      have h2 := rdE_of b hb wb
      rw [e, hf, h2] at h1
      injection h1 with h1
      exact h1.symm)
    rw [beq_eq_false_iff_ne.2 h, beq_eq_false_iff_ne.2 this]
set_option maxRecDepth 100000 in
theorem Pts.words {W : World} {v : Value} {l : List Pt} (h : Pts W v l) : ∀ p ∈ l, p.2.1 < M256 := by
  intro p hp
  obtain ⟨i, hi, rfl⟩ := List.getElem_of_mem hp
  obtain ⟨A, c, rfl, _, _⟩ := h.len
  obtain ⟨_, _, _, _, _, _, hw⟩ := h.at i hi
  simpa [List.getD, hi] using hw
set_option maxRecDepth 100000 in
set_option maxHeartbeats 1000000 in
theorem packApart_any (v1 v2 : Value) (x y : List Pt) (w : World) (h1 : Pts w v1 x) (h2 : Pts w v2 y) : Calls Try.prog 7 #[v1, v2] w (RetT w) := by
  have H1 := Lib.hid h1
  have H2 := Lib.hid h2
  clear h1 h2
  go_enter Try.func7, Try.ntmps7
  go_wp2_with fail
  refine (packWakes_any _).mono ?_
  rintro e w1 ⟨rfl, he1⟩
  have HE1 := Lib.hid he1
  clear he1
  go_wp2_with fail
  refine (packFew_any _ x _ (H1.out.ext HE1.out)).mono ?_
  rintro e w2 ⟨va, rfl, hf2, he2⟩
  have HA2 := Lib.hid hf2.here
  have HE2 := Lib.hid (HE1.out.trans he2)
  clear hf2 he2
  go_wp2_with fail
  refine (packFew_any _ y _ (H2.out.ext HE2.out)).mono ?_
  rintro e w3 ⟨vb, rfl, hf3, he3⟩
  have HB := Lib.hid hf3.here
  have HA := Lib.hid (HA2.out.ext he3)
  have HE3 := Lib.hid (HE2.out.trans he3)
  have HLA := Lib.hid (fewP_len x)
  have HLB := Lib.hid (fewP_len y)
  generalize fewP x = a at *
  generalize fewP y = b at *
  clear hf3 he3 HA2 HE2 HE1 H1 H2
  obtain ⟨A, ca, rfl, q1, q2⟩ := HA.out.len
  obtain ⟨B, cb, rfl, q3, q4⟩ := HB.out.len
  have hla : (a.length : Int) ≤ 17 := by have := HLA.out; omega
  have hlb : (b.length : Int) ≤ 17 := by have := HLB.out; omega
  by_cases hne : a.length = b.length
  · have hq : ((a.length : Int) != (b.length : Int)) = false := by simp [hne]
    have hq2 : (a.length != b.length) = false := by simp [hne]
    have HNE := Lib.hid hne
    clear hne
    go_wp2_with fail
    go_loopw [7, 25, 27, 28, 29, 30, 31, 32, 33, 34, 35, 36, 37, 38] (fun _ u _ _ _ _ _ _ _ _ _ _ _ _ wr => ∃ k : Nat, k ≤ a.length ∧ u = .int .i64 k ∧ Hid (Ext w3 wr ∧ (a.take k).map (·.1) = (b.take k).map (·.1))) (fun _ u _ _ _ _ _ _ _ _ _ _ _ _ _ => a.length - (intOf u).toNat)
    case atStart => exact ⟨0, by omega, rfl, Lib.hid ⟨Ext.refl _, rfl⟩⟩
    case round =>
      obtain ⟨k, hk, rfl, HJ⟩ := hrel
      by_cases hlt : k < a.length
      · have hd : decide (k < a.length) = true := decide_eq_true hlt
        have hlt2 : k < b.length := by have := HNE.out; omega
        obtain ⟨b1, o1, u1, rfl, r1, _, _⟩ := (HA.out.ext HJ.out.1).at k hlt
        obtain ⟨b2, o2, u2, rfl, r2, _, _⟩ := (HB.out.ext HJ.out.1).at k hlt2
        have hc1 := rng0 r1
        have hc2 := rng0 r2
        have HT := Lib.hid (show (a.getD k (false, 0, [])).1 = (b.getD k (false, 0, [])).1 → (a.take (k + 1)).map (·.1) = (b.take (k + 1)).map (·.1) from fun h => by
          rw [List.take_succ_eq_append_getElem hlt, List.take_succ_eq_append_getElem hlt2, List.map_append, List.map_append, HJ.out.2]
          simp [List.getD, hlt, hlt2] at h
          simp [h])
        clear r1 r2
        generalize (a.getD k (false, 0, [])).1 = f1 at *
        generalize (b.getD k (false, 0, [])).1 = f2 at *
        go_wp2_with fail
        go_quiet (fail)
        have HE := Lib.hid (ext_drewN HJ.out.1 nq)
        cases f1 with
        | true =>
          cases f2 with
          | true =>
            have HJ2 : Hid (Ext w3 _ ∧ (a.take (k + 1)).map (·.1) = (b.take (k + 1)).map (·.1)) := Lib.hid ⟨HE.out, HT.out rfl⟩
            go_wp2_with fail
            exact ⟨⟨k + 1, by omega, by go_num, HJ2⟩, by simp [intOf]; omega⟩
          | false =>
            go_wp2_with fail
            go_ret
            exact ⟨rfl, HE3.out.trans HE.out⟩
        | false =>
          cases f2 with
          | true =>
            go_wp2_with fail
            go_ret
            exact ⟨rfl, HE3.out.trans HE.out⟩
          | false =>
            have HJ2 : Hid (Ext w3 _ ∧ (a.take (k + 1)).map (·.1) = (b.take (k + 1)).map (·.1)) := Lib.hid ⟨HE.out, HT.out rfl⟩
            go_wp2_with fail
            exact ⟨⟨k + 1, by omega, by go_num, HJ2⟩, by simp [intOf]; omega⟩
      · obtain rfl : k = a.length := by omega
        have HF := Lib.hid (show a.map (·.1) = b.map (·.1) by
          have := HJ.out.2
          rw [List.take_length] at this
          rw [HNE.out, List.take_length] at this
          exact this)
        have HEr := Lib.hid (HE3.out.trans HJ.out.1)
        have HA4 := Lib.hid (HA.out.ext HJ.out.1)
        have HB4 := Lib.hid (HB.out.ext HJ.out.1)
        clear HJ HA HB HE3
        go_wp2_with fail
        refine (lay_any _ a _ HA4.out).mono ?_
        rintro e w5 ⟨u5, rfl, ho5, he5⟩
        have HO5 := Lib.hid ho5.bs
        have HE5 := Lib.hid (HEr.out.trans he5)
        have HA5 := Lib.hid (HA4.out.ext he5)
        have HB5 := Lib.hid (HB4.out.ext he5)
        clear ho5 he5 HEr HA4 HB4
        go_wp2_with fail
        refine (lay_any _ b _ HB5.out).mono ?_
        rintro e w6 ⟨u6, rfl, ho6, he6⟩
        have HP6 := Lib.hid ho6.bs
        have HO6 := Lib.hid (HO5.out.ext he6)
        have HE6 := Lib.hid (HE5.out.trans he6)
        have HA6 := Lib.hid (HA5.out.ext he6)
        have HB6 := Lib.hid (HB5.out.ext he6)
        clear ho6 he6 HE5 HA5 HB5 HO5
        have HX := Lib.hid (fun h1 h2 => lay_one a b h1 h2 HA6.out.words HB6.out.words HF.out)
        generalize errP a = ea at *
        generalize errP b = eb at *
        generalize layL a = la at *
        generalize layL b = lb at *
        by_cases h1 : ea = 0
        · by_cases h2 : eb = 0
          · subst h1
            subst h2
            have HX2 := Lib.hid (HX.out rfl rfl)
            clear HX
            go_wp2_with fail
            refine (bytesEqual_any _ _ la lb _ HO6.out HP6.out).mono ?_
            rintro e w7 ⟨rfl, rfl⟩
            go_wp2_with fail
            refine (packSame_any _ _ a b _ HA6.out HB6.out).mono ?_
            rintro e w8 ⟨rfl, he8⟩
            have HE8 := Lib.hid (HE6.out.trans he8)
            clear he8
            rw [HX2.out]
            generalize (a == b) = same at *
            have hss : (same == same) = true := by simp
            go_wp2_with fail
            go_ret
            exact ⟨by simp, HE8.out⟩
          · subst h1
            clear HX
            have hb1 : (eb != 0) = true := by simpa using h2
            have hb2 : (eb == 0) = false := by simpa using h2
            go_wp2_with fail
            go_ret
            exact ⟨rfl, HE6.out⟩
        · clear HX
          have hb1 : (ea != 0) = true := by simpa using h1
          have hb2 : (ea == 0) = false := by simpa using h1
          go_wp2_with fail
          go_ret
          exact ⟨rfl, HE6.out⟩
  · have hq : ((a.length : Int) != (b.length : Int)) = true := by simp; omega
    have hq2 : (a.length != b.length) = true := by simp [hne]
    clear hne
    go_wp2_with fail
    go_ret
    exact ⟨rfl, HE3.out⟩

set_option maxRecDepth 100000 in
theorem packApart_told (W : World) (args : Array Value) (h : Told Try.f7 W args) : Calls Try.prog 7 args W (RetT W) := by
  obtain ⟨H, enc, base, ds, p, hval, hA⟩ := h
  rw [Try.params7] at hA hval
  obtain ⟨v0, v1, d0, d1, p0, p1, ha, rfl, rfl, h0, h1⟩ := trodAll_two hA
  obtain rfl : args = #[v0, v1] := by apply Array.toList_inj.1; rw [ha]
  obtain ⟨x0, hx0⟩ := pts_came (hval 0 _ v0 rfl rfl) h0
  obtain ⟨x1, hx1⟩ := pts_came (hval 1 _ v1 rfl rfl) h1
  exact packApart_any v0 v1 x0 x1 W hx0 hx1

set_option maxRecDepth 100000 in
theorem packApart_spec (H : Type) : ∀ ds : List (DataW H), ds.length = Try.f7.params.toList.length → Rows.packApartSpec.fn H ds = { results := [.lit (.bool true)], args := ds }
  | [_, _], _ => rfl
  | [], h | [_], h | _ :: _ :: _ :: _, h => by rw [Try.params7] at h; simp at h

set_option maxRecDepth 100000 in
theorem packApart_holds : Rows.PackApartSaid :=
  OpenClaim.holds_of_wide 7 Try.f7 rfl rfl rfl rfl rfl rfl rfl ⟨rfl, rfl, rfl, rfl, rfl⟩ rfl rfl rfl rfl rfl (by kernel_rfl) Try.func7 (by kernel_rfl)
    (of_decide_eq_true (by kernel_rfl)) (by unfold Func.isWrapper; first | (rw [if_pos (by decide +kernel)]; kernel_rfl) | (rw [if_neg (by decide +kernel)]; exact ⟨rfl, rfl⟩))
    (fun os started H enc _ => law_lifted started (by kernel_rfl) Try.func7 rfl rfl (packApart_spec H) (of_decide_eq_true (by kernel_rfl))
      (ChangeSpec.witness6 (enc := enc) (C := Try.checked) false ⟨#[], #[.slice none 0 0, .slice none 0 0], []⟩ 8 (by kernel_rfl) (by kernel_rfl) (by kernel_rfl) (by kernel_rfl)) packApart_told)
end Go.Proofs.Ytdlllihfibjabaa
