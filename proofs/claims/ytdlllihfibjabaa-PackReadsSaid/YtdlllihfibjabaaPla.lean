/- PackFlips: with another bit they are none's, or other parts'. No condition: every slice of parts, every place and bit. -/
import Derived.Test.YtdlllihfibjabaaPky
namespace Go.Proofs.Ytdlllihfibjabaa
open Go.ChangeShapes Go.WideShapes Go.ChangeAt Go.RowKit Go.Shelf

set_option maxRecDepth 100000 in
theorem rdErr_mapped (b : List UInt8) (l : List Pt) (h : errP l = 0) : rdErr b (l.map (·.1)) = if (rdE b (l.map (·.1))).isSome then 0 else 141 := by
  unfold rdErr
  rw [List.length_map, if_neg (by have := errP_len l h; omega)]
set_option maxRecDepth 100000 in
theorem rdL_mapped (b : List UInt8) (l : List Pt) (h : errP l = 0) : rdL b (l.map (·.1)) = (rdE b (l.map (·.1))).getD [] := by
  unfold rdL
  rw [List.length_map, if_neg (by have := errP_len l h; omega)]
set_option maxRecDepth 100000 in
/-- What is read of other bytes are other parts. -/
theorem rdE_other (b : List UInt8) (l ps : List Pt) (h : errP l = 0) (hb : b ≠ layL l) (hr : rdE b (l.map (·.1)) = some ps) : (ps == l) = false := by
  have h1 := rdE_is b _ (by rw [List.length_map]; exact errP_len l h) ps hr
  refine beq_eq_false_iff_ne.2 fun e => hb ?_
  rw [← h1.2.1, e]
set_option maxRecDepth 100000 in
theorem tmod_lt (x : Int) (n : Nat) (hn : 0 < n) : ∃ i : Nat, (IntKind.u64.wrap x).tmod (n : Int) = (i : Int) ∧ i < n := by
  have h0 : 0 ≤ IntKind.u64.wrap x := by
    unfold IntKind.wrap
    simp [IntKind.signed, IntKind.bits]
    omega
  refine ⟨(IntKind.u64.wrap x).toNat % n, ?_, Nat.mod_lt _ hn⟩
  rw [Int.tmod_eq_emod_of_nonneg h0, Int.natCast_emod, Int.toNat_of_nonneg h0]
set_option maxRecDepth 100000 in
theorem bv_xor (c d : UInt8) : Value.int .u8 (bits .xor .u8 (c.toNat : Int) (d.toNat : Int)) = bv (c ^^^ d) := by
  have h1 : (BitVec.ofInt 8 (c.toNat : Int)).toNat = c.toNat := by
    rw [BitVec.ofInt_natCast, BitVec.toNat_ofNat]; exact Nat.mod_eq_of_lt c.toNat_lt
  have h2 : (BitVec.ofInt 8 (d.toNat : Int)).toNat = d.toNat := by
    rw [BitVec.ofInt_natCast, BitVec.toNat_ofNat]; exact Nat.mod_eq_of_lt d.toNat_lt
  have hx : c.toNat ^^^ d.toNat < 2 ^ 8 := Nat.xor_lt_two_pow c.toNat_lt d.toNat_lt
  unfold bv
  congr 1
  show IntKind.u8.wrap ((BitVec.ofInt 8 (c.toNat : Int) ^^^ BitVec.ofInt 8 (d.toNat : Int)).toNat : Int) = _
  rw [BitVec.toNat_xor, h1, h2, UInt8.toNat_xor]
  have : ∀ n : Int, IntKind.u8.wrap n = n % 256 := fun n => by simp [IntKind.wrap, IntKind.bits, IntKind.signed]
  rw [this]
  omega
set_option maxRecDepth 100000 in
theorem xor_ne (c d : UInt8) (h : d ≠ 0) : c ^^^ d ≠ c := fun e => h (by
  have : c ^^^ (c ^^^ d) = d := by rw [← UInt8.xor_assoc, UInt8.xor_self, UInt8.zero_xor]
  rw [e, UInt8.xor_self] at this
  exact this.symm)
set_option maxRecDepth 100000 in
theorem pow_u8 (k : Nat) (hk : k < 8) : ∃ d : UInt8, (2 ^ k % 256 : Int) = (d.toNat : Int) ∧ d ≠ 0 := by
  match k, hk with
  | 0, _ => exact ⟨1, rfl, by decide⟩
  | 1, _ => exact ⟨2, rfl, by decide⟩
  | 2, _ => exact ⟨4, rfl, by decide⟩
  | 3, _ => exact ⟨8, rfl, by decide⟩
  | 4, _ => exact ⟨16, rfl, by decide⟩
  | 5, _ => exact ⟨32, rfl, by decide⟩
  | 6, _ => exact ⟨64, rfl, by decide⟩
  | 7, _ => exact ⟨128, rfl, by decide⟩
set_option maxRecDepth 100000 in
theorem shl_run {P : Program} (w : World) (k : Nat) (hk : k < 8) : Sem.run P (Op.shift BinOp.shl IntKind.u8 1 IntKind.u64 (k : Int)) w = .ok (.int .u8 ((2 ^ k : Nat) : Int)) w := by
  match k, hk with
  | 0, _ => rfl
  | 1, _ => rfl
  | 2, _ => rfl
  | 3, _ => rfl
  | 4, _ => rfl
  | 5, _ => rfl
  | 6, _ => rfl
  | 7, _ => rfl
set_option maxRecDepth 100000 in
set_option maxHeartbeats 1000000 in
theorem packFlips_any (v1 : Value) (x : List Pt) (at_ bit : Int) (w : World) (h1 : Pts w v1 x) : Calls Try.prog 8 #[v1, .int .i64 at_, .int .i64 bit] w (RetT w) := by
  have H1 := Lib.hid h1
  clear h1
  go_enter Try.func8, Try.ntmps8
  go_wp2_with fail
  refine (packWakes_any _).mono ?_
  rintro e w1 ⟨rfl, he1⟩
  have HE1 := Lib.hid he1
  clear he1
  go_wp2_with fail
  refine (packFew_any _ x _ (H1.out.ext HE1.out)).mono ?_
  rintro e w2 ⟨va, rfl, hf2, he2⟩
  have HE2 := Lib.hid (HE1.out.trans he2)
  have HL2 := Lib.hid (fewP_len x)
  generalize fewP x = l at *
  have HA2 := Lib.hid hf2.here
  have HF2 := Lib.hid hf2
  clear hf2 he2 HE1 H1
  go_wp2_with fail
  refine (lay_any _ l _ HA2.out).mono ?_
  rintro e w3 ⟨vb, rfl, ho3, he3⟩
  have HE3 := Lib.hid (HE2.out.trans he3)
  have HX3 := Lib.hid he3
  have HA3 := Lib.hid (HA2.out.ext he3)
  have HO3 := Lib.hid ho3
  have HLN := Lib.hid (show errP l = 0 → (layL l).length ≤ 1000000 from fun h => by rw [layL_len l h]; have := tlS_le l h l.length (Nat.le_refl _); have := errP_len l h; omega)
  have HEM := Lib.hid (rdErr_mapped · l)
  have HLM := Lib.hid (rdL_mapped · l)
  have HOT := Lib.hid (fun b ps => rdE_other b l ps)
  obtain ⟨A3, c3, rfl, q1, q2, q3⟩ := ho3.bs
  unfold maxLen at q2
  clear he3 ho3 HA2 q3
  generalize layL l = b at *
  generalize errP l = el at *
  by_cases h1 : el = 0
  · by_cases h2 : b.length = 0
    · have hz : ((b.length : Int) == 0) = true := by simp [h2]
      have hz2 : (b.length == 0) = true := by simp [h2]
      subst h1
      go_wp2_with fail
      go_ret
      exact ⟨rfl, HE3.out⟩
    · have hz : ((b.length : Int) == 0) = false := by simp [h2]
      have hz2 : (b.length == 0) = false := by simpa using h2
      subst h1
      have HEM2 := Lib.hid (fun b => HEM.out b rfl)
      have HLM2 := Lib.hid (fun b => HLM.out b rfl)
      have HOT3 := Lib.hid (fun b ps => HOT.out b ps rfl)
      have HLN2 := Lib.hid (HLN.out rfl)
      clear HEM HLM HOT HLN
      obtain ⟨g, cap, e3, hgb, hcl, hfr, hst⟩ := Own.form HO3.out (by omega)
      injection e3 with e3 _ e4
      subst e3
      subst e4
      obtain ⟨i, hi, hib⟩ := tmod_lt at_ b.length (by omega)
      obtain ⟨k, hk, hkb⟩ := tmod_lt bit 8 (by omega)
      have hk8 : (IntKind.u64.wrap bit).tmod 8 = (k : Int) := hk
      clear hk
      have hsh := fun w => shl_run (P := Try.prog) w k hkb
      have hci := hcl i hib
      obtain ⟨c, hc⟩ : ∃ c, b.getD i 0 = c := ⟨_, rfl⟩
      rw [hc] at hci
      have HC := Lib.hid hc
      clear hc
      have hfi := hfr i
      have HST := Lib.hid (hst i)
      clear hcl hfr hst
      unfold bv at hci
      obtain ⟨d, hd, hd0⟩ : ∃ d : UInt8, (2 ^ k % 256 : Int) = (d.toNat : Int) ∧ d ≠ 0 := pow_u8 k hkb
      have HD := Lib.hid (And.intro hd hd0)
      clear hd hd0
      go_wp2_with fail
      rw [HD.out.1, bv_xor c d]
      have HX4 := Lib.hid (HX3.out.grown (grown_set w3 g i (bv (c ^^^ d))) hgb)
      have HO4 := Lib.hid (HST.out (c ^^^ d)).1
      have HNE := Lib.hid (show b.set i (c ^^^ d) ≠ b from fun e => xor_ne c d HD.out.2 (by
        have h1 := congrArg (fun l => l.getD i 0) e
        rw [HC.out] at h1
        have h2 : (b.set i (c ^^^ d)).getD i 0 = c ^^^ d := by simp [List.getD, hib]
        exact h2.symm.trans h1))
      have HB4 := Lib.hid (HO4.out.bs)
      generalize w3.setCell ⟨g, i, none⟩ (bv (c ^^^ d)) = w4 at *
      have HL4 := Lib.hid (show (b.set i (c ^^^ d)).length ≤ 1000000 from by rw [List.length_set]; exact HLN2.out)
      have HLE := Lib.hid (show b.length = (b.set i (c ^^^ d)).length from by rw [List.length_set])
      generalize b.set i (c ^^^ d) = b' at *
      have HP4 := Lib.hid (HF2.out.here.ext HX4.out)
      have HE4 := Lib.hid (HE2.out.trans HX4.out)
      have hci := trivial
      clear HST HD HC HO3 HF2 HX3 HX4 HE3 HA3 HE2 hsh HO4
      refine (packForm_any _ l _ HP4.out (by have := HL2.out; omega)).mono ?_
      rintro e w5 ⟨v5, rfl, hb5, he5⟩
      have HE5 := Lib.hid (HE4.out.trans he5)
      have HP5 := Lib.hid (HP4.out.ext he5)
      have HB5 := Lib.hid (HB4.out.ext he5)
      have HL5 := Lib.hid hb5
      clear he5 hb5 HE4 HP4 HB4
      go_wp2_with fail
      refine (packRead_any _ _ b' _ _ HB5.out HL5.out (by have := HL4.out; omega)).mono ?_
      rintro e w6 ⟨v6, rfl, hf6, he6⟩
      rw [HEM2.out b']
      rw [HLM2.out b'] at hf6
      have HE6 := Lib.hid (HE5.out.trans he6)
      have HP6 := Lib.hid (HP5.out.ext he6)
      have HF6 := Lib.hid hf6.here
      have HOT2 := Lib.hid (fun ps => HOT3.out b' ps HNE.out)
      clear he6 hf6 HE5 HP5 HB5 HL5 HEM2 HLM2 HOT3
      cases hr : rdE b' (l.map (·.1)) with
      | none =>
        rw [hr] at HF6
        have HF7 : Hid (Pts w6 v6 []) := Lib.hid HF6.out
        obtain ⟨A6, c6, rfl, _, q6⟩ := HF7.out.len
        clear HF6 HOT2 hr
        go_wp2_with fail
        go_ret
        exact ⟨rfl, HE6.out⟩
      | some ps =>
        rw [hr] at HF6
        have HF7 : Hid (Pts w6 v6 ps) := Lib.hid HF6.out
        have HN7 := Lib.hid (HOT2.out ps hr)
        obtain ⟨A6, c6, rfl, _, q6⟩ := HF7.out.len
        clear HF6 HOT2 hr
        go_wp2_with fail
        refine (packSame_any _ _ ps l _ HF7.out HP6.out).mono ?_
        rintro e w8 ⟨rfl, he8⟩
        rw [HN7.out]
        have HE8 := Lib.hid (HE6.out.trans he8)
        clear he8
        go_wp2_with fail
        go_ret
        exact ⟨rfl, HE8.out⟩
  · have hb1 : (el != 0) = true := by simpa using h1
    have hb2 : (el == 0) = false := by simpa using h1
    go_wp2_with fail
    go_ret
    exact ⟨rfl, HE3.out⟩

set_option maxRecDepth 100000 in
theorem packFlips_told (W : World) (args : Array Value) (h : Told Try.f8 W args) : Calls Try.prog 8 args W (RetT W) := by
  obtain ⟨H, enc, base, ds, p, hval, hA⟩ := h
  rw [Try.params8] at hA hval
  obtain ⟨v0, v1, v2, d0, d1, d2, p0, p1, p2, ha, rfl, rfl, h0, h1, h2⟩ := trodAll_three hA
  obtain rfl : args = #[v0, v1, v2] := by apply Array.toList_inj.1; rw [ha]
  obtain ⟨x0, hx0⟩ := pts_came (hval 0 _ v0 rfl rfl) h0
  obtain ⟨x1, rfl, lo1, hi1⟩ := int_came Try.underlying3 (hval 1 _ _ rfl rfl) h1
  obtain ⟨x2, rfl, lo2, hi2⟩ := int_came Try.underlying3 (hval 2 _ _ rfl rfl) h2
  exact packFlips_any v0 x0 x1 x2 W hx0

set_option maxRecDepth 100000 in
theorem packFlips_spec (H : Type) : ∀ ds : List (DataW H), ds.length = Try.f8.params.toList.length → Rows.packFlipsSpec.fn H ds = { results := [.lit (.bool true)], args := ds }
  | [_, _, _], _ => rfl
  | [], h | [_], h | [_, _], h | _ :: _ :: _ :: _ :: _, h => by rw [Try.params8] at h; simp at h

set_option maxRecDepth 100000 in
theorem packFlips_holds : Rows.PackFlipsSaid :=
  OpenClaim.holds_of_wide 8 Try.f8 rfl rfl rfl rfl rfl rfl rfl ⟨rfl, rfl, rfl, rfl, rfl⟩ rfl rfl rfl rfl rfl (by kernel_rfl) Try.func8 (by kernel_rfl)
    (of_decide_eq_true (by kernel_rfl)) (by unfold Func.isWrapper; first | (rw [if_pos (by decide +kernel)]; kernel_rfl) | (rw [if_neg (by decide +kernel)]; exact ⟨rfl, rfl⟩))
    (fun os started H enc _ => law_lifted started (by kernel_rfl) Try.func8 rfl rfl (packFlips_spec H) (of_decide_eq_true (by kernel_rfl))
      (ChangeSpec.witness6 (enc := enc) (C := Try.checked) false ⟨#[], #[.slice none 0 0, .int .i64 0, .int .i64 0], []⟩ 8 (by kernel_rfl) (by kernel_rfl) (by kernel_rfl) (by kernel_rfl)) packFlips_told)
end Go.Proofs.Ytdlllihfibjabaa
