/- OctetWindows: windows of a row. No condition: every slice of bytes, every list of what is asked. -/
import Derived.Test.YtllcmeihogcckaaRfc
import Derived.Test.YtllcmeihogcckaaLce
import Derived.Deep.SlicePairs
namespace Go.Proofs.Ytllcmeihogcckaa
open Go.ChangeShapes Go.WideShapes Go.ChangeAt Go.RowKit Go.Deep

/-- A slice of n windows that are asked for. -/
def Asks (w : World) (v : Value) (n : Nat) : Prop :=
  ∃ A c, v = .slice A n c ∧ n ≤ c ∧ c ≤ maxLen ∧ ∀ i, i < n → ∃ b o, A = some ⟨b, o, none⟩ ∧ ∃ (f : Nat) (m : Int), w.cell? ⟨b, o + i * 2, none⟩ = some (.int .u64 f) ∧ w.cell? ⟨b, o + (i * 2 + 1), none⟩ = some (.int .i64 m) ∧ f < 18446744073709551616 ∧ -9223372036854775808 ≤ m ∧ m ≤ 9223372036854775807

theorem Asks.ext {w w' : World} {v : Value} {n : Nat} (h : Asks w v n) (he : Ext w w') : Asks w' v n := by
  obtain ⟨A, c, e, h1, h2, h3⟩ := h
  refine ⟨A, c, e, h1, h2, fun i hi => ?_⟩
  obtain ⟨b, o, ea, f, m, k1, k2, k3⟩ := h3 i hi
  exact ⟨b, o, ea, f, m, he.cell k1, he.cell k2, k3⟩

theorem asks_came {H : Type} {enc : TypeId × Value → H} {W : World} {base : Nat} {v : Value} {d : DataW H} {p : List MemPlace}
    (hval : Value.okWide Try.prog W .any base 23 v) (h : DataW.Trod enc Try.prog W 0 (fun _ => true) true 23 v d p) :
    ∃ n : Nat, Asks W v n := by
  obtain ⟨a0, len0, cap0, rfl⟩ := okWide_slice Try.underlying23 hval
  obtain ⟨fuel, hf⟩ := h
  rcases open_slice_pairs Try.underlying23 Try.underlying28 (by kernel_rfl) rfl rfl (by kernel_rfl) (by kernel_rfl) hf with ⟨hcs, _⟩ | ⟨x, len, cap, m, n, V0, V1, D0, D1, P0, P1, hcs, _, hl, hm, hmm, _, hcell⟩
  · simp [Value.cells] at hcs
    obtain ⟨rfl, rfl, rfl⟩ := hcs
    exact ⟨0, none, 0, rfl, Nat.le_refl _, Nat.zero_le _, fun i h => absurd h (by omega)⟩
  · simp [Value.cells] at hcs
    obtain ⟨rfl, rfl, rfl⟩ := hcs
    simp only [if_true] at hmm
    refine ⟨len0, _, _, rfl, hl, hm, fun i hi => ?_⟩
    obtain ⟨c0, c1, t0, t1⟩ := hcell i (by omega)
    obtain ⟨b, o, sp⟩ := x
    obtain ⟨f, e0, _, wf⟩ := DataW.trod_int Try.underlying26 t0
    obtain ⟨g, e1, _, wg⟩ := DataW.trod_int Try.underlying3 t1
    simp at e0 e1
    obtain rfl : sp = none := by simpa [Addr.add] using World.cell?_spot (hcell 0 (by omega)).1
    rw [add_plain, e0] at c0
    rw [add_plain, e1] at c1
    have hb0 : 0 ≤ f ∧ f ≤ 18446744073709551615 := by simpa [Lit.wf, IntKind.min, IntKind.max, IntKind.signed, IntKind.bits] using wf
    have hb1 : -9223372036854775808 ≤ g ∧ g ≤ 9223372036854775807 := by simpa [Lit.wf, IntKind.min, IntKind.max, IntKind.signed, IntKind.bits] using wg
    refine ⟨b, o, rfl, f.toNat, g, ?_, c1, by omega, hb1.1, hb1.2⟩
    rw [c0]
    congr 2
    omega

set_option maxHeartbeats 2000000 in
theorem windows_walk (va vl : Value) (a : List UInt8) (n : Nat) (w : World) (ha : Bs w va a) (hu : Asks w vl n) :
    Calls Try.prog 3 #[va, vl] w (RetT w) := by
  have HA := Lib.hid ha
  have HU := Lib.hid hu
  obtain ⟨AU, cU, rfl, hU1, hU2, hU3⟩ := hu
  clear ha hU3
  unfold maxLen at hU2
  go_enter Try.func3, Try.ntmps3
  go_wp2_with fail
  refine (wakes_any _).mono ?_
  rintro e w1 ⟨rfl, he1⟩
  have HE1 := Lib.hid he1
  clear he1
  go_wp2_with fail
  refine (few_any _ a _ (HA.out.ext HE1.out)).mono ?_
  rintro e w2 ⟨v2, rfl, ho, he⟩
  have HX := Lib.hid ho.bs
  have HE := Lib.hid (HE1.out.trans he)
  clear ho he
  go_wp2_with fail
  refine (few_any _ a _ (HA.out.ext HE.out)).mono ?_
  rintro e w3 ⟨v3, rfl, ho, he⟩
  have HY := Lib.hid ho.bs
  have HX := Lib.hid (HX.out.ext he)
  have HE := Lib.hid (HE.out.trans he)
  have HU := Lib.hid (HU.out.ext HE.out)
  clear ho he
  have hx : (a.take 4097).length ≤ 4097 := List.length_take_le _ _
  generalize a.take 4097 = x at *
  go_wp2
  go_loopw [22] (fun i wr => ∃ k : Nat, k ≤ n ∧ k ≤ 12 ∧ i = .int .i64 k ∧ Hid (Ext w3 wr)) (fun i _ => n - (intOf i).toNat)
  case atStart => exact ⟨0, Nat.zero_le _, Nat.zero_le _, rfl, Ext.refl _⟩
  case round =>
    obtain ⟨wo, rfl⟩ : ∃ wo : World, wo = wr := ⟨_, rfl⟩
    obtain ⟨k, hk, hk12, rfl, HW⟩ := hrel
    by_cases hlt : k < n
    · obtain ⟨A, c, e, h1, h2, h3⟩ := (HU.out.ext HW.out)
      injection e with e1 e2 e3
      subst e1
      obtain ⟨b, o, rfl, f, m, hc0, hc1, hf, hm1, hm2⟩ := h3 k hlt
      rw [← Nat.add_assoc] at hc1
      clear h3 e2 e3
      by_cases h12 : k = 12
      · subst h12
        have hd : (((12 : Nat) : Int) == 12) = true := rfl
        go_wp2
        go_ret
        exact ⟨rfl, (HE.out.trans HW.out).alloc _⟩
      · have hd : ((k : Int) == 12) = false := beq_eq_false_iff_ne.2 (by omega)
        have HWa := Lib.hid (HW.out.alloc (.cells #[Value.int .u64 f, Value.int .i64 m] 28))
        go_wp2_with fail
        refine (window_any _ x f _ _ rfl _ (HX.out.ext HWa.out) (by omega) hf hm2).mono ?_
        rintro e wa ⟨vy, rfl, ho, he⟩
        have HO := Lib.hid ho
        have HX1 := Lib.hid (((Ext.refl wo).alloc _).trans he)
        have hb0 : wa.cell? ⟨wo.heap.size, 0, none⟩ = some (.int .u64 f) := he.cell (by simp [go_sem])
        have hb1 : wa.cell? ⟨wo.heap.size, 1, none⟩ = some (.int .i64 m) := he.cell (by simp [go_sem])
        clear ho he hc0 hc1
        go_wp2_with fail
        refine (refWindow_any _ x f _ _ rfl _ (HY.out.ext (HW.out.trans HX1.out)) (by omega) hf).mono ?_
        rintro e wb ⟨vz, rfl, ho, he⟩
        have HO := Lib.hid (HO.out.ext he)
        have HZ := Lib.hid ho.bs
        have HX1 := Lib.hid (HX1.out.trans he)
        clear ho he hb0 hb1
        generalize (winS x f m).1 = L at *
        generalize (winS x f m).2 = cd at *
        go_wp2_with fail
        refine (same_any _ _ L L _ HO.out.bs HZ.out).mono ?_
        rintro e wc ⟨rfl, he⟩
        rw [show (L == L) = true by simp]
        have HO := Lib.hid ((HO.out.ext he).mono (base' := wo.heap.size) (by simp))
        have HX1 := Lib.hid (HX1.out.trans he)
        clear he HZ
        obtain ⟨A, c, rfl, hAc, hcm, -⟩ := id HO.out.bs
        unfold maxLen at hcm
        go_wp2_with fail
        go_loopw [58] (fun i wr2 => ∃ (j : Nat) (M : List UInt8), j ≤ L.length ∧ i = .int .i64 j ∧ Hid (M.length = L.length) ∧ Hid (Own wr2 wo.heap.size 5 (.slice A L.length c) M) ∧ Hid (Ext wo wr2)) (fun i _ => L.length - (intOf i).toNat)
        case atStart => exact ⟨0, L, Nat.zero_le _, rfl, rfl, HO.out, HX1.out⟩
        case round =>
          obtain ⟨j, M, hj, rfl, HML, HOM, HXM⟩ := hrel
          by_cases hjl : j < L.length
          · obtain ⟨g, cap, e, hbg, hcells, hfrz, hset⟩ := HOM.out.form (by have := HML.out; omega)
            injection e with e1 e2 e3
            subst e1
            have hcj := hcells j (by have := HML.out; omega)
            have hfj := hfrz j
            have HSj := Lib.hid (fun c => hset j c)
            unfold bv at hcj
            clear hcells hfrz hset e2 e3
            generalize M.getD j 0 = y at *
            have hy := y.toNat_lt
            go_wp2
            go_roundw
            case rel =>
              rw [inc_byte]
              exact ⟨j + 1, M.set j (UInt8.ofNat (y.toNat + 1)), by omega, by go_num, by show _ = _; rw [List.length_set]; exact HML.out, (HSj.out _).1, HXM.out.grown (HSj.out _).2 hbg⟩
            case measure => simp [intOf]; omega
          · have HW2 := Lib.hid (HW.out.trans HXM.out)
            go_wp2_with fail
            refine (same_any _ _ x x _ (HX.out.ext HW2.out) (HY.out.ext HW2.out)).mono ?_
            rintro e we ⟨rfl, he⟩
            rw [show (x == x) = true by simp]
            have HW3 := Lib.hid (HW2.out.trans he)
            clear he
            go_wp2_with fail
            go_roundw
            case rel => exact ⟨k + 1, by omega, by omega, by go_num, HW3.out⟩
            case measure => simp [intOf]; omega
    · go_wp2
      go_ret
      exact ⟨rfl, HE.out.trans HW.out⟩

theorem windows_told (W : World) (args : Array Value) (h : Told Try.f3 W args) : Calls Try.prog 3 args W (RetT W) := by
  obtain ⟨H, enc, base, ds, p, hval, hA⟩ := h
  rw [Try.params3] at hA hval
  obtain ⟨v0, v1, d0, d1, p0, p1, rfl, rfl, rfl, h0, h1⟩ := trodAll_two hA
  obtain ⟨a, ha⟩ := bs_came (hval 0 _ v0 rfl rfl) h0
  obtain ⟨n, hu⟩ := asks_came (hval 1 _ v1 rfl rfl) h1
  exact windows_walk v0 v1 a n W ha hu

theorem windows_spec (H : Type) : ∀ ds : List (DataW H), ds.length = Try.f3.params.toList.length → Rows.octetWindowsSpec.fn H ds = { results := [.lit (.bool true)], args := ds }
  | [_, _], _ => rfl
  | [], h | [_], h | _ :: _ :: _ :: _, h => by rw [Try.params3] at h; simp at h

set_option maxRecDepth 100000 in
theorem octetWindows_holds : Rows.OctetWindowsSaid :=
  OpenClaim.holds_of_wide 3 Try.f3 rfl rfl rfl rfl rfl rfl rfl ⟨rfl, rfl, rfl, rfl, rfl⟩ rfl rfl rfl rfl rfl (by kernel_rfl) Try.func3 (by kernel_rfl)
    (of_decide_eq_true (by kernel_rfl)) (by unfold Func.isWrapper; first | (rw [if_pos (by decide +kernel)]; kernel_rfl) | (rw [if_neg (by decide +kernel)]; exact ⟨rfl, rfl⟩))
    (fun os started H enc _ => law_lifted started (by kernel_rfl) Try.func3 rfl rfl (windows_spec H) (of_decide_eq_true (by kernel_rfl))
      (ChangeSpec.witness6 (enc := enc) (C := Try.checked) false ⟨#[], #[.slice none 0 0, .slice none 0 0], []⟩ 8 (by kernel_rfl) (by kernel_rfl) (by kernel_rfl) (by kernel_rfl)) windows_told)
end Go.Proofs.Ytllcmeihogcckaa
