/- OctetPads: rows with noughts ahead and behind, bare ones, and how many noughts there are. No condition. -/
import Derived.Test.YtllcmeihogcckaaRfd
import Derived.Test.YtllcmeihogcckaaRfe
import Derived.Test.YtllcmeihogcckaaLce
import Derived.Deep.Slices
import Derived.Deep.RegionHeld3
namespace Go.Proofs.Ytllcmeihogcckaa
open Go.ChangeShapes Go.WideShapes Go.ChangeAt Go.RowKit Go.Deep

theorem bs_of_trod {H : Type} {enc : TypeId × Value → H} {W : World} {v : Value} {fuel : Nat} {x : DataW H × List MemPlace} (hf : DataW.trod enc Try.prog W 0 (fun _ => true) true fuel 22 [v] = some x) : ∃ l : List UInt8, Bs W v l := by
  rcases open_ints Try.underlying22 Try.underlying5 (by kernel_rfl) hf with ⟨hcs, _⟩ | ⟨x, len0, cap0, zs, hcs, _, hl, hm, hz, _, hcell, hwz⟩
  · simp at hcs
    subst hcs
    exact ⟨[], Bs.nil _⟩
  · simp at hcs
    subst hcs
    refine ⟨(zs.take len0).map fun n => UInt8.ofNat n.toNat, ?_⟩
    have hlen : ((zs.take len0).map fun n => UInt8.ofNat n.toNat).length = len0 := by simp at hz ⊢; omega
    refine ⟨_, cap0, by rw [hlen], by rw [hlen]; exact hl, hm, fun hp => ?_⟩
    rw [hlen] at hp ⊢
    simp only [if_true] at hz
    obtain ⟨b, o, sp⟩ := x
    have hc0 := hcell 0 (by omega)
    obtain rfl : sp = none := by simpa [Addr.add] using World.cell?_spot hc0
    refine ⟨b, o, rfl, fun i hi => ?_⟩
    have hci := hcell i (by omega)
    rw [add_plain] at hci
    rw [hci]
    have hzi : i < zs.length := by omega
    have hwi := hwz (zs.getD i 0) (by simp [List.getD, List.getElem?_eq_getElem hzi])
    have hbd : 0 ≤ zs.getD i 0 ∧ zs.getD i 0 ≤ 255 := by simpa [Lit.wf, IntKind.min, IntKind.max, IntKind.signed, IntKind.bits] using hwi
    rw [bv_of _ hbd.1 hbd.2]
    congr 2
    simp [List.getD, hi, List.getElem?_eq_getElem hzi]

/-- A slice of n slices of bytes. -/
def Rws (w : World) (v : Value) (n : Nat) : Prop :=
  ∃ A c, v = .slice A n c ∧ n ≤ c ∧ c ≤ maxLen ∧ ∀ i, i < n → ∃ b o, A = some ⟨b, o, none⟩ ∧ ∃ (u : Value) (l : List UInt8), w.cell? ⟨b, o + i, none⟩ = some u ∧ Bs w u l
theorem Rws.ext {w w' : World} {v : Value} {n : Nat} (h : Rws w v n) (he : Ext w w') : Rws w' v n := by
  obtain ⟨A, c, e, h1, h2, h3⟩ := h
  refine ⟨A, c, e, h1, h2, fun i hi => ?_⟩
  obtain ⟨b, o, ea, u, l, k1, k2⟩ := h3 i hi
  exact ⟨b, o, ea, u, l, he.cell k1, k2.ext he⟩
theorem rws_came {H : Type} {enc : TypeId × Value → H} {W : World} {base : Nat} {v : Value} {d : DataW H} {p : List MemPlace}
    (hval : Value.okWide Try.prog W .any base 34 v) (h : DataW.Trod enc Try.prog W 0 (fun _ => true) true 34 v d p) : ∃ n : Nat, Rws W v n := by
  obtain ⟨a0, len0, cap0, rfl⟩ := okWide_slice Try.underlying34 hval
  obtain ⟨fuel, hf⟩ := h
  rcases open_slice1 Try.underlying34 (by kernel_rfl) hf with ⟨hcs, _⟩ | ⟨x, len, cap, m, n, V, D, Pl, hcs, _, hl, hm, hmm, _, hcell⟩
  · simp [Value.cells] at hcs
    obtain ⟨rfl, rfl, rfl⟩ := hcs
    exact ⟨0, none, 0, rfl, Nat.le_refl _, Nat.zero_le _, fun i h => absurd h (by omega)⟩
  · simp [Value.cells] at hcs
    obtain ⟨rfl, rfl, rfl⟩ := hcs
    simp only [if_true] at hmm
    refine ⟨len0, _, _, rfl, hl, hm, fun i hi => ?_⟩
    obtain ⟨c0, t0⟩ := hcell i (by omega)
    obtain ⟨b, o, sp⟩ := x
    obtain rfl : sp = none := by simpa [Addr.add] using World.cell?_spot (hcell 0 (by omega)).1
    rw [add_plain] at c0
    obtain ⟨l, hb⟩ := bs_of_trod t0
    exact ⟨b, o, rfl, _, l, c0, hb⟩

/-- A slice of n ints. -/
def Ins (w : World) (v : Value) (n : Nat) : Prop :=
  ∃ A c, v = .slice A n c ∧ n ≤ c ∧ c ≤ maxLen ∧ ∀ i, i < n → ∃ b o, A = some ⟨b, o, none⟩ ∧ ∃ m : Int, w.cell? ⟨b, o + i, none⟩ = some (.int .i64 m) ∧ -9223372036854775808 ≤ m ∧ m ≤ 9223372036854775807
theorem Ins.ext {w w' : World} {v : Value} {n : Nat} (h : Ins w v n) (he : Ext w w') : Ins w' v n := by
  obtain ⟨A, c, e, h1, h2, h3⟩ := h
  refine ⟨A, c, e, h1, h2, fun i hi => ?_⟩
  obtain ⟨b, o, ea, m, k1, k2⟩ := h3 i hi
  exact ⟨b, o, ea, m, he.cell k1, k2⟩
theorem ins_came {H : Type} {enc : TypeId × Value → H} {W : World} {base : Nat} {v : Value} {d : DataW H} {p : List MemPlace}
    (hval : Value.okWide Try.prog W .any base 35 v) (h : DataW.Trod enc Try.prog W 0 (fun _ => true) true 35 v d p) : ∃ n : Nat, Ins W v n := by
  obtain ⟨a0, len0, cap0, rfl⟩ := okWide_slice Try.underlying35 hval
  obtain ⟨fuel, hf⟩ := h
  rcases open_slice1 Try.underlying35 (by kernel_rfl) hf with ⟨hcs, _⟩ | ⟨x, len, cap, m, n, V, D, Pl, hcs, _, hl, hm, hmm, _, hcell⟩
  · simp [Value.cells] at hcs
    obtain ⟨rfl, rfl, rfl⟩ := hcs
    exact ⟨0, none, 0, rfl, Nat.le_refl _, Nat.zero_le _, fun i h => absurd h (by omega)⟩
  · simp [Value.cells] at hcs
    obtain ⟨rfl, rfl, rfl⟩ := hcs
    simp only [if_true] at hmm
    refine ⟨len0, _, _, rfl, hl, hm, fun i hi => ?_⟩
    obtain ⟨c0, t0⟩ := hcell i (by omega)
    obtain ⟨b, o, sp⟩ := x
    obtain rfl : sp = none := by simpa [Addr.add] using World.cell?_spot (hcell 0 (by omega)).1
    rw [add_plain] at c0
    obtain ⟨f, e0, _, wf⟩ := DataW.trod_int Try.underlying3 t0
    simp at e0
    have hb1 : -9223372036854775808 ≤ f ∧ f ≤ 9223372036854775807 := by simpa [Lit.wf, IntKind.min, IntKind.max, IntKind.signed, IntKind.bits] using wf
    exact ⟨b, o, rfl, f, by rw [c0, e0], hb1.1, hb1.2⟩

/-- A younger row stays while a block that is older is written. -/
theorem Own.keptOld {w w' : World} {b g : Nat} {e : TypeId} {v : Value} {l : List UInt8} (h : Own w b e v l) (hg : w.grownBy w' (some g)) (hu : g < b) : Own w' b e v l := by
  refine World.ownsRow.kept h hg ?_
  cases hv : v.ownBlock with
  | none => exact .inl rfl
  | some k =>
    refine .inr fun e => ?_
    have h1 := (h.lt k hv).1
    injection e with e
    omega

theorem idx0 (A C : Option Addr) (n c m d : Nat) (W : World) : (Instr.index 41 (.agg #[.slice A n c, .slice C m d]) (.int .i64 0)).run Try.prog W = .ok (.slice A n c) W := by kernel_rfl
theorem idx1 (A C : Option Addr) (n c m d : Nat) (W : World) : (Instr.index 41 (.agg #[.slice A n c, .slice C m d]) (.int .i64 1)).run Try.prog W = .ok (.slice C m d) W := by kernel_rfl

set_option maxRecDepth 100000 in
set_option maxHeartbeats 8000000 in
theorem pads_walk (vr vl : Value) (n m : Nat) (w : World) (hr : Rws w vr n) (hl : Ins w vl m) :
    Calls Try.prog 4 #[vr, vl] w (RetT w) := by
  have HR := Lib.hid hr
  have HN := Lib.hid hl
  obtain ⟨AR, cR, rfl, hR1, hR2, hR3⟩ := hr
  obtain ⟨AN, cN, rfl, hN1, hN2, hN3⟩ := hl
  clear hR3 hN3
  unfold maxLen at hR2 hN2
  go_enter Try.func4, Try.ntmps4
  go_wp2_with fail
  refine (wakes_any _).mono ?_
  rintro e w1 ⟨rfl, he1⟩
  have HE := Lib.hid he1
  have HR := Lib.hid (HR.out.ext he1)
  have HN := Lib.hid (HN.out.ext he1)
  clear he1
  go_wp2_with fail
  go_loopw [28] (fun i wr => ∃ k : Nat, k ≤ n ∧ k ≤ 6 ∧ i = .int .i64 k ∧ Hid (Ext w1 wr)) (fun i _ => n - (intOf i).toNat)
  case atStart => exact ⟨0, Nat.zero_le _, Nat.zero_le _, rfl, Ext.refl _⟩
  case round =>
    obtain ⟨wo, rfl⟩ : ∃ wo : World, wo = wr := ⟨_, rfl⟩
    obtain ⟨k, hk, hk6, rfl, HW⟩ := hrel
    by_cases hlt : k < n
    · obtain ⟨A, c, e, h1, h2, h3⟩ := (HR.out.ext HW.out)
      injection e with e1 e2 e3
      subst e1
      obtain ⟨b, o, rfl, u, l, hcu, hbu⟩ := h3 k hlt
      obtain ⟨b', o', e', u0, l0, hcu0, hbu0⟩ := h3 0 (by omega)
      injection e' with e'
      injection e' with eb eo
      subst eb eo
      rw [Nat.add_zero] at hcu0
      have HU := Lib.hid hbu
      have HU0 := Lib.hid hbu0
      clear h3 e2 e3 hbu hbu0
      by_cases h6 : k = 6
      · subst h6
        have hd : (((6 : Nat) : Int) == 6) = true := rfl
        go_wp2
        go_ret
        exact ⟨rfl, HE.out.trans HW.out⟩
      · have hd : ((k : Int) == 6) = false := beq_eq_false_iff_ne.2 (by omega)
        have hpos : 0 < n := by omega
        go_wp2_with fail
        go_region_held3 (fun w' => w'.cell? ⟨b, o, none⟩ = some u0)
          (first | go_keep | exact HC1.out | exact HC2.out)
          (first
            | (go_at_call 11; refine (few_any u l _ (HU.out.ext (by exact (Ext.refl wo).drew))).mono ?_; rintro e wa ⟨va, rfl, ho, he⟩; have HC1 := Lib.hid (he.cell hcu0); have HVA := Lib.hid ho.bs; have HXA := Lib.hid (((Ext.refl wo).drew).trans he); clear ho he)
            | (go_at_call 11; refine (few_any u0 l0 _ (HU0.out.ext (by exact HXA.out))).mono ?_; rintro e wb ⟨vb, rfl, ho, he⟩; have HC2 := Lib.hid (he.cell HC1.out); have HVB := Lib.hid ho.bs; have HVA := Lib.hid (HVA.out.ext he); have HXB := Lib.hid (HXA.out.trans he); clear ho he))
        have hxl : (l.take 4097).length ≤ 4097 := List.length_take_le _ _
        have HFew := Lib.hid (fun (W : World) (hW : Ext wo W) => few_any u l W (HU.out.ext hW))
        generalize l.take 4097 = x at *
        generalize l0.take 4097 = x0 at *
        clear HC1 HC2 hcu hcu0 HU HU0 HXA
        obtain ⟨Av, cv, rfl, hcv1, hcv2, -⟩ := id HVA.out
        unfold maxLen at hcv2
        have hzx := zeros_le x
        go_wp2_with fail
        refine (noughts_any _ x _ HVA.out).mono ?_
        rintro e w' ⟨rfl, rfl⟩
        go_wp2_with fail
        refine (bareB_any _ x _ HVA.out (by omega)).mono ?_
        rintro e wc ⟨v1, rfl, ho, he⟩
        have H1 := Lib.hid ho.bs
        have HX := Lib.hid (HXB.out.trans he)
        have HVA := Lib.hid (HVA.out.ext he)
        have HVB := Lib.hid (HVB.out.ext he)
        clear ho he HXB
        go_wp2_with fail
        refine (HFew.out _ HX.out).mono ?_
        rintro e wd ⟨v2, rfl, ho, he⟩
        have H2 := Lib.hid ho.bs
        have H1 := Lib.hid (H1.out.ext he)
        have HX := Lib.hid (HX.out.trans he)
        have HVA := Lib.hid (HVA.out.ext he)
        have HVB := Lib.hid (HVB.out.ext he)
        clear ho he
        go_wp2_with fail
        refine (refBare_any _ x _ H2.out (by omega)).mono ?_
        rintro e we ⟨v3, rfl, ho, he⟩
        have H3 := Lib.hid ho.bs
        have H1 := Lib.hid (H1.out.ext he)
        have HX := Lib.hid (HX.out.trans he)
        have HVA := Lib.hid (HVA.out.ext he)
        have HVB := Lib.hid (HVB.out.ext he)
        clear ho he H2
        go_wp2_with fail
        refine (same_any _ _ (bare x) (bare x) _ H1.out H3.out).mono ?_
        rintro e wf ⟨rfl, he⟩
        rw [show (bare x == bare x) = true by simp]
        have HX := Lib.hid (HX.out.trans he)
        have HVA := Lib.hid (HVA.out.ext he)
        have HVB := Lib.hid (HVB.out.ext he)
        clear he H1 H3
        go_wp2_with fail
        refine (HFew.out _ HX.out).mono ?_
        rintro e wg ⟨v4, rfl, ho, he⟩
        have H4 := Lib.hid ho.bs
        have HX := Lib.hid (HX.out.trans he)
        have HVA := Lib.hid (HVA.out.ext he)
        have HVB := Lib.hid (HVB.out.ext he)
        clear ho he
        go_wp2_with fail
        refine (refNoughts_any _ x _ H4.out).mono ?_
        rintro e w' ⟨rfl, rfl⟩
        clear H4
        have q1 : ((zeros x : Int) != (zeros x : Int)) = false := by simp
        have q2 : ((zeros x : Int) + ((x.length : Int) - (zeros x : Int)) != (x.length : Int)) = false := by
          rw [show (zeros x : Int) + ((x.length : Int) - (zeros x : Int)) = (x.length : Int) by omega]
          simp
        go_wp2_with fail
        refine (equal_any _ _ x x0 _ HVA.out HVB.out).mono ?_
        rintro e w' ⟨rfl, rfl⟩
        go_wp2_with fail
        refine (same_any _ _ x x0 _ HVA.out HVB.out).mono ?_
        rintro e wh ⟨rfl, he⟩
        have HX := Lib.hid (HX.out.trans he)
        have HVA := Lib.hid (HVA.out.ext he)
        clear he HVB
        generalize (x == x0) = r0 at *
        have q3 : (r0 != r0) = false := by simp
        go_wp2_with fail
        refine (HFew.out _ HX.out).mono ?_
        rintro e wi ⟨v5, rfl, ho, he⟩
        have H5 := Lib.hid ho.bs
        have HX := Lib.hid (HX.out.trans he)
        have HVA := Lib.hid (HVA.out.ext he)
        clear ho he
        go_wp2_with fail
        refine (equal_any _ _ x x _ HVA.out H5.out).mono ?_
        rintro e w' ⟨rfl, rfl⟩
        rw [show (x == x) = true by simp]
        clear H5 q1 q2 q3
        have HNl := Lib.hid (HN.out.ext (HW.out.trans HX.out))
        go_wp2_with fail
        go_loopw [86] (fun i wr => ∃ j : Nat, j ≤ m ∧ j ≤ 6 ∧ i = .int .i64 j ∧ Hid (Ext wi wr)) (fun i _ => m - (intOf i).toNat)
        case atStart => exact ⟨0, Nat.zero_le _, Nat.zero_le _, rfl, Ext.refl _⟩
        case round =>
          obtain ⟨wq, rfl⟩ : ∃ wq : World, wq = wr := ⟨_, rfl⟩
          obtain ⟨j, hj, hj6, rfl, HQ⟩ := hrel
          by_cases hjl : j < m
          · obtain ⟨A, c, e, h1, h2, h3⟩ := (HNl.out.ext HQ.out)
            injection e with e1 e2 e3
            subst e1
            obtain ⟨bn, on, rfl, q, hcq, hq1, hq2⟩ := h3 j hjl
            clear h3 e2 e3
            by_cases hj6' : j = 6
            · subst hj6'
              have hd6 : (((6 : Nat) : Int) == 6) = true := rfl
              go_wp2
              go_roundw
              case rel => exact ⟨k + 1, by omega, by omega, by go_num, HW.out.trans (HX.out.trans HQ.out)⟩
              case measure => simp [intOf]; omega
            · have hd6 : ((j : Int) == 6) = false := beq_eq_false_iff_ne.2 (by omega)
              have HVq := Lib.hid (HVA.out.ext HQ.out)
              have HXq := Lib.hid (HX.out.trans HQ.out)
              go_wp2_with fail
              refine (ahead_any _ x _ _ HVq.out hq2).mono ?_
              rintro e wa ⟨vA, rfl, ho, he⟩
              have HOA := Lib.hid ho
              have HlA := Lib.hid (fun g (hg : vA.ownBlock = some g) => (ho.lt g hg).2)
              have HZ := Lib.hid he
              have HVq := Lib.hid (HVq.out.ext he)
              clear ho he hcq
              go_wp2_with fail
              refine (behind_any _ x _ _ HVq.out hq2).mono ?_
              rintro e wb' ⟨vC, rfl, ho, he⟩
              have HOC := Lib.hid ho
              have HsC := Lib.hid (HZ.out.size)
              have HOA := Lib.hid (HOA.out.ext he)
              have HZ := Lib.hid (HZ.out.trans he)
              clear ho he
              go_wp2_with fail
              refine (HFew.out _ (HXq.out.trans HZ.out)).mono ?_
              rintro e wc' ⟨v6, rfl, ho, he⟩
              have H6 := Lib.hid ho.bs
              have HOA := Lib.hid (HOA.out.ext he)
              have HOC := Lib.hid (HOC.out.ext he)
              have HZ := Lib.hid (HZ.out.trans he)
              clear ho he
              go_wp2_with fail
              refine (paddedA_any _ x _ _ H6.out).mono ?_
              rintro e wd' ⟨v7, rfl, ho, he⟩
              have H7 := Lib.hid ho.bs
              have HOA := Lib.hid (HOA.out.ext he)
              have HOC := Lib.hid (HOC.out.ext he)
              have HZ := Lib.hid (HZ.out.trans he)
              clear ho he H6
              go_wp2_with fail
              refine (HFew.out _ (HXq.out.trans HZ.out)).mono ?_
              rintro e we' ⟨v8, rfl, ho, he⟩
              have H8 := Lib.hid ho.bs
              have H7 := Lib.hid (H7.out.ext he)
              have HOA := Lib.hid (HOA.out.ext he)
              have HOC := Lib.hid (HOC.out.ext he)
              have HZ := Lib.hid (HZ.out.trans he)
              clear ho he
              go_wp2_with fail
              refine (paddedB_any _ x _ _ H8.out).mono ?_
              rintro e wf' ⟨v9, rfl, ho, he⟩
              have H9 := Lib.hid ho.bs
              have H7 := Lib.hid (H7.out.ext he)
              have HOA := Lib.hid (HOA.out.ext he)
              have HOC := Lib.hid (HOC.out.ext he)
              have HZ := Lib.hid (HZ.out.trans he)
              clear ho he H8
              have HnA := Lib.hid (show q < 0 → (ahdS x q).2 = 2 by intro h; unfold ahdS; rw [if_pos (by omega)])
              have HnC := Lib.hid (show q < 0 → (bhdS x q).2 = 2 by intro h; unfold bhdS; rw [if_pos (by omega)])
              generalize (ahdS x q).1 = LA at *
              generalize (ahdS x q).2 = cA at *
              generalize (bhdS x q).1 = LC at *
              generalize (bhdS x q).2 = cC at *
              obtain ⟨AA, kA, rfl, hA1, hA2, -⟩ := id HOA.out.bs
              obtain ⟨AC, kC, rfl, hC1, hC2, -⟩ := id HOC.out.bs
              unfold maxLen at hA2 hC2
              by_cases hneg : q < 0
              · obtain rfl := HnA.out hneg
                obtain rfl := HnC.out hneg
                go_wp2_with fail
                refine (same_any _ _ LA LA _ HOA.out.bs H7.out).mono ?_
                rintro e wg' ⟨rfl, he⟩
                rw [show (LA == LA) = true by simp]
                have H9 := Lib.hid (H9.out.ext he)
                have HOA := Lib.hid (HOA.out.ext he)
                have HOC := Lib.hid (HOC.out.ext he)
                have HZ := Lib.hid (HZ.out.trans he)
                clear he H7
                go_wp2_with fail
                refine (same_any _ _ LC LC _ HOC.out.bs H9.out).mono ?_
                rintro e wh' ⟨rfl, he⟩
                rw [show (LC == LC) = true by simp]
                have HOA := Lib.hid (HOA.out.ext he)
                have HOC := Lib.hid (HOC.out.ext he)
                have HZ := Lib.hid (HZ.out.trans he)
                clear he H9
                have ix0 := idx0 AA AC LA.length kA LC.length kC
                have ix1 := idx1 AA AC LA.length kA LC.length kC
                go_wp2_with fail
                go_loopw [144] (fun i wr => ∃ p : Int, (p = 0 ∨ p = 1 ∨ p = 2) ∧ i = .int .i64 p ∧ Hid (Ext wq wr) ∧ Hid (p = 0 → Own wr wq.heap.size 5 (.slice AA LA.length kA) LA) ∧ Hid (p ≤ 1 → Own wr wa.heap.size 5 (.slice AC LC.length kC) LC)) (fun i _ => (2 - intOf i).toNat)
                case atStart => exact ⟨0, .inl rfl, rfl, HZ.out, fun _ => HOA.out, fun _ => HOC.out⟩
                case round =>
                  obtain ⟨w3, rfl⟩ : ∃ w3 : World, w3 = wr := ⟨_, rfl⟩
                  obtain ⟨p, hp, rfl, HZ3, HA3, HC3⟩ := hrel
                  rcases hp with rfl | rfl | rfl
                  · have HA4 := Lib.hid (HA3.out rfl)
                    have HC4 := Lib.hid (HC3.out (by omega))
                    clear HA3 HC3
                    go_wp2_with fail
                    go_loopw [149] (fun i wr => ∃ (t : Nat) (M : List UInt8), t ≤ LA.length ∧ i = .int .i64 t ∧ Hid (M.length = LA.length) ∧ Hid (Own wr wq.heap.size 5 (.slice AA LA.length kA) M) ∧ Hid (Ext wq wr) ∧ Hid (Own wr wa.heap.size 5 (.slice AC LC.length kC) LC)) (fun i _ => LA.length - (intOf i).toNat)
                    case atStart => exact ⟨0, LA, Nat.zero_le _, rfl, rfl, HA4.out, HZ3.out, HC4.out⟩
                    case round =>
                      obtain ⟨t, M, ht, rfl, HML, HOM, HXM, HCM⟩ := hrel
                      by_cases htl : t < LA.length
                      · obtain ⟨g, cap, e, hbg, hcells, hfrz, hset⟩ := HOM.out.form (by have := HML.out; omega)
                        injection e with e1 e2 e3
                        subst e1
                        have hct := hcells t (by have := HML.out; omega)
                        have hft := hfrz t
                        have HSt := Lib.hid (fun c => hset t c)
                        have hgA : g < wa.heap.size := HlA.out g rfl
                        unfold bv at hct
                        clear hcells hfrz hset e2 e3
                        generalize M.getD t 0 = y at *
                        have hy := y.toNat_lt
                        go_wp2
                        go_roundw
                        case rel =>
                          rw [inc_byte]
                          exact ⟨t + 1, M.set t (UInt8.ofNat (y.toNat + 1)), by omega, by go_num, by show _ = _; rw [List.length_set]; exact HML.out, (HSt.out _).1, HXM.out.grown (HSt.out _).2 hbg, HCM.out.keptOld (HSt.out _).2 hgA⟩
                        case measure => simp [intOf]; omega
                      · go_wp2
                        go_roundw
                        case rel => exact ⟨1, by omega, by first | rfl | simp, HXM.out, fun h => absurd h (by omega), fun _ => HCM.out⟩
                        case measure => simp [intOf]
                  · have HC4 := Lib.hid (HC3.out (by omega))
                    clear HA3 HC3
                    go_wp2_with fail
                    go_loopw [149] (fun i wr => ∃ (t : Nat) (M : List UInt8), t ≤ LC.length ∧ i = .int .i64 t ∧ Hid (M.length = LC.length) ∧ Hid (Own wr wa.heap.size 5 (.slice AC LC.length kC) M) ∧ Hid (Ext wq wr)) (fun i _ => LC.length - (intOf i).toNat)
                    case atStart => exact ⟨0, LC, Nat.zero_le _, rfl, rfl, HC4.out, HZ3.out⟩
                    case round =>
                      obtain ⟨t, M, ht, rfl, HML, HOM, HXM⟩ := hrel
                      by_cases htl : t < LC.length
                      · obtain ⟨g, cap, e, hbg, hcells, hfrz, hset⟩ := HOM.out.form (by have := HML.out; omega)
                        injection e with e1 e2 e3
                        subst e1
                        have hct := hcells t (by have := HML.out; omega)
                        have hft := hfrz t
                        have HSt := Lib.hid (fun c => hset t c)
                        unfold bv at hct
                        clear hcells hfrz hset e2 e3
                        generalize M.getD t 0 = y at *
                        have hy := y.toNat_lt
                        go_wp2
                        go_roundw
                        case rel =>
                          rw [inc_byte]
                          exact ⟨t + 1, M.set t (UInt8.ofNat (y.toNat + 1)), by omega, by go_num, by show _ = _; rw [List.length_set]; exact HML.out, (HSt.out _).1, HXM.out.grown (HSt.out _).2 (Nat.le_trans HsC.out hbg)⟩
                        case measure => simp [intOf]; omega
                      · go_wp2
                        go_roundw
                        case rel => exact ⟨2, by omega, by first | rfl | simp, HXM.out, fun h => absurd h (by omega), fun h => absurd h (by omega)⟩
                        case measure => simp [intOf]
                  · clear HA3 HC3
                    go_wp2_with fail
                    refine (HFew.out _ (HXq.out.trans HZ3.out)).mono ?_
                    rintro e w4 ⟨v10, rfl, ho, he⟩
                    have H10 := Lib.hid ho.bs
                    have HZ3 := Lib.hid (HZ3.out.trans he)
                    clear ho he
                    go_wp2_with fail
                    refine (same_any _ _ x x _ (HVA.out.ext (HQ.out.trans HZ3.out)) H10.out).mono ?_
                    rintro e w5 ⟨rfl, he⟩
                    rw [show (x == x) = true by simp]
                    have HZ3 := Lib.hid (HZ3.out.trans he)
                    clear he H10
                    go_wp2_with fail
                    go_roundw
                    case rel => exact ⟨j + 1, by omega, by omega, by go_num, HQ.out.trans HZ3.out⟩
                    case measure => simp [intOf]; omega
              · have hdn : decide (q < 0) = false := by simp; omega
                go_wp2_with fail
                refine (same_any _ _ LA LA _ HOA.out.bs H7.out).mono ?_
                rintro e wg' ⟨rfl, he⟩
                rw [show (LA == LA) = true by simp]
                have H9 := Lib.hid (H9.out.ext he)
                have HOA := Lib.hid (HOA.out.ext he)
                have HOC := Lib.hid (HOC.out.ext he)
                have HZ := Lib.hid (HZ.out.trans he)
                clear he H7
                go_wp2_with fail
                refine (same_any _ _ LC LC _ HOC.out.bs H9.out).mono ?_
                rintro e wh' ⟨rfl, he⟩
                rw [show (LC == LC) = true by simp]
                have HOA := Lib.hid (HOA.out.ext he)
                have HOC := Lib.hid (HOC.out.ext he)
                have HZ := Lib.hid (HZ.out.trans he)
                clear he H9
                have ix0 := idx0 AA AC LA.length kA LC.length kC
                have ix1 := idx1 AA AC LA.length kA LC.length kC
                go_wp2_with fail
                go_loopw [144] (fun i wr => ∃ p : Int, (p = 0 ∨ p = 1 ∨ p = 2) ∧ i = .int .i64 p ∧ Hid (Ext wq wr) ∧ Hid (p = 0 → Own wr wq.heap.size 5 (.slice AA LA.length kA) LA) ∧ Hid (p ≤ 1 → Own wr wa.heap.size 5 (.slice AC LC.length kC) LC)) (fun i _ => (2 - intOf i).toNat)
                case atStart => exact ⟨0, .inl rfl, rfl, HZ.out, fun _ => HOA.out, fun _ => HOC.out⟩
                case round =>
                  obtain ⟨w3, rfl⟩ : ∃ w3 : World, w3 = wr := ⟨_, rfl⟩
                  obtain ⟨p, hp, rfl, HZ3, HA3, HC3⟩ := hrel
                  rcases hp with rfl | rfl | rfl
                  · have HA4 := Lib.hid (HA3.out rfl)
                    have HC4 := Lib.hid (HC3.out (by omega))
                    clear HA3 HC3
                    go_wp2_with fail
                    go_loopw [149] (fun i wr => ∃ (t : Nat) (M : List UInt8), t ≤ LA.length ∧ i = .int .i64 t ∧ Hid (M.length = LA.length) ∧ Hid (Own wr wq.heap.size 5 (.slice AA LA.length kA) M) ∧ Hid (Ext wq wr) ∧ Hid (Own wr wa.heap.size 5 (.slice AC LC.length kC) LC)) (fun i _ => LA.length - (intOf i).toNat)
                    case atStart => exact ⟨0, LA, Nat.zero_le _, rfl, rfl, HA4.out, HZ3.out, HC4.out⟩
                    case round =>
                      obtain ⟨t, M, ht, rfl, HML, HOM, HXM, HCM⟩ := hrel
                      by_cases htl : t < LA.length
                      · obtain ⟨g, cap, e, hbg, hcells, hfrz, hset⟩ := HOM.out.form (by have := HML.out; omega)
                        injection e with e1 e2 e3
                        subst e1
                        have hct := hcells t (by have := HML.out; omega)
                        have hft := hfrz t
                        have HSt := Lib.hid (fun c => hset t c)
                        have hgA : g < wa.heap.size := HlA.out g rfl
                        unfold bv at hct
                        clear hcells hfrz hset e2 e3
                        generalize M.getD t 0 = y at *
                        have hy := y.toNat_lt
                        go_wp2
                        go_roundw
                        case rel =>
                          rw [inc_byte]
                          exact ⟨t + 1, M.set t (UInt8.ofNat (y.toNat + 1)), by omega, by go_num, by show _ = _; rw [List.length_set]; exact HML.out, (HSt.out _).1, HXM.out.grown (HSt.out _).2 hbg, HCM.out.keptOld (HSt.out _).2 hgA⟩
                        case measure => simp [intOf]; omega
                      · go_wp2
                        go_roundw
                        case rel => exact ⟨1, by omega, by first | rfl | simp, HXM.out, fun h => absurd h (by omega), fun _ => HCM.out⟩
                        case measure => simp [intOf]
                  · have HC4 := Lib.hid (HC3.out (by omega))
                    clear HA3 HC3
                    go_wp2_with fail
                    go_loopw [149] (fun i wr => ∃ (t : Nat) (M : List UInt8), t ≤ LC.length ∧ i = .int .i64 t ∧ Hid (M.length = LC.length) ∧ Hid (Own wr wa.heap.size 5 (.slice AC LC.length kC) M) ∧ Hid (Ext wq wr)) (fun i _ => LC.length - (intOf i).toNat)
                    case atStart => exact ⟨0, LC, Nat.zero_le _, rfl, rfl, HC4.out, HZ3.out⟩
                    case round =>
                      obtain ⟨t, M, ht, rfl, HML, HOM, HXM⟩ := hrel
                      by_cases htl : t < LC.length
                      · obtain ⟨g, cap, e, hbg, hcells, hfrz, hset⟩ := HOM.out.form (by have := HML.out; omega)
                        injection e with e1 e2 e3
                        subst e1
                        have hct := hcells t (by have := HML.out; omega)
                        have hft := hfrz t
                        have HSt := Lib.hid (fun c => hset t c)
                        unfold bv at hct
                        clear hcells hfrz hset e2 e3
                        generalize M.getD t 0 = y at *
                        have hy := y.toNat_lt
                        go_wp2
                        go_roundw
                        case rel =>
                          rw [inc_byte]
                          exact ⟨t + 1, M.set t (UInt8.ofNat (y.toNat + 1)), by omega, by go_num, by show _ = _; rw [List.length_set]; exact HML.out, (HSt.out _).1, HXM.out.grown (HSt.out _).2 (Nat.le_trans HsC.out hbg)⟩
                        case measure => simp [intOf]; omega
                      · go_wp2
                        go_roundw
                        case rel => exact ⟨2, by omega, by first | rfl | simp, HXM.out, fun h => absurd h (by omega), fun h => absurd h (by omega)⟩
                        case measure => simp [intOf]
                  · clear HA3 HC3
                    go_wp2_with fail
                    refine (HFew.out _ (HXq.out.trans HZ3.out)).mono ?_
                    rintro e w4 ⟨v10, rfl, ho, he⟩
                    have H10 := Lib.hid ho.bs
                    have HZ3 := Lib.hid (HZ3.out.trans he)
                    clear ho he
                    go_wp2_with fail
                    refine (same_any _ _ x x _ (HVA.out.ext (HQ.out.trans HZ3.out)) H10.out).mono ?_
                    rintro e w5 ⟨rfl, he⟩
                    rw [show (x == x) = true by simp]
                    have HZ3 := Lib.hid (HZ3.out.trans he)
                    clear he H10
                    go_wp2_with fail
                    go_roundw
                    case rel => exact ⟨j + 1, by omega, by omega, by go_num, HQ.out.trans HZ3.out⟩
                    case measure => simp [intOf]; omega
          · go_wp2
            go_roundw
            case rel => exact ⟨k + 1, by omega, by omega, by go_num, HW.out.trans (HX.out.trans HQ.out)⟩
            case measure => simp [intOf]; omega
    · go_wp2
      go_ret
      exact ⟨rfl, HE.out.trans HW.out⟩

theorem pads_told (W : World) (args : Array Value) (h : Told Try.f4 W args) : Calls Try.prog 4 args W (RetT W) := by
  obtain ⟨H, enc, base, ds, p, hval, hA⟩ := h
  rw [Try.params4] at hA hval
  obtain ⟨v0, v1, d0, d1, p0, p1, rfl, rfl, rfl, h0, h1⟩ := trodAll_two hA
  obtain ⟨n, hr⟩ := rws_came (hval 0 _ v0 rfl rfl) h0
  obtain ⟨m, hl⟩ := ins_came (hval 1 _ v1 rfl rfl) h1
  exact pads_walk v0 v1 n m W hr hl

theorem pads_spec (H : Type) : ∀ ds : List (DataW H), ds.length = Try.f4.params.toList.length → Rows.octetPadsSpec.fn H ds = { results := [.lit (.bool true)], args := ds }
  | [_, _], _ => rfl
  | [], h | [_], h | _ :: _ :: _ :: _, h => by rw [Try.params4] at h; simp at h

set_option maxRecDepth 100000 in
theorem octetPads_holds : Rows.OctetPadsSaid :=
  OpenClaim.holds_of_wide 4 Try.f4 rfl rfl rfl rfl rfl rfl rfl ⟨rfl, rfl, rfl, rfl, rfl⟩ rfl rfl rfl rfl rfl (by kernel_rfl) Try.func4 (by kernel_rfl)
    (of_decide_eq_true (by kernel_rfl)) (by unfold Func.isWrapper; first | (rw [if_pos (by decide +kernel)]; kernel_rfl) | (rw [if_neg (by decide +kernel)]; exact ⟨rfl, rfl⟩))
    (fun os started H enc _ => law_lifted started (by kernel_rfl) Try.func4 rfl rfl (pads_spec H) (of_decide_eq_true (by kernel_rfl))
      (ChangeSpec.witness6 (enc := enc) (C := Try.checked) false ⟨#[], #[.slice none 0 0, .slice none 0 0], []⟩ 8 (by kernel_rfl) (by kernel_rfl) (by kernel_rfl) (by kernel_rfl)) pads_told)
end Go.Proofs.Ytllcmeihogcckaa
