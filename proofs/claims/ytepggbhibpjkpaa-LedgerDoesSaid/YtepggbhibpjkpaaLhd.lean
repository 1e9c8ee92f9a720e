/- Package ledger: where a row stands. -/
import Derived.Test.YtepggbhibpjkpaaLhc
namespace Go.Proofs.Ytepggbhibpjkpaa
open Go.ChangeShapes Go.WideShapes Go.ChangeAt Go.RowKit Go.Shelf

/-- The rows' addresses rise. -/
def RiseG (l : List Hd) : Prop := ∀ i j, i < j → j < l.length → (l.getD i hz0).addr < (l.getD j hz0).addr
/-- How many keys are below that one; whether it is there. -/
def posG (l : List Hd) (k : Nat) : Nat := (l.filter fun p => decide (p.addr < k)).length
def hasG (l : List Hd) (k : Nat) : Bool := decide (posG l k < l.length) && decide ((l.getD (posG l k) hz0).addr = k)
set_option maxRecDepth 100000 in
theorem posG_le (l : List Hd) (k : Nat) : posG l k ≤ l.length := List.length_filter_le _ _
set_option maxRecDepth 100000 in
theorem posG_lt : ∀ (l : List Hd) (k : Nat), RiseG l → ∀ i, i < l.length → ((l.getD i hz0).addr < k ↔ i < posG l k)
  | [], k, _, i, hi => by simp at hi
  | p :: l, k, hr, i, hi => by
    have hr' : RiseG l := fun a b hab hb => by
      have := hr (a + 1) (b + 1) (by omega) (by simp; omega)
      simpa using this
    have ih := posG_lt l k hr'
    by_cases hp : p.addr < k
    · have e : posG (p :: l) k = posG l k + 1 := by unfold posG; simp [hp]
      rw [e]
      cases i with
      | zero => simpa using hp
      | succ i =>
        have := ih i (by simpa using hi)
        simp only [List.getD_cons_succ]
        omega
    · have e : posG (p :: l) k = posG l k := by unfold posG; simp [hp]
      have h0 : posG l k = 0 := by
        rcases Nat.eq_zero_or_pos (posG l k) with h | h
        · exact h
        · have hl : 0 < l.length := Nat.lt_of_lt_of_le h (posG_le l k)
          have h1 := (ih 0 hl).2 h
          have h2 := hr 0 1 (by omega) (by simp; omega)
          simp at h2
          simp [List.getD] at h1 h2 ⊢
          omega
      rw [e, h0]
      cases i with
      | zero => simp [hp]
      | succ i =>
        have h2 := hr 0 (i + 1) (by omega) hi
        simp only [List.getD_cons_zero, List.getD_cons_succ] at h2 ⊢
        omega
set_option maxRecDepth 100000 in
set_option maxHeartbeats 1000000 in
theorem find1_any (gs ga i a : Nat) (sv : Value) (l : List Hd) (w : World) (hgs : Cs w gs 86 #[sv]) (hga : Cs w ga 27 #[.int .u64 (a : Nat)]) (hs : Hds w sv l) (hi : i < l.length) (_hl : l.length ≤ 100000) :
    Calls Try.prog 173 #[.int .i64 (i : Nat), .pointer (some ⟨gs, 0, none⟩), .pointer (some ⟨ga, 0, none⟩)] w fun e w' => e = .returned (.bool (decide (a ≤ (l.getD i hz0).addr))) ∧ Ext w w' := by
  obtain ⟨A1, c, rfl, h1, h2⟩ := hs.len
  obtain ⟨bb, oo, rfl, hrg, _⟩ := hs.at i hi
  have q1 := hgs.cell 0 _ rfl
  have q2 := hga.cell 0 _ rfl
  have q3 := hd_addr hrg
  clear hrg hgs hga hs
  generalize l.getD i hz0 = p at *
  have hd3 : decide (i < l.length) = true := decide_eq_true hi
  unfold maxLen at h2
  go_enter Try.func173, Try.ntmps173
  go_upto_region 1 with fail
  go_quiet (fail)
  go_wp2_with fail
  go_ret
  refine ⟨?_, Ext.drewN (Ext.refl _) nq⟩
  rw [show decide (a ≤ p.addr) = decide ((a : Int) ≤ (p.addr : Int)) by simp]
  rfl
set_option maxRecDepth 100000 in
set_option maxHeartbeats 4000000 in
theorem searchG_any (gs ga a : Nat) (sv : Value) (l : List Hd) (w : World) (hgs : Cs w gs 86 #[sv]) (hga : Cs w ga 27 #[.int .u64 (a : Nat)]) (hs : Hds w sv l) (hr : RiseG l) (hl : l.length ≤ 100000) :
    Calls Try.prog 90 #[.int .i64 (l.length : Nat), .func (.func 173) #[] #[.pointer (some ⟨gs, 0, none⟩), .pointer (some ⟨ga, 0, none⟩)]] w fun e w' => e = .returned (.int .i64 (posG l a : Nat)) ∧ Ext w w' := by
  have HGS := Lib.hid hgs
  have HGA := Lib.hid hga
  have HS := Lib.hid hs
  have HPL := Lib.hid (posG_lt l a hr)
  have HPO := Lib.hid (posG_le l a)
  clear hgs hga hs hr
  go_enter Try.func90, Try.ntmps90
  go_wp2_with fail
  go_loopw [5, 6] (fun iv jv wr => ∃ i j : Nat, i ≤ posG l a ∧ posG l a ≤ j ∧ j ≤ l.length ∧ iv = .int .i64 i ∧ jv = .int .i64 j ∧ Hid (Ext w wr)) (fun iv jv _ => (intOf jv).toNat - (intOf iv).toNat)
  case atStart => exact ⟨0, l.length, Nat.zero_le _, HPO.out, Nat.le_refl _, rfl, rfl, Lib.hid (Ext.refl _)⟩
  case round =>
    obtain ⟨i, j, hi, hj, hjl, rfl, rfl, HE⟩ := hrel
    by_cases hlt : i < j
    · have hd : decide (i < j) = true := decide_eq_true hlt
      have hd2 : decide ((i : Int) < (j : Int)) = true := decide_eq_true (by omega)
      obtain ⟨h, hh⟩ : ∃ h, (i + j) / 2 = h := ⟨_, rfl⟩
      have hhl : h < l.length := by omega
      have HH := Lib.hid (show i ≤ h ∧ h < j ∧ (((i : Int) + (j : Int)) / 2 = ((h : Nat) : Int)) by omega)
      have HPH := Lib.hid (HPL.out h hhl)
      clear hh
      go_upto_region 4 with fail
      rw [HH.out.2.2]
      go_wp2_with fail
      refine (find1_any gs ga h a sv l _ (Cs.ext HGS.out HE.out) (Cs.ext HGA.out HE.out) (HS.out.ext HE.out) hhl hl).mono ?_
      rintro e w2 ⟨rfl, he⟩
      have HE2 := Lib.hid (HE.out.trans he)
      clear he
      by_cases hx : h < posG l a
      · have e1 : decide (a ≤ (l.getD h hz0).addr) = false := decide_eq_false (by have := HPH.out.2 hx; omega)
        rw [e1]
        clear e1
        go_wp2_with fail
        refine ⟨⟨h + 1, j, by omega, hj, hjl, by go_num, rfl, HE2⟩, by simp [intOf]; have := HH.out; omega⟩
      · have e1 : decide (a ≤ (l.getD h hz0).addr) = true := decide_eq_true (by rcases Nat.lt_or_ge (l.getD h hz0).addr a with hq | hq; exact absurd (HPH.out.1 hq) hx; exact hq)
        rw [e1]
        clear e1
        go_wp2_with fail
        refine ⟨⟨i, h, hi, by omega, by omega, rfl, by go_num, HE2⟩, by simp [intOf]; have := HH.out; omega⟩
    · obtain rfl : i = posG l a := by omega
      have hd : decide (posG l a < j) = false := decide_eq_false hlt
      have hd2 : decide ((posG l a : Int) < (j : Int)) = false := decide_eq_false (by omega)
      go_wp2_with fail
      refine bodyPost_ret (results_tmp rfl _ _ _) rfl ?_
      exact ⟨rfl, HE.out⟩
set_option maxRecDepth 100000 in
set_option maxHeartbeats 4000000 in
theorem findG_any (sv : Value) (l : List Hd) (a : Nat) (w : World) (hs : Hds w sv l) (hr : RiseG l) (hl : l.length ≤ 100000) :
    Calls Try.prog 159 #[sv, .int .u64 (a : Nat)] w fun e w' => e = .returned (.tuple #[.int .i64 (posG l a : Nat), .bool (hasG l a)]) ∧ Ext w w' := by
  have HS := Lib.hid hs
  have HR := Lib.hid hr
  obtain ⟨A1, c, rfl, h1, h2⟩ := hs.len
  have HPO := Lib.hid (posG_le l a)
  obtain ⟨w1, hw1⟩ : ∃ w1, (w.alloc (.cells #[.slice A1 l.length c] 86)).alloc (.cells #[.int .u64 (a : Nat)] 27) = w1 := ⟨_, rfl⟩
  have HW1 := Lib.hid hw1
  have HG2 : Hid (Cs w1 w.heap.size 86 #[.slice A1 l.length c]) := Lib.hid (by rw [← hw1]; exact Cs.alloc (Cs.new _ _ _ _ rfl) _)
  have HG3 : Hid (Cs w1 (w.heap.size + 1) 27 #[.int .u64 (a : Nat)]) := Lib.hid (by rw [← hw1]; exact Cs.new _ _ _ _ (by rw [World.size_alloc]))
  have HE : Hid (Ext w w1) := Lib.hid (by rw [← hw1]; exact ((Ext.refl w).alloc _).alloc _)
  clear hs hr hw1
  unfold maxLen at h2
  go_enter Try.func159, Try.ntmps159
  go_upto_region 1 with fail
  rw [HW1.out]
  clear HW1
  obtain ⟨g2, hg2⟩ : ∃ g2, w.heap.size = g2 := ⟨_, rfl⟩
  obtain ⟨g3, hg3⟩ : ∃ g3, w.heap.size + 1 = g3 := ⟨_, rfl⟩
  rw [hg2] at HG2
  rw [hg3] at HG3 ⊢
  rw [hg2]
  clear hg2 hg3
  have q2 := HG2.out.cell 0 _ rfl
  go_wp2_with fail
  refine (searchG_any g2 g3 a _ l _ HG2.out HG3.out (HS.out.ext HE.out) HR.out hl).mono ?_
  rintro e w2 ⟨rfl, he⟩
  have HE2 := Lib.hid (HE.out.trans he)
  have q2 := (Cs.ext HG2.out he).cell 0 _ rfl
  have q3 := (Cs.ext HG3.out he).cell 0 _ rfl
  have HHK : Hid (hasG l a = (decide (posG l a < l.length) && decide ((l.getD (posG l a) hz0).addr = a))) := Lib.hid rfl
  clear he HG2 HG3 HE
  obtain ⟨i, hi⟩ : ∃ i, posG l a = i := ⟨_, rfl⟩
  have HI := Lib.hid hi
  rw [hi] at HHK HPO ⊢
  clear hi
  go_upto_region 2 with fail
  by_cases hlt : i < l.length
  · have hd : decide (i < l.length) = true := decide_eq_true hlt
    have hd2 : decide ((i : Int) < (l.length : Int)) = true := decide_eq_true (by omega)
    obtain ⟨bb, oo, rfl, hrg, _⟩ := (HS.out.ext HE2.out).at i hlt
    have q4 := hd_addr hrg
    clear hrg
    generalize l.getD i hz0 = p at *
    have HHB := Lib.hid (show decide (p.addr = a) = ((p.addr : Int) == (a : Int)) by rw [int_beq]; by_cases h : p.addr = a <;> simp [h])
    have HT := Lib.hid hd
    go_quiet (fail)
    go_wp2_with fail
    refine bodyPost_ret (results_tmp2 rfl _ _ _) rfl ?_
    exact ⟨by rw [HHK.out, HI.out, HHB.out, HT.out, Bool.true_and]; rfl, Ext.drewN HE2.out nq⟩
  · have hd : decide (i < l.length) = false := decide_eq_false hlt
    have hd2 : decide ((i : Int) < (l.length : Int)) = false := decide_eq_false (by omega)
    have HT := Lib.hid hd
    go_quiet (fail)
    go_wp2_with fail
    refine bodyPost_ret (results_tmp2 rfl _ _ _) rfl ?_
    exact ⟨by rw [HHK.out, HI.out, HT.out, Bool.false_and]; rfl, Ext.drewN HE2.out nq⟩
end Go.Proofs.Ytepggbhibpjkpaa
