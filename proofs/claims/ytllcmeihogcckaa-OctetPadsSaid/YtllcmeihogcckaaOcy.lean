/- Contracts of package octet: Over; and all of them in one form. -/
import Derived.Test.YtllcmeihogcckaaOcx
namespace Go.Proofs.Ytllcmeihogcckaa
open Go.RowKit

theorem own_nil (w : World) (b : Nat) (t : TypeId) : Own w b t (.slice none 0 0) [] := World.ownsRow_nil w b t 1

set_option maxHeartbeats 400000 in
theorem over_none (v xv : Value) (l : List UInt8) (ai : Int) (w : World) (hb : Bs w v l) (hx : Bs w xv []) (hl : l.length ≤ 4294967296) :
    Calls Try.prog 29 #[v, .int .u64 ai, xv] w (RetE w l 0) := by
  have HB := Lib.hid hb
  obtain ⟨A, c, rfl, h1, h2, h3⟩ := hb
  obtain ⟨A', c', rfl, h1', h2', h3'⟩ := hx
  clear h1 h2 h3 h1' h2' h3'
  go_enter Try.func29, Try.ntmps29
  go_wp2_with fail
  refine (grown_any _ l l.length _ rfl w HB.out (by omega)).mono ?_
  rintro e w2 ⟨rfl, hr2, he2⟩
  rw [fit_self _ _ rfl] at hr2
  have HR2 := Lib.hid hr2
  have HE2 := Lib.hid he2
  clear hr2 he2
  go_wp2_with fail
  go_ret2
  exact ⟨_, rfl, HR2.out.own (Nat.le_refl _) (by simp [maxLen]; omega), HE2.out⟩

set_option maxHeartbeats 400000 in
theorem over_far (v xv : Value) (l x : List UInt8) (a : Nat) (ai : Int) (hai : ai = (a : Int)) (w : World) (hb : Bs w v l) (hx : Bs w xv x) (hx0 : 0 < x.length) (ha : a < 18446744073709551616) (hf : 4096 < a + x.length) :
    Calls Try.prog 29 #[v, .int .u64 ai, xv] w (RetE w [] 3) := by
  subst hai
  obtain ⟨A, c, rfl, h1, h2, h3⟩ := hb
  obtain ⟨A', c', rfl, h1', h2', h3'⟩ := hx
  unfold maxLen at h2'
  clear h1 h2 h3 h3'
  have hne : ((x.length : Int) == 0) = false := beq_eq_false_iff_ne.2 (by omega)
  go_enter Try.func29, Try.ntmps29
  go_wp2_with fail
  refine (fits_any _ 2 _ [a, x.length] _ rfl (by omega) ?_).mono ?_
  · intro i hi
    rcases (show i = 0 ∨ i = 1 by omega) with rfl | rfl <;> simp [go_sem]
  rintro e w' ⟨rfl, rfl⟩
  have hfit : fitsB 4096 [a, x.length] = false := by simp [fitsB]; omega
  rw [hfit]
  clear hfit
  go_wp2_with fail
  go_ret2
  exact ⟨_, rfl, own_nil _ _ _, (Ext.refl w).alloc _⟩

set_option maxHeartbeats 400000 in
theorem over_long (v xv : Value) (l x : List UInt8) (a : Nat) (ai : Int) (hai : ai = (a : Int)) (w : World) (hb : Bs w v l) (hx : Bs w xv x) (hx0 : 0 < x.length) (hf : a + x.length ≤ 4096) (hl : 4096 < l.length) :
    Calls Try.prog 29 #[v, .int .u64 ai, xv] w (RetE w [] 3) := by
  subst hai
  obtain ⟨A, c, rfl, h1, h2, h3⟩ := hb
  obtain ⟨A', c', rfl, h1', h2', h3'⟩ := hx
  unfold maxLen at h2' h2
  clear h3 h3'
  have hne : ((x.length : Int) == 0) = false := beq_eq_false_iff_ne.2 (by omega)
  go_enter Try.func29, Try.ntmps29
  go_wp2_with fail
  refine (fits_any _ 2 _ [a, x.length] _ rfl (by omega) ?_).mono ?_
  · intro i hi
    rcases (show i = 0 ∨ i = 1 by omega) with rfl | rfl <;> simp [go_sem]
  rintro e w' ⟨rfl, rfl⟩
  have hfit : fitsB 4096 [a, x.length] = true := by simp [fitsB]; omega
  rw [hfit]
  clear hfit
  go_wp2_with fail
  refine (fits_any _ 1 _ [l.length] _ rfl (by omega) ?_).mono ?_
  · intro i hi
    obtain rfl : i = 0 := by omega
    simp [go_sem]
  rintro e w' ⟨rfl, rfl⟩
  have hfit : fitsB 4096 [l.length] = false := by simp [fitsB]; omega
  rw [hfit]
  clear hfit
  go_wp2_with fail
  go_ret2
  exact ⟨_, rfl, own_nil _ _ _, ((Ext.refl w).alloc _).alloc _⟩

/-- l with x over it from a on, as long as it has to be. -/
def ovr (l : List UInt8) (a : Nat) (x : List UInt8) : List UInt8 := lay (fit l (max l.length (a + x.length))) a x
theorem ovr_length (l : List UInt8) (a : Nat) (x : List UInt8) : (ovr l a x).length = max l.length (a + x.length) := by
  unfold ovr; rw [lay_length, fit_length]

set_option maxHeartbeats 400000 in
theorem over_ok (v xv : Value) (l x : List UInt8) (a : Nat) (ai : Int) (hai : ai = (a : Int)) (w : World) (hb : Bs w v l) (hx : Bs w xv x) (hx0 : 0 < x.length) (hf : a + x.length ≤ 4096) (hl : l.length ≤ 4096) :
    Calls Try.prog 29 #[v, .int .u64 ai, xv] w (RetE w (ovr l a x) 0) := by
  subst hai
  have HB := Lib.hid hb
  have HX := Lib.hid hx
  obtain ⟨A, c, rfl, h1, h2, h3⟩ := hb
  obtain ⟨A', c', rfl, h1', h2', h3'⟩ := hx
  unfold maxLen at h2' h2
  clear h3 h3'
  have hne : ((x.length : Int) == 0) = false := beq_eq_false_iff_ne.2 (by omega)
  go_enter Try.func29, Try.ntmps29
  go_wp2_with fail
  refine (fits_any _ 2 _ [a, x.length] _ rfl (by omega) ?_).mono ?_
  · intro i hi
    rcases (show i = 0 ∨ i = 1 by omega) with rfl | rfl <;> simp [go_sem]
  rintro e w' ⟨rfl, rfl⟩
  have hfit : fitsB 4096 [a, x.length] = true := by simp [fitsB]; omega
  rw [hfit]
  clear hfit
  go_wp2_with fail
  refine (fits_any _ 1 _ [l.length] _ rfl (by omega) ?_).mono ?_
  · intro i hi
    obtain rfl : i = 0 := by omega
    simp [go_sem]
  rintro e w' ⟨rfl, rfl⟩
  have hfit : fitsB 4096 [l.length] = true := by simp [fitsB]; omega
  rw [hfit]
  clear hfit
  go_wp2_with fail
  all_goals
    refine (grown_any _ l (max l.length (a + x.length)) _ (by omega) _ (HB.out.ext (((Ext.refl w).alloc _).alloc _)) (by omega)).mono ?_
    rintro e w2 ⟨rfl, hr2, he2⟩
    have HE2 := Lib.hid ((((Ext.refl w).alloc _).alloc _).trans he2)
    simp only [World.size_alloc] at hr2
    have HR2 := Lib.hid hr2
    clear hr2 he2
    go_wp2_with fail
    refine (put_any _ _ _ (by rw [fit_length]) a _ rfl _ x w w2 HR2.out HX.out HE2.out (by omega) (by omega) (by omega) (by rw [fit_length]; simp [maxLen]; omega)).mono ?_
    rintro e w3 ⟨rfl, hr3, hg3⟩
    have HR3 := Lib.hid hr3
    have HE3 := Lib.hid (HE2.out.grown hg3 (by omega))
    clear hr3 hg3
    go_wp2_with fail
    go_ret2
    have hown := HR3.out.own (base := w.heap.size) (by omega) (by rw [lay_length, fit_length]; simp [maxLen]; omega)
    rw [lay_length, fit_length] at hown
    exact ⟨_, rfl, hown, HE3.out⟩

/-- What Window, Ahead, Behind, Over answer: the row, and the error's number. -/
def winS (l : List UInt8) (fr : Nat) (n : Int) : List UInt8 × Int := if n < 0 then ([], 2) else if 4096 < n then ([], 3) else (win l fr n.toNat, 0)
def ahdS (l : List UInt8) (n : Int) : List UInt8 × Int := if n < l.length then ([], 2) else if 4096 < n then ([], 3) else (ahd l n.toNat, 0)
def bhdS (l : List UInt8) (n : Int) : List UInt8 × Int := if n < l.length then ([], 2) else if 4096 < n then ([], 3) else (fit l n.toNat, 0)
def ovrS (l : List UInt8) (a : Nat) (x : List UInt8) : List UInt8 × Int := if x.length = 0 then (l, 0) else if 4096 < a + x.length ∨ 4096 < l.length then ([], 3) else (ovr l a x, 0)

theorem retE_none {w w' : World} {c : Int} {e : Ending} (h : e = .returned (.tuple #[.slice none 0 0, .int .i64 c]) ∧ Ext w w') : RetE w [] c e w' := ⟨_, h.1, own_nil _ _ _, h.2⟩
theorem ahd_length (l : List UInt8) (n : Nat) (h : l.length ≤ n) : (ahd l n).length = n := by simp [ahd]; omega

theorem window_any (v : Value) (l : List UInt8) (fr : Nat) (fi ni : Int) (hfi : fi = (fr : Int)) (w : World) (hb : Bs w v l) (hl : l.length ≤ 4294967296) (hf : fr < 18446744073709551616) (hn : ni ≤ 9223372036854775807) :
    Calls Try.prog 12 #[v, .int .u64 fi, .int .i64 ni] w (RetE w (winS l fr ni).1 (winS l fr ni).2) := by
  unfold winS
  by_cases h0 : ni < 0
  · rw [if_pos h0]
    exact (window_neg v l fi ni w hb h0).mono fun _ _ h => retE_none h
  · rw [if_neg h0]
    by_cases h1 : 4096 < ni
    · rw [if_pos h1]
      exact (window_long v l ni.toNat fi ni (by omega) w hb (by omega) (by omega)).mono fun _ _ h => retE_none h
    · rw [if_neg h1]
      refine (window_ok v l fr ni.toNat fi ni hfi (by omega) w hb hl (by omega) hf).mono fun e w' ⟨he, hr, hx⟩ => ⟨_, he, ?_, hx⟩
      have hown := hr.own (base := w.heap.size) (by omega) (by unfold win; rw [fit_length]; simp [maxLen]; omega)
      unfold win at hown
      rw [fit_length] at hown
      exact hown

theorem ahead_any (v : Value) (l : List UInt8) (ni : Int) (w : World) (hb : Bs w v l) (hn : ni ≤ 9223372036854775807) :
    Calls Try.prog 20 #[v, .int .i64 ni] w (RetE w (ahdS l ni).1 (ahdS l ni).2) := by
  unfold ahdS
  by_cases h0 : ni < l.length
  · rw [if_pos h0]
    exact (ahead_arg v l ni w hb h0).mono fun _ _ h => retE_none h
  · rw [if_neg h0]
    by_cases h1 : 4096 < ni
    · rw [if_pos h1]
      exact (ahead_long v l ni.toNat ni (by omega) w hb (by omega) (by omega) (by omega)).mono fun _ _ h => retE_none h
    · rw [if_neg h1]
      refine (ahead_ok v l ni.toNat ni (by omega) w hb (by omega) (by omega)).mono fun e w' ⟨he, hr, hx⟩ => ⟨_, he, ?_, hx⟩
      have hown := hr.own (base := w.heap.size) (by omega) (by rw [ahd_length _ _ (by omega)]; simp [maxLen]; omega)
      rw [ahd_length _ _ (by omega)] at hown
      exact hown

theorem behind_any (v : Value) (l : List UInt8) (ni : Int) (w : World) (hb : Bs w v l) (hn : ni ≤ 9223372036854775807) :
    Calls Try.prog 21 #[v, .int .i64 ni] w (RetE w (bhdS l ni).1 (bhdS l ni).2) := by
  unfold bhdS
  by_cases h0 : ni < l.length
  · rw [if_pos h0]
    exact (behind_arg v l ni w hb h0).mono fun _ _ h => retE_none h
  · rw [if_neg h0]
    by_cases h1 : 4096 < ni
    · rw [if_pos h1]
      exact (behind_long v l ni.toNat ni (by omega) w hb (by omega) (by omega) (by omega)).mono fun _ _ h => retE_none h
    · rw [if_neg h1]
      refine (behind_ok v l ni.toNat ni (by omega) w hb (by omega) (by omega)).mono fun e w' ⟨he, hr, hx⟩ => ⟨_, he, ?_, hx⟩
      have hown := hr.own (base := w.heap.size) (by omega) (by rw [fit_length]; simp [maxLen]; omega)
      rw [fit_length] at hown
      exact hown

theorem over_any (v xv : Value) (l x : List UInt8) (a : Nat) (ai : Int) (hai : ai = (a : Int)) (w : World) (hb : Bs w v l) (hx : Bs w xv x) (hl : l.length ≤ 4294967296) (ha : a < 18446744073709551616) :
    Calls Try.prog 29 #[v, .int .u64 ai, xv] w (RetE w (ovrS l a x).1 (ovrS l a x).2) := by
  unfold ovrS
  by_cases h0 : x.length = 0
  · rw [if_pos h0]
    obtain rfl : x = [] := List.eq_nil_of_length_eq_zero h0
    exact over_none v xv l ai w hb hx hl
  · rw [if_neg h0]
    by_cases h1 : 4096 < a + x.length
    · rw [if_pos (.inl h1)]
      exact over_far v xv l x a ai hai w hb hx (by omega) ha h1
    · by_cases h2 : 4096 < l.length
      · rw [if_pos (.inr h2)]
        exact over_long v xv l x a ai hai w hb hx (by omega) (by omega) h2
      · rw [if_neg (by omega)]
        exact over_ok v xv l x a ai hai w hb hx (by omega) (by omega) (by omega)

theorem bareB_any (v : Value) (l : List UInt8) (w : World) (hb : Bs w v l) (hl : l.length ≤ 140737488355328) :
    Calls Try.prog 16 #[v] w (RetB w (bare l)) :=
  (bare_any v l w hb hl).mono fun _ _ ⟨he, hr, hx⟩ => ⟨_, he, hr.own (Nat.le_refl _) (by have := bare_le l; simp [maxLen]; omega), hx⟩
end Go.Proofs.Ytllcmeihogcckaa
