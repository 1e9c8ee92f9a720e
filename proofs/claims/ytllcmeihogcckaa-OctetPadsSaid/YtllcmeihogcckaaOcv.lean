/- Contracts of package octet: refusals; Bare, Over, Put64, U64. -/
import Derived.Test.YtllcmeihogcckaaOcu
namespace Go.Proofs.Ytllcmeihogcckaa
open Go.RowKit

set_option maxHeartbeats 400000 in
theorem ahead_arg (v : Value) (l : List UInt8) (ni : Int) (w : World) (hb : Bs w v l) (hn : ni < (l.length : Int)) :
    Calls Try.prog 20 #[v, .int .i64 ni] w fun e w' => e = .returned (.tuple #[.slice none 0 0, .int .i64 2]) ∧ Ext w w' := by
  obtain ⟨A, c, rfl, h1, h2, h3⟩ := hb
  clear h1 h2 h3
  have hd2 : decide (ni < (l.length : Int)) = true := by simp; omega
  go_enter Try.func20, Try.ntmps20
  go_wp2_with fail
  go_ret2
  exact ⟨rfl, ((Ext.refl w).alloc _).alloc _⟩

set_option maxHeartbeats 400000 in
theorem behind_arg (v : Value) (l : List UInt8) (ni : Int) (w : World) (hb : Bs w v l) (hn : ni < (l.length : Int)) :
    Calls Try.prog 21 #[v, .int .i64 ni] w fun e w' => e = .returned (.tuple #[.slice none 0 0, .int .i64 2]) ∧ Ext w w' := by
  obtain ⟨A, c, rfl, h1, h2, h3⟩ := hb
  clear h1 h2 h3
  have hd2 : decide (ni < (l.length : Int)) = true := by simp; omega
  go_enter Try.func21, Try.ntmps21
  go_wp2_with fail
  go_ret2
  exact ⟨rfl, (Ext.refl w).alloc _⟩

set_option maxHeartbeats 400000 in
theorem ahead_long (v : Value) (l : List UInt8) (n : Nat) (ni : Int) (hni : ni = (n : Int)) (w : World) (hb : Bs w v l) (hn : 4096 < n) (hm : n ≤ 9223372036854775807) (hln : l.length ≤ n) :
    Calls Try.prog 20 #[v, .int .i64 ni] w fun e w' => e = .returned (.tuple #[.slice none 0 0, .int .i64 3]) ∧ Ext w w' := by
  subst hni
  obtain ⟨A, c, rfl, h1, h2, h3⟩ := hb
  clear h1 h2 h3
  have hd : decide ((n : Int) < 0) = false := by simp
  have hd2 : decide (n < l.length) = false := by simp; omega
  go_enter Try.func20, Try.ntmps20
  go_wp2_with (go_at_call 34; go_in)
  refine (fits_any _ 1 _ [n] _ rfl (by omega) ?_).mono ?_
  · intro i hi
    obtain rfl : i = 0 := by omega
    simp [go_sem]
  rintro e w' ⟨rfl, rfl⟩
  have hfit : fitsB 4096 [n] = false := by simp [fitsB]; omega
  rw [hfit]
  clear hfit
  go_wp2_with fail
  go_ret2
  exact ⟨rfl, (((Ext.refl w).alloc _).alloc _).alloc _⟩

set_option maxHeartbeats 400000 in
theorem behind_long (v : Value) (l : List UInt8) (n : Nat) (ni : Int) (hni : ni = (n : Int)) (w : World) (hb : Bs w v l) (hn : 4096 < n) (hm : n ≤ 9223372036854775807) (hln : l.length ≤ n) :
    Calls Try.prog 21 #[v, .int .i64 ni] w fun e w' => e = .returned (.tuple #[.slice none 0 0, .int .i64 3]) ∧ Ext w w' := by
  subst hni
  obtain ⟨A, c, rfl, h1, h2, h3⟩ := hb
  clear h1 h2 h3
  have hd : decide ((n : Int) < 0) = false := by simp
  have hd2 : decide (n < l.length) = false := by simp; omega
  go_enter Try.func21, Try.ntmps21
  go_wp2_with (go_at_call 34; go_in)
  refine (fits_any _ 1 _ [n] _ rfl (by omega) ?_).mono ?_
  · intro i hi
    obtain rfl : i = 0 := by omega
    simp [go_sem]
  rintro e w' ⟨rfl, rfl⟩
  have hfit : fitsB 4096 [n] = false := by simp [fitsB]; omega
  rw [hfit]
  clear hfit
  go_wp2_with fail
  go_ret2
  exact ⟨rfl, ((Ext.refl w).alloc _).alloc _⟩

/-- Without the noughts that it begins with. -/
def bare (l : List UInt8) : List UInt8 := l.dropWhile (· == 0)
theorem bare_step (l : List UInt8) (k : Nat) (hk : k < l.length) : bare (l.drop k) = if l.getD k 0 == 0 then bare (l.drop (k + 1)) else l.drop k := by
  unfold bare
  have e : l.getD k 0 = l[k] := by simp [List.getD, List.getElem?_eq_getElem hk]
  rw [e, List.drop_eq_getElem_cons hk, List.dropWhile_cons]
theorem bare_le (l : List UInt8) : (bare l).length ≤ l.length := by
  have := (List.dropWhile_suffix (l := l) (· == 0)).length_le
  exact this
theorem fit_self (l : List UInt8) (n : Nat) (h : n = l.length) : fit l n = l := by
  subst h
  simp [fit]

set_option maxHeartbeats 800000 in
theorem bare_any (v : Value) (l : List UInt8) (w : World) (hb : Bs w v l) (hl : l.length ≤ 140737488355328) :
    Calls Try.prog 16 #[v] w fun e w' => e = .returned (.slice (some ⟨w.heap.size, 0, none⟩) (bare l).length (bare l).length) ∧ Row w' w.heap.size 5 (bare l) ∧ Ext w w' := by
  have HB := Lib.hid hb
  obtain ⟨A, c, rfl, h1, h2, h3⟩ := hb
  unfold maxLen at h2
  have fin : ∀ (v' : Value) (ni : Int), Bs w v' (bare l) → ni = ((bare l).length : Int) →
      Calls Try.prog 38 #[v', .int .i64 ni] w fun e w' => e = .returned (.slice (some ⟨w.heap.size, 0, none⟩) (bare l).length (bare l).length) ∧ Row w' w.heap.size 5 (bare l) ∧ Ext w w' := by
    intro v' ni hB hni
    subst hni
    refine (grown_any _ _ (bare l).length _ rfl w hB (by have := bare_le l; omega)).mono ?_
    rintro e w' ⟨rfl, hr, he⟩
    rw [fit_self _ _ rfl] at hr
    exact ⟨rfl, hr, he⟩
  have FIN := Lib.hid fin
  clear fin
  go_enter Try.func16, Try.ntmps16
  go_wp2
  go_loop [3] (fun i => ∃ k : Nat, k ≤ l.length ∧ i = .int .i64 k ∧ Hid (bare l = bare (l.drop k))) (fun i => l.length - (intOf i).toNat)
  case atStart => exact ⟨0, Nat.zero_le _, rfl, rfl⟩
  case round =>
    obtain ⟨k, hk, rfl, HF⟩ := hrel
    by_cases hlt : k < l.length
    · have HS := Lib.hid (bare_step l k hlt)
      obtain ⟨b, o, rfl, hc⟩ := h3 (by omega)
      have hck := hc k hlt
      unfold bv at hck
      clear hc h3
      generalize l.getD k 0 = x at *
      by_cases hx0 : x = 0
      · subst hx0
        go_wp2
        go_round
        case rel => exact ⟨k + 1, by omega, by go_num, by show _ = _; rw [HF.out, HS.out]; rfl⟩
        case measure => simp [intOf]; omega
      · have hn : ((x.toNat : Int) == 0) = false := by
          rw [beq_eq_false_iff_ne]
          intro h
          exact hx0 (UInt8.toNat_inj.1 (by simpa using h))
        have hkc : k < c := by omega
        go_wp2_with fail
        have hbk : bare l = l.drop k := by rw [HF.out, HS.out]; simp [hx0]
        refine (FIN.out _ _ ?_ ?_).mono ?_
        · rw [hbk]
          have := HB.out.dropLt k hk hkc
          simpa [Go.WideShapes.add_plain] using this
        · rw [hbk]
          simp
          omega
        clear hbk
        rintro e w' ⟨rfl, hr, he⟩
        have HR := Lib.hid hr
        have HE := Lib.hid he
        clear hr he
        go_wp2_with fail
        go_ret
        exact ⟨rfl, HR.out, HE.out⟩
    · have hbk : bare l = [] := by
        rw [HF.out, List.drop_of_length_le (by omega)]
        rfl
      have HBK := Lib.hid hbk
      clear hbk
      obtain rfl : k = l.length := by omega
      go_wp2_with fail
      all_goals refine (FIN.out _ _ ?_ ?_).mono ?_
      all_goals first
        | (rw [HBK.out]; exact Bs.empty _ _ _ _ (by omega) (by unfold maxLen; omega))
        | (rw [HBK.out]; simp; done)
        | (rintro e w' ⟨rfl, hr, he⟩
           have HR := Lib.hid hr
           have HE := Lib.hid he
           clear hr he
           go_wp2_with fail
           go_ret
           exact ⟨rfl, HR.out, HE.out⟩)
end Go.Proofs.Ytllcmeihogcckaa
