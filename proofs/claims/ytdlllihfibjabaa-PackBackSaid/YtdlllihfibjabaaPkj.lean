/- Package pack: next. -/
import Derived.Test.YtdlllihfibjabaaPki
namespace Go.Proofs.Ytdlllihfibjabaa
open Go.RowKit Go.Shelf

/-- What is left of a slice behind its first n elements. -/
def behV (A : Option Addr) (m c n : Nat) : Value := .slice (if c = n then A else A.map (·.add n)) (m - n) (c - n)
set_option maxRecDepth 100000 in
theorem next_no (g : Nat) (A : Option Addr) (m c n : Nat) (w : World) (hc : w.cell? ⟨g, 0, none⟩ = some (.slice A m c)) (hn : m < n) (_hm : n ≤ 1000000000000) :
    Calls Try.prog 68 #[.pointer (some ⟨g, 0, none⟩), .int .i64 (n : Int)] w fun e w' => e = .returned (.tuple #[.slice none 0 0, .bool false]) ∧ w = w' := by
  have hd : decide ((m : Int) < (n : Int)) = true := decide_eq_true (by omega)
  have hd2 : decide (m < n) = true := decide_eq_true hn
  go_enter Try.func68, Try.ntmps68
  go_wp2_with fail
  exact bodyPost_ret (results_tmp2 rfl _ _ _) rfl ⟨rfl, rfl⟩
set_option maxRecDepth 100000 in
theorem next_yes (g : Nat) (A : Option Addr) (m c n : Nat) (w : World) (hc : w.cell? ⟨g, 0, none⟩ = some (.slice A m c)) (hf : w.frozen? ⟨g, 0, none⟩ = false) (hn : n ≤ m) (hmc : m ≤ c) (_hcm : c ≤ maxLen) :
    Calls Try.prog 68 #[.pointer (some ⟨g, 0, none⟩), .int .i64 (n : Int)] w fun e w' => e = .returned (.tuple #[.slice A n c, .bool true]) ∧ w' = w.setCell ⟨g, 0, none⟩ (behV A m c n) := by

  have hd : decide ((m : Int) < (n : Int)) = false := decide_eq_false (by omega)
  have hd2 : decide (m < n) = false := decide_eq_false (by omega)
  have b1 : (0 : Int) ≤ (n : Int) := by omega
  have b2 : (n : Int) ≤ (m : Int) := by omega
  have b3 : (n : Int) ≤ (c : Int) := by omega
  have b4 : n ≤ c := by omega
  by_cases hcn : c = n
  · have hv : behV A m c n = .slice A (m - n) (c - n) := by unfold behV; rw [if_pos hcn]
    rw [hv]
    have b5 : c - n = 0 := by omega
    subst hcn
    go_enter Try.func68, Try.ntmps68
    go_wp2_with fail
    exact bodyPost_ret (results_tmp2 rfl _ _ _) rfl ⟨rfl, by rw [show m - c = 0 by omega, Nat.sub_self]⟩
  · have hv : behV A m c n = .slice (A.map (·.add n)) (m - n) (c - n) := by unfold behV; rw [if_neg hcn]
    rw [hv]
    have b5 : ¬ c - n = 0 := by omega
    go_enter Try.func68, Try.ntmps68
    go_wp2_with fail
    exact bodyPost_ret (results_tmp2 rfl _ _ _) rfl ⟨rfl, rfl⟩
end Go.Proofs.Ytdlllihfibjabaa
