/- Package access: slices.IndexFunc of what is passing. -/
import Derived.Test.YtjampleddeidaaaAcp
namespace Go.Proofs.Ytjampleddeidaaa
open Go.ChangeShapes Go.WideShapes Go.ChangeAt Go.RowKit Go.Shelf

/-- Where the first one of that number stands. -/
def fxP (l : List Pe) (c : Nat) : Int := if hasX l c then (posX l c : Int) else -1
set_option maxRecDepth 100000 in
theorem fxP_at {l : List Pe} (hr : RiseX l) {c k : Nat} (hk : k < l.length) (h : (l.getD k pz0).cod = c) : fxP l c = (k : Int) := by
  have h1 : hasX l c = true := (hasX_iff hr).2 ⟨_, getX_mem hk, h⟩
  unfold fxP
  rw [if_pos h1, ← h, posX_at hr hk]
set_option maxRecDepth 100000 in
theorem fxP_no {l : List Pe} (hr : RiseX l) {c : Nat} (h : ∀ i, i < l.length → (l.getD i pz0).cod ≠ c) : hasX l c = false := by
  cases hh : hasX l c with
  | false => rfl
  | true =>
    obtain ⟨p, hp, e⟩ := (hasX_iff hr).1 hh
    obtain ⟨i, hi, e2⟩ := memX_get hp
    exact absurd (e2 ▸ e) (h i hi)
set_option maxRecDepth 100000 in
set_option maxHeartbeats 4000000 in
theorem indexP_any (sv : Value) (l : List Pe) (c : Nat) (F : FuncId) (cap : Array Value) (I : World → Prop) (w : World) (hs : XP w sv l) (hr : RiseX l) (hl : l.length ≤ 100000)
    (hF : ∀ (args : Array Value) (u : World), (callFunc F args).run Try.prog u = .ok (.enter F args) u) (hI : I w) (hIe : ∀ W W', I W → Ext W W' → I W')
    (hC : ∀ p W, okP p → I W → Calls Try.prog F (#[.agg (cP p)] ++ cap) W fun e w' => e = .returned (.bool (decide (p.cod = c))) ∧ Ext W w') :
    Calls Try.prog 93 #[sv, .func (.func F) #[] cap] w fun e w' => e = .returned (.int .i64 (fxP l c)) ∧ Ext w w' := by
  have HS := Lib.hid hs
  have HFF := Lib.hid hF
  have HC := Lib.hid hC
  have HII := Lib.hid hI
  have HIE := Lib.hid hIe
  have HAT := Lib.hid (fun k (hk : k < l.length) h => fxP_at (c := c) hr hk h)
  have HNO := Lib.hid (fun h => show fxP l c = -1 by unfold fxP; rw [fxP_no hr h, if_neg Bool.false_ne_true])
  obtain ⟨A1, c1, rfl, h1, h2⟩ := hs.len
  unfold maxLen at h2
  clear hs hF hC hI hIe hr
  go_enter Try.func93, Try.ntmps93
  go_wp2_with fail
  go_loopw [8] (fun iv wr => ∃ k : Nat, k ≤ l.length ∧ iv = .int .i64 k ∧ Hid ((∀ i, i < k → (l.getD i pz0).cod ≠ c) ∧ Ext w wr)) (fun iv _ => l.length - (intOf iv).toNat)
  case atStart => exact ⟨0, by omega, rfl, Lib.hid ⟨fun i hi => absurd hi (by omega), Ext.refl _⟩⟩
  case round =>
    obtain ⟨k, hk, rfl, HJ⟩ := hrel
    by_cases hlt : k < l.length
    · have hd : decide (k < l.length) = true := decide_eq_true hlt
      have hd2 : decide ((k : Int) < (l.length : Int)) = true := decide_eq_true (by omega)
      obtain ⟨bb, oo, rfl, hrg, hpk⟩ := (HS.out.ext HJ.out.2).at k hlt
      have HR := Lib.hid hrg
      have HPK := Lib.hid hpk
      have HF := Lib.hid (fun h => HAT.out k hlt h)
      have HMO := Lib.hid (fun (h : (l.getD k pz0).cod ≠ c) => show ∀ i, i < k + 1 → (l.getD i pz0).cod ≠ c from fun i hi => by
        rcases Nat.lt_or_ge i k with h' | h'
        · exact HJ.out.1 i h'
        · obtain rfl : i = k := by omega
          exact h)
      clear hrg hpk
      generalize l.getD k pz0 = p at *
      go_wp2_with ((with_reducible refine wpList_loadP ?_ (.tmp 14) ?_ bb (oo + k * 9) p ?_ ?_ ?_); (exact rfl); (exact rfl); (exact rfl); (exact HR.out))
      rw [HFF.out, Oper.upon_enter]
      refine (HC.out p wr HPK.out (HIE.out _ _ HII.out HJ.out.2)).mono ?_
      rintro e w2 ⟨rfl, he⟩
      have HE2 := Lib.hid (HJ.out.2.trans he)
      clear he
      by_cases hz : p.cod = c
      · have fz : decide (p.cod = c) = true := decide_eq_true hz
        have HF := Lib.hid (HF.out hz)
        rw [fz]
        clear hz fz
        go_wp2_with fail
        refine bodyPost_ret (results_tmp rfl _ _ _) rfl ?_
        exact ⟨by rw [HF.out]; rfl, HE2.out⟩
      · have fz : decide (p.cod = c) = false := decide_eq_false hz
        have HM := Lib.hid (HMO.out hz)
        rw [fz]
        clear hz fz
        go_wp2_with fail
        exact ⟨⟨k + 1, by omega, by go_num, Lib.hid ⟨HM.out, HE2.out⟩⟩, by simp [intOf]; omega⟩
    · obtain rfl : k = l.length := by omega
      have hd : decide (l.length < l.length) = false := decide_eq_false (by omega)
      have HF := Lib.hid (HNO.out HJ.out.1)
      go_wp2_with fail
      refine bodyPost_ret (results_tmp rfl _ _ _) rfl ?_
      exact ⟨by rw [HF.out]; rfl, HJ.out.2⟩
end Go.Proofs.Ytjampleddeidaaa
