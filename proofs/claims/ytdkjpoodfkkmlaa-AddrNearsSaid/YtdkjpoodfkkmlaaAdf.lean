/- Near of the document. -/
import Derived.Test.YtdkjpoodfkkmlaaAdc
namespace Go.Proofs.Ytdkjpoodfkkmlaa
open Go.RowKit

/-- The cells of a word to which one is being added, k limbs of it gone round. -/
def nxC (t k : Nat) : Array Value := #[lv (if 0 < k then 0 else lb t 0), lv (if 1 < k then 0 else lb t 1), lv (if 2 < k then 0 else lb t 2), lv (if 3 < k then 0 else lb t 3)]
set_option maxRecDepth 100000 in
theorem nxC_zero (t : Nat) : nxC t 0 = wc t := rfl
set_option maxRecDepth 100000 in
theorem nxC_get (t k : Nat) (hk : k < 4) : (nxC t k)[k]? = some (lv (lb t k)) := by
  match k, hk with
  | 0, _ => rfl
  | 1, _ => rfl
  | 2, _ => rfl
  | 3, _ => rfl
set_option maxRecDepth 100000 in
theorem nxC_none (t k : Nat) (hk : k < 4) : (nxC t k).setIfInBounds k (lv 0) = nxC t (k + 1) := by
  match k, hk with
  | 0, _ => rfl
  | 1, _ => rfl
  | 2, _ => rfl
  | 3, _ => rfl
set_option maxRecDepth 100000 in
theorem nxC_up (t k : Nat) (hk : k < 4) (ht : t < M256) (hm : ∀ j, j < k → lb t j = 18446744073709551615) (hn : lb t k ≠ 18446744073709551615) : (nxC t k).setIfInBounds k (lv (lb t k + 1)) = wc (t + 1) ∧ t + 1 < M256 := by
  have h0 := lb_lt t 0
  have h1 := lb_lt t 1
  have h2 := lb_lt t 2
  have h3 := lb_lt t 3
  have e := ofL_lb t ht
  unfold nxC
  match k, hk with
  | 0, _ =>
    generalize lb t 0 = a at *
    generalize lb t 1 = b at *
    generalize lb t 2 = c at *
    generalize lb t 3 = d at *
    have e2 : t + 1 = ofL (a + 1) b c d := by rw [← e]; unfold ofL; omega
    rw [e2, wc_ofL (a + 1) b c d (by omega) h1 h2 h3]
    exact ⟨rfl, ofL_lt _ _ _ _ (by omega) h1 h2 h3⟩
  | 1, _ =>
    have g0 := hm 0 (by omega)
    generalize lb t 0 = a at *
    generalize lb t 1 = b at *
    generalize lb t 2 = c at *
    generalize lb t 3 = d at *
    have e2 : t + 1 = ofL 0 (b + 1) c d := by rw [← e, g0]; unfold ofL; omega
    rw [e2, wc_ofL 0 (b + 1) c d (by omega) (by omega) h2 h3]
    exact ⟨rfl, ofL_lt _ _ _ _ (by omega) (by omega) h2 h3⟩
  | 2, _ =>
    have g0 := hm 0 (by omega)
    have g1 := hm 1 (by omega)
    generalize lb t 0 = a at *
    generalize lb t 1 = b at *
    generalize lb t 2 = c at *
    generalize lb t 3 = d at *
    have e2 : t + 1 = ofL 0 0 (c + 1) d := by rw [← e, g0, g1]; unfold ofL; omega
    rw [e2, wc_ofL 0 0 (c + 1) d (by omega) (by omega) (by omega) h3]
    exact ⟨rfl, ofL_lt _ _ _ _ (by omega) (by omega) (by omega) h3⟩
  | 3, _ =>
    have g0 := hm 0 (by omega)
    have g1 := hm 1 (by omega)
    have g2 := hm 2 (by omega)
    generalize lb t 0 = a at *
    generalize lb t 1 = b at *
    generalize lb t 2 = c at *
    generalize lb t 3 = d at *
    have e2 : t + 1 = ofL 0 0 0 (d + 1) := by rw [← e, g0, g1, g2]; unfold ofL; omega
    rw [e2, wc_ofL 0 0 0 (d + 1) (by omega) (by omega) (by omega) (by omega)]
    exact ⟨rfl, ofL_lt _ _ _ _ (by omega) (by omega) (by omega) (by omega)⟩
set_option maxRecDepth 100000 in
theorem nxC_all (t : Nat) (ht : t < M256) (hm : ∀ j, j < 4 → lb t j = 18446744073709551615) : t + 1 = M256 := by
  have e := ofL_lb t ht
  rw [hm 0 (by omega), hm 1 (by omega), hm 2 (by omega), hm 3 (by omega)] at e
  rw [← e]
  rfl
set_option maxRecDepth 100000 in
theorem near_step (a b i : Nat) (h : a ≠ b + i) : (decide (b + i ≤ a ∧ a < b + 128)) = decide (b + (i + 1) ≤ a ∧ a < b + 128) := by
  rw [decide_eq_decide]
  omega
set_option maxRecDepth 100000 in
theorem wrap_up (x : Nat) (hx : x < 18446744073709551616) : IntKind.u64.wrap ((x : Int) + 1) = ((if x = 18446744073709551615 then 0 else x + 1 : Nat) : Int) := by
  split
  · rename_i h
    subst h
    rfl
  · rw [IntWalk.u64_in _ (by omega)]
    omega

set_option maxRecDepth 100000 in
set_option maxHeartbeats 4000000 in
theorem refNear_any (a b : Nat) (w : World) (ha : a < M256) (hb : b < M256) : Calls Try.prog 40 #[wv a, wv b] w fun e w' => e = .returned (.bool (nearB a b)) ∧ Ext w w' := by
  have HA := Lib.hid ha
  have HS : Ks w [(w.heap.size, a), (w.heap.size + 1, b)] ((w.alloc (.cells (wc a) 46)).alloc (.cells (wc b) 46)) :=
    ⟨fun x hx => by
      simp only [List.mem_cons, List.not_mem_nil, or_false] at hx
      rcases hx with rfl | rfl
      · exact (Cs.new _ _ _ _ rfl).alloc _
      · exact Cs.new _ _ _ _ (by simp), ((Ext.refl w).alloc _).alloc _⟩
  have HK := Lib.hid HS
  clear HS ha
  unfold wv
  go_enter Try.func40, Try.ntmps40
  go_wp2_with fail
  go_loopw [5, 6, 7, 8, 9, 10, 11, 12, 13, 14, 15, 16, 17, 18, 19, 20, 21, 22, 23, 24, 25, 26, 27, 28, 29, 30, 31, 32] (fun u _ _ _ _ _ _ _ _ _ _ _ _ _ _ _ _ _ _ _ _ _ _ _ _ _ _ _ wr => ∃ i : Nat, i ≤ 128 ∧ u = .int .i64 i ∧ b + i < M256 ∧ nearB a b = decide (b + i ≤ a ∧ a < b + 128) ∧ Hid (Ks w [(w.heap.size, a), (w.heap.size + 1, b + i)] wr)) (fun u _ _ _ _ _ _ _ _ _ _ _ _ _ _ _ _ _ _ _ _ _ _ _ _ _ _ _ _ => 128 - (intOf u).toNat)
  case atStart => exact ⟨0, by omega, rfl, hb, rfl, HK⟩
  case round =>
    clear HK hb
    obtain ⟨i, hi, rfl, hbi, hnb, HK⟩ := hrel
    by_cases hlt : i < 128
    · have HS := HK.out
      have hd : decide ((i : Int) < 128) = true := by simp; omega
      have HBI := Lib.hid hbi
      by_cases heq : a = b + i
      · have hq : (a == b + i) = true := by simp [heq]
        have HN := Lib.hid (show nearB a b = true by rw [hnb]; simp; omega)
        clear heq hnb hbi
        go_wp2_with (first
          | ((with_reducible refine wpList_load_wordG ?_ 46 44 (.tmp 2) rfl Try.underlying46 winfo (w.heap.size) (a) ?_ ?_ ?_); (exact rfl); (exact rfl); (exact HS.at (w.heap.size) (a) (by simp)))
          | ((with_reducible refine wpList_load_wordG ?_ 46 44 (.tmp 3) rfl Try.underlying46 winfo (w.heap.size + 1) (b + i) ?_ ?_ ?_); (exact rfl); (exact rfl); (exact HS.at (w.heap.size + 1) (b + i) (by simp)))
          | ((with_reducible refine wpList_eql_word ?_ (.tmp 12) (.tmp 13) rfl (a) (b + i) (HA.out) (HBI.out) ?_ ?_ ?_); (exact rfl); (exact rfl); (exact rfl); rw [hq]))
        go_ret
        exact ⟨by rw [HN.out]; rfl, HK.out.2⟩
      · have hq : (a == b + i) = false := by simp [heq]
        have HST := Lib.hid (hnb.trans (near_step a b i heq))
        clear heq hnb hbi
        go_wp2_with (first
          | ((with_reducible refine wpList_load_wordG ?_ 46 44 (.tmp 2) rfl Try.underlying46 winfo (w.heap.size) (a) ?_ ?_ ?_); (exact rfl); (exact rfl); (exact HS.at (w.heap.size) (a) (by simp)))
          | ((with_reducible refine wpList_load_wordG ?_ 46 44 (.tmp 3) rfl Try.underlying46 winfo (w.heap.size + 1) (b + i) ?_ ?_ ?_); (exact rfl); (exact rfl); (exact HS.at (w.heap.size + 1) (b + i) (by simp)))
          | ((with_reducible refine wpList_eql_word ?_ (.tmp 12) (.tmp 13) rfl (a) (b + i) (HA.out) (HBI.out) ?_ ?_ ?_); (exact rfl); (exact rfl); (exact rfl); rw [hq])
          | ((with_reducible refine wpList_store_word rfl rfl 46 (.tmp 6) (.tmp 15) rfl winfo (wr.heap.size) (wc 0) (b + i) ?_ ?_ ?_ ?_ ?_); (exact rfl); (exact rfl); (exact heap_alloc_new _ _); (exact rfl); intro w3 kz gz; have HS := HS.put gz kz; clear kz gz))
        have H6 : Hid (Cs w3 wr.heap.size 46 (nxC (b + i) 0)) := HS.1 _ List.mem_cons_self
        have HK3 : Hid (Ks w [(w.heap.size, a), (w.heap.size + 1, b + i)] w3) := HS.sub _ (fun x hx => List.mem_cons_of_mem _ hx)
        have hsz := HK.out.2.size
        have hg0 := HK.out.lt (g := w.heap.size) (n := a) (by simp)
        have hg1 := HK.out.lt (g := w.heap.size + 1) (n := b + i) (by simp)
        clear HS HK hq hd
        generalize wr.heap.size = g6 at *
        go_loopw [7, 16, 17, 18, 19, 20, 21, 22, 23, 24, 25, 26, 27, 28, 29] (fun u _ _ _ _ _ _ _ _ _ _ _ _ _ _ wq => ∃ k : Nat, k ≤ 4 ∧ u = .int .i64 k ∧ Hid (∀ j, j < k → lb (b + i) j = 18446744073709551615) ∧ Hid (Cs wq g6 46 (nxC (b + i) k)) ∧ Hid (Ks w [(w.heap.size, a), (w.heap.size + 1, b + i)] wq)) (fun u _ _ _ _ _ _ _ _ _ _ _ _ _ _ _ => 4 - (intOf u).toNat)
        case atStart => exact ⟨0, by omega, rfl, Lib.hid (fun j hj => absurd hj (by omega)), H6, HK3⟩
        case round =>
          clear H6 HK3
          obtain ⟨k, hk, rfl, HM, H6, HK3⟩ := hrel
          by_cases hk4 : k < 4
          · have hd : decide ((k : Int) < 4) = true := by simp; omega
            have hc := H6.out.cell k _ (nxC_get (b + i) k hk4)
            have hfz := H6.out.frozen k
            have hlb := lb_lt (b + i) k
            unfold lv at hc
            have a1 : (0 : Int) ≤ (k : Int) := by omega
            have a2 : (k : Int) < 4 := by omega
            have HW := Lib.hid (wrap_up (lb (b + i) k) hlb)
            by_cases hmax : lb (b + i) k = 18446744073709551615
            · have hw : IntKind.u64.wrap ((lb (b + i) k : Int) + 1) = 0 := by
                have := HW.out
                rwa [if_pos hmax] at this
              have H6' := Lib.hid (show Cs (wr.setCell ⟨g6, k, none⟩ (.int .u64 0)) g6 46 (nxC (b + i) (k + 1)) by rw [← nxC_none _ _ hk4]; exact H6.out.set k _)
              have HK' := Lib.hid (HK3.out.far (grown_set wr g6 k (.int .u64 0)) hsz (fun x hx => by
                simp only [List.mem_cons, List.not_mem_nil, or_false] at hx
                rcases hx with rfl | rfl <;> (dsimp only; omega)))
              have HM' := Lib.hid (show ∀ j, j < k + 1 → lb (b + i) j = 18446744073709551615 from fun j hj => by
                by_cases h : j = k
                · rw [h]; exact hmax
                · exact HM.out j (by omega))
              clear HW hmax hlb H6 HK3 HM
              generalize lb (b + i) k = x at *
              go_wp2_with fail
              exact ⟨⟨k + 1, by omega, by go_num, HM', H6', HK'⟩, by simp [intOf]; omega⟩
            · have hw : IntKind.u64.wrap ((lb (b + i) k : Int) + 1) = ((lb (b + i) k + 1 : Nat) : Int) := by
                have := HW.out
                rwa [if_neg hmax] at this
              obtain ⟨hup, hup2⟩ := nxC_up (b + i) k hk4 HBI.out HM.out hmax
              have H6' := Lib.hid (show Wd (wr.setCell ⟨g6, k, none⟩ (.int .u64 ((lb (b + i) k + 1 : Nat) : Int))) g6 46 (b + i + 1) by
                have := H6.out.set k (lv (lb (b + i) k + 1))
                rw [hup] at this
                exact this)
              have HK' := Lib.hid (HK3.out.far (grown_set wr g6 k (.int .u64 ((lb (b + i) k + 1 : Nat) : Int))) hsz (fun x hx => by
                simp only [List.mem_cons, List.not_mem_nil, or_false] at hx
                rcases hx with rfl | rfl <;> (dsimp only; omega)))
              have HU2 := Lib.hid hup2
              have hnz : (((lb (b + i) k + 1 : Nat) : Int) != 0) = true := by simp; omega
              have hd4 : ((k : Int) == 4) = false := by simp; omega
              clear HW hmax hlb H6 HK3 HM hup hup2
              generalize lb (b + i) k + 1 = y at *
              generalize lb (b + i) k = x at *
              go_wp2_with (first
                | ((with_reducible refine wpList_load_wordG ?_ 46 44 (.tmp 6) rfl Try.underlying46 winfo g6 (b + i + 1) ?_ ?_ ?_); (exact rfl); (exact rfl); (exact H6'.out))
                | ((with_reducible refine wpList_store_word rfl rfl 46 (.tmp 3) (.tmp 32) rfl winfo (w.heap.size + 1) (wc (b + i)) (b + i + 1) ?_ ?_ ?_ ?_ ?_); (exact rfl); (exact rfl); (exact (HK'.out.at (w.heap.size + 1) (b + i) (by simp)).cs); (exact rfl); intro w5 k5 g5; have K5 : Hid (Ks w [(w.heap.size, a), (w.heap.size + 1, b + (i + 1))] w5) := Lib.hid (Ks.two (l := []) ⟨fun x hx => absurd hx (by simp), HK'.out.2.grown g5 (by omega)⟩ ((HK'.out.at w.heap.size a (by simp)).kept g5 (some_ne (by omega))) k5); clear k5 g5))
              exact ⟨⟨i + 1, by omega, by go_num, HU2.out, HST.out, K5⟩, by simp [intOf]; omega⟩
          · obtain rfl : k = 4 := by omega
            have HN := Lib.hid (nxC_all (b + i) HBI.out HM.out)
            clear H6
            go_wp2_with fail
            go_ret
            refine ⟨?_, HK3.out.2⟩
            have hf : nearB a b = false := by
              have h1 := HA.out
              have h2 := HN.out
              rw [HST.out]
              simp
              omega
            rw [hf]
            rfl
    · obtain rfl : i = 128 := by omega
      have HN := Lib.hid (show nearB a b = false by rw [hnb, decide_eq_false_iff_not]; omega)
      clear hnb hbi
      go_wp2_with fail
      go_ret
      exact ⟨by rw [HN.out]; rfl, HK.out.2⟩
end Go.Proofs.Ytdkjpoodfkkmlaa
