/- The document's own answers of layer 2: Add. -/
import Derived.Test.YtgmmkoahnednfaaRca
import Derived.Test.YtgmmkoahnednfaaRbd
namespace Go.Proofs.Ytgmmkoahnednfaa
open Go.RowKit

/-- A word's block, which at last holds the word r. -/
def Rz (W : World) (g : Nat) (c : Bool) (r : Nat) : Prop := ∃ cs, Cs W g 27 cs ∧ cs.size = 4 ∧ (c = true → cs = wc r)
set_option maxRecDepth 100000 in
theorem Rz.ext {W W' : World} {g : Nat} {c c' : Bool} {r : Nat} (h : Rz W g c r) (he : Ext W W') (hc : c' = true → c = true) : Rz W' g c' r := by
  obtain ⟨cs, h1, h2, h3⟩ := h
  exact ⟨cs, h1.ext he, h2, fun e => h3 (hc e)⟩
set_option maxRecDepth 100000 in
theorem ofN_bitsL (s : Nat) : ofN (bitsL s 257) = s % M256 := by
  refine word_bits (ofN_lt _) (Nat.mod_lt _ (by decide)) fun j hj => ?_
  rw [ofN_tb, bitsL_get, if_pos (by omega), M256_pow, Nat.testBit_mod_two_pow, bitN_tb]
  cases s.testBit j <;> simp [hj]
set_option maxRecDepth 100000 in
theorem top_bit (a b : Nat) (ha : a < M256) (hb : b < M256) : ((bitN (a + b) 256 : Nat) == 1) = ovr a b := by
  unfold bitN ovr
  rw [← M256_pow]
  by_cases h : M256 ≤ a + b
  · have : (a + b) / M256 = 1 := by
      rw [Nat.div_eq_iff (by decide)]
      unfold M256 at *
      omega
    rw [this]
    simp [h]
  · rw [Nat.div_eq_of_lt (by omega)]
    simp [h]

set_option maxRecDepth 100000 in
set_option maxHeartbeats 4000000 in
theorem refAdd_any (a b : Nat) (w : World) (ha : a < M256) (hb : b < M256) :
    Calls Try.prog 15 #[wv a, wv b] w (RetWB w (addN a b) (ovr a b)) := by
  have HA := Lib.hid ha
  have HB := Lib.hid hb
  have HTB := Lib.hid (top_bit a b ha hb)
  have HTI := Lib.hid (show (((bitN (a + b) 256 : Nat) : Int) == 1) = ovr a b by rw [← top_bit a b ha hb]; have := bitN_lt (a + b) 256; rcases (show bitN (a + b) 256 = 0 ∨ bitN (a + b) 256 = 1 by omega) with h | h <;> rw [h] <;> rfl)
  have HSM := Lib.hid (show ofN (bitsL (a + b) 257) = addN a b from ofN_bitsL (a + b))
  have HPA := Lib.hid (show a < 2 ^ 256 by rw [← M256_pow]; exact ha)
  have HPB := Lib.hid (show b < 2 ^ 256 by rw [← M256_pow]; exact hb)
  clear ha hb
  have HS : Ks w [(w.heap.size, a), (w.heap.size + 1, b)] (((w.alloc (.cells (wc a) 27)).alloc (.cells (wc b) 27)).alloc (.cells #[.int .u64 0, .int .u64 0, .int .u64 0, .int .u64 0] 27)) :=
    ⟨fun x hx => by
      simp only [List.mem_cons, List.not_mem_nil, or_false] at hx
      rcases hx with rfl | rfl
      · exact ((Cs.new _ _ _ _ rfl).alloc _).alloc _
      · exact (Cs.new _ _ _ _ (by simp)).alloc _, (((Ext.refl w).alloc _).alloc _).alloc _⟩
  have HZ : Hid (Cs (((w.alloc (.cells (wc a) 27)).alloc (.cells (wc b) 27)).alloc (.cells #[.int .u64 0, .int .u64 0, .int .u64 0, .int .u64 0] 27)) (w.heap.size + 1 + 1) 27 (wc 0)) := Cs.new _ _ _ _ (by simp)
  have HS := HS.drew
  have HZ := Lib.hid (Cs.drew HZ.out)
  unfold wv
  go_enter Try.func15, Try.ntmps15
  go_wp2_with fail
  go_region_held3 (fun w' => (w'.cell? ⟨w.heap.size, 0, none⟩ = some (.int .u64 (lb a 0 : Nat)) ∧ w'.cell? ⟨w.heap.size, 1, none⟩ = some (.int .u64 (lb a 1 : Nat)) ∧ w'.cell? ⟨w.heap.size, 2, none⟩ = some (.int .u64 (lb a 2 : Nat)) ∧ w'.cell? ⟨w.heap.size, 3, none⟩ = some (.int .u64 (lb a 3 : Nat))) ∧ (w'.cell? ⟨w.heap.size + 1, 0, none⟩ = some (.int .u64 (lb b 0 : Nat)) ∧ w'.cell? ⟨w.heap.size + 1, 1, none⟩ = some (.int .u64 (lb b 1 : Nat)) ∧ w'.cell? ⟨w.heap.size + 1, 2, none⟩ = some (.int .u64 (lb b 2 : Nat)) ∧ w'.cell? ⟨w.heap.size + 1, 3, none⟩ = some (.int .u64 (lb b 3 : Nat))))
    (exact ⟨(HS.at _ a (by simp)).f4, (HS.at _ b (by simp)).f4⟩)
    (first
      | (go_at_call 56; have _t := hr1; refine (bitsL_own b _ HB.out).mono ?_; rintro e wy ⟨vy, rfl, ho, he⟩; have hr2 := ho.rs; have hr1 := hr1.ext he; have HS := HS.ext he; have HZ := Lib.hid (Cs.ext HZ.out he); clear ho he)
      | (go_at_call 56; refine (bitsL_own a _ HA.out).mono ?_; rintro e wx ⟨vx, rfl, ho, he⟩; have hr1 := ho.rs; have HS := HS.ext he; have HZ := Lib.hid (Cs.ext HZ.out he); clear ho he)
      | (go_at_call 55; rw [bitsL_len] at hr1 hr2; refine (refadd_any _ _ a b 256 _ hr1 hr2 HPA.out HPB.out (by omega) (by omega)).mono ?_; rintro e wz ⟨vz, rfl, ho, he⟩; have hr3 := ho.rs; have hbs : ∀ k, vz.ownBlock = some k → w.heap.size + 1 + 1 < k := fun k e => Nat.lt_of_lt_of_le HZ.out.lt (World.ownsRow.lt ho k e).1; have HS := HS.ext he; have HZ := Lib.hid (Cs.ext HZ.out he); clear ho he)
      | fail)
  rw [bitsL_len] at hr3
  obtain ⟨_, A, c, hvz, hc1, hc2, hcell⟩ := id hr3
  subst hvz
  obtain ⟨bz, oz, hAz, hcz⟩ := hcell (by omega)
  subst hAz
  have hbz : w.heap.size + 1 + 1 < bz := hbs bz rfl
  have HR := Lib.hid hr3
  have HE := Lib.hid HS.2
  have HC := Lib.hid (show wz.cell? ⟨bz, oz + 256, none⟩ = some (.int .i64 (bitN (a + b) 256 : Nat)) from hcz 256 (iv (bitN (a + b) 256)) (by simp [bitsL]))
  clear hr1 hr2 hr3 HS hcell hcz hbs
  unfold maxLen at hc2
  go_wp2_with fail
  generalize hR : addN a b = R at *
  generalize ho : ovr a b = o at *
  have HRR := Lib.hid hR
  clear hR ho
  refine wp_named fun a0 ha0 => ?_
  obtain ⟨fr, hfr⟩ : ∃ fr : (Nat → Value) → Act, ∀ V, fr V = (((((((a0.put (some 12) (V 0)).put (some 13) (V 1)).put (some 14) (V 2)).put (some 15) (V 3)).put (some 16) (V 4)).put (some 17) (V 5)).put (some 5) (V 7)) := ⟨_, fun _ => rfl⟩
  rw [ha0] at hfr
  simp only [Act.put, List.setIfInBounds_toArray, List.set_cons_zero, List.set_cons_succ] at hfr
  have HFR := Lib.hid hfr
  clear hfr
  refine wp_region_inv (by kernel_rfl) (by kernel_rfl) (fun L A W => ∃ V : Nat → Value, A = fr V ∧ Ext w W ∧ Vals (fun j => ([some ((.slice (some ⟨bz, oz, none⟩) (256 + 1) c)), some (wv R), some (.slice (some ⟨bz, oz, none⟩) (256 + 1) c), some (.pointer (some ⟨bz, oz + 256, none⟩)), some (.int .i64 (bitN (a + b) 256 : Nat)), some (.bool o), none, some (.bool o)] : List (Option Value)).getD j none) L V ∧ Rz W (w.heap.size + 1 + 1) (L 6) R ∧ (L 6 = false → Rs W 1 (.slice (some ⟨bz, oz, none⟩) (256 + 1) c) (256 + 1) ((bitsL (a + b) (256 + 1)).map iv)) ∧ W.cell? ⟨bz, oz + 256, none⟩ = some (.int .i64 (bitN (a + b) 256 : Nat))) ?_ ⟨?_, ?_, ?_, ?_, ?_, ?_, ?_, ?_, trivial⟩ ?_
  · refine ⟨fun j => a0.tmps.getD (([12, 13, 14, 15, 16, 17, 0, 5] : List Nat).getD j 0) undef, ?_, HE.out.drew, Vals.no _ _ _ (far_none _ _ rfl), ⟨_, Cs.drew HZ.out, rfl, fun h => absurd h (by decide)⟩, fun _ => HR.out.ext (Ext.refl _).drew, HC.out⟩
    rw [HFR.out, ha0]
    rfl
  all_goals clear ha0 HZ HC HR HE
  · rintro L A W K hL hC hW ⟨V, rfl, hE, HV, hz, hr, hc⟩ hK
    have H := Lib.hid (hK _ W ⟨upd V 0 ((.slice (some ⟨bz, oz, none⟩) (256 + 1) c)), rfl, hE, HV.up 0 _ (fun x hx => Option.some.inj hx), hz.ext (Ext.refl _) (fun h => more_ne h rfl), fun h => hr (more_no h rfl), hc⟩)
    clear hK hC hW hL HV hz hr hE
    rw [HFR.out]
    go_wp2_with fail
    show K _ _
    have := H.out
    rw [HFR.out] at this
    exact this
  · rintro L A W K hL hC hW ⟨V, rfl, hE, HV, hz, hr, hc⟩ hK
    have e0 : V 0 = .slice (some ⟨bz, oz, none⟩) (256 + 1) c := HV 0 _ rfl (hW 0 rfl)
    have u0 : (upd V 1 (wv R)) 0 = .slice (some ⟨bz, oz, none⟩) (256 + 1) c := e0
    have h6 : L 6 = false := hC.no hL 6 _ rfl rfl
    have HQ := Lib.hid (hr h6)
    have H := Lib.hid (fun (W' : World) (he : Ext W W') => hK _ W' ⟨upd V 1 (wv R), rfl, hE.trans he, HV.up 1 _ (fun x hx => Option.some.inj hx), hz.ext he (fun h => more_ne h rfl), fun h => (hr (more_no h rfl)).ext he, he.cell hc⟩)
    clear hK hC hW hL HV hz hr hE hc h6
    rw [HFR.out]
    rw [e0]
    clear e0
    go_wp2_with fail
    refine (of_bits _ (bitsL (a + b) 257) _ (by rw [bitsL_len]; exact HQ.out) (by rw [bitsL_len]; omega)).mono ?_
    rintro e wx ⟨rfl, he⟩
    rw [HSM.out]
    have := H.out wx he
    clear H he HQ
    go_wp2_with fail
    show K _ _
    rw [HFR.out] at this
    rw [u0] at this
    exact this
  · rintro L A W K hL hC hW ⟨V, rfl, hE, HV, hz, hr, hc⟩ hK
    have H := Lib.hid (hK _ W ⟨upd V 2 (.slice (some ⟨bz, oz, none⟩) (256 + 1) c), rfl, hE, HV.up 2 _ (fun x hx => Option.some.inj hx), hz.ext (Ext.refl _) (fun h => more_ne h rfl), fun h => hr (more_no h rfl), hc⟩)
    clear hK hC hW hL HV hz hr hE
    rw [HFR.out]
    go_wp2_with fail
    show K _ _
    have := H.out
    rw [HFR.out] at this
    exact this
  · rintro L A W K hL hC hW ⟨V, rfl, hE, HV, hz, hr, hc⟩ hK
    have e2 : V 2 = .slice (some ⟨bz, oz, none⟩) (256 + 1) c := HV 2 _ rfl (hW 2 rfl)
    have u2 : (upd V 3 (.pointer (some ⟨bz, oz + 256, none⟩))) 2 = .slice (some ⟨bz, oz, none⟩) (256 + 1) c := e2
    have H := Lib.hid (hK _ W ⟨upd V 3 (.pointer (some ⟨bz, oz + 256, none⟩)), rfl, hE, HV.up 3 _ (fun x hx => Option.some.inj hx), hz.ext (Ext.refl _) (fun h => more_ne h rfl), fun h => hr (more_no h rfl), hc⟩)
    clear hK hC hW hL HV hz hr hE
    rw [HFR.out]
    rw [e2]
    clear e2
    go_wp2_with fail
    show K _ _
    have := H.out
    rw [HFR.out] at this
    rw [u2] at this
    exact this
  · rintro L A W K hL hC hW ⟨V, rfl, hE, HV, hz, hr, hc⟩ hK
    have e3 : V 3 = .pointer (some ⟨bz, oz + 256, none⟩) := HV 3 _ rfl (hW 3 rfl)
    have u3 : (upd V 4 (.int .i64 (bitN (a + b) 256 : Nat))) 3 = .pointer (some ⟨bz, oz + 256, none⟩) := e3
    have H := Lib.hid (hK _ W ⟨upd V 4 (.int .i64 (bitN (a + b) 256 : Nat)), rfl, hE, HV.up 4 _ (fun x hx => Option.some.inj hx), hz.ext (Ext.refl _) (fun h => more_ne h rfl), fun h => hr (more_no h rfl), hc⟩)
    clear hK hC hW hL HV hz hr hE
    rw [HFR.out]
    rw [e3]
    clear e3
    go_wp2_with fail
    show K _ _
    have := H.out
    rw [HFR.out] at this
    rw [u3] at this
    exact this
  · rintro L A W K hL hC hW ⟨V, rfl, hE, HV, hz, hr, hc⟩ hK
    have e4 : V 4 = .int .i64 (bitN (a + b) 256 : Nat) := HV 4 _ rfl (hW 4 rfl)
    have u4 : (upd V 5 (.bool o)) 4 = .int .i64 (bitN (a + b) 256 : Nat) := e4
    have H := Lib.hid (hK _ W ⟨upd V 5 (.bool o), rfl, hE, HV.up 5 _ (fun x hx => Option.some.inj hx), hz.ext (Ext.refl _) (fun h => more_ne h rfl), fun h => hr (more_no h rfl), hc⟩)
    clear hK hC hW hL HV hz hr hE
    rw [HFR.out]
    rw [e4]
    clear e4
    go_wp2_with fail
    rw [show (((bitN (a + b) 256 : Nat) : Int) == 1) = o from HTI.out]
    show K _ _
    have := H.out
    rw [HFR.out] at this
    rw [u4] at this
    exact this
  · rintro L A W K hL hC hW ⟨V, rfl, hE, HV, hz, hr, hc⟩ hK
    have e1 : V 1 = wv R := HV 1 _ rfl (hW 1 rfl)
    obtain ⟨cs, k1, k2, _⟩ := hz
    rw [HFR.out]
    refine wpList_store_word rfl rfl 27 (.tmp 4) (.tmp 13) rfl winfo (w.heap.size + 1 + 1) cs R rfl e1 k1 k2 ?_
    intro W' hw hg
    show K _ _
    have := hK _ W' ⟨V, rfl, hE.grown hg (by omega), HV.st 6 rfl, ⟨wc R, hw, rfl, fun _ => rfl⟩, fun h => (by cases (show true = false from h)), ?_⟩
    · rw [HFR.out] at this
      exact this
    · have hbl := World.block_lt_of_cell? W _ hc
      have h2 := hg.block bz hbl (some_ne (by omega))
      rw [← hc]
      exact World.cell?_of_block (a := ⟨bz, oz + 256, none⟩) h2
  · rintro L A W K hL hC hW ⟨V, rfl, hE, HV, hz, hr, hc⟩ hK
    have e5 : V 5 = .bool o := HV 5 _ rfl (hW 5 rfl)
    have u5 : (upd V 7 (.bool o)) 5 = .bool o := e5
    have H := Lib.hid (hK _ W ⟨upd V 7 (.bool o), rfl, hE, HV.up 7 _ (fun x hx => Option.some.inj hx), hz.ext (Ext.refl _) (fun h => more_ne h rfl), fun h => hr (more_no h rfl), hc⟩)
    clear hK hC hW hL HV hz hr hE
    rw [HFR.out]
    rw [e5]
    clear e5
    go_wp2_with fail
    show K _ _
    have := H.out
    rw [HFR.out] at this
    rw [u5] at this
    exact this
  · rintro L A W hL ⟨V, rfl, hE, HV, ⟨cs, k1, _, k3⟩, _, _⟩
    have e7 : V 7 = .bool o := HV 7 _ rfl (hL 7 (by simp))
    rw [k3 (hL 6 (by simp))] at k1
    have HW := Lib.hid k1
    have HE := Lib.hid hE
    clear k1 k3 hL hE HV
    rw [HFR.out]
    rw [e7]
    clear e7
    go_wp2_with fail
    exact bodyPost_ret (results_word_tmp Try.results15 _ _ (w.heap.size + 1 + 1) _ rfl HW.out Try.underlying27 winfo) rfl ⟨rfl, (by rw [← HRR.out]; exact addN_lt a b), HE.out⟩
end Go.Proofs.Ytgmmkoahnednfaa
