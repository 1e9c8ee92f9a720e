/- The document's own answers of layer 2: Add. The document's own answers of layer 2: Sub. Contract of Sum: the sum of many words. The document's own answers of layer 2: Cmp. -/
import Derived.Test.YtiojfpdjnblkhaaRbd
import Derived.Test.YtiojfpdjnblkhaaWrl
import Derived.Test.YtiojfpdjnblkhaaWre
namespace Go.Proofs.Ytiojfpdjnblkhaa
open Go.RowKit

/-- A word's block, which at last holds the word r. -/
def Rz (W : World) (g : Nat) (c : Bool) (r : Nat) : Prop := ∃ cs, Cs W g 31 cs ∧ cs.size = 4 ∧ (c = true → cs = wc r)
set_option maxRecDepth 100000 in
theorem Rz.ext {W W' : World} {g : Nat} {c c' : Bool} {r : Nat} (h : Rz W g c r) (he : Ext W W') (hc : c' = true → c = true) : Rz W' g c' r := by
  obtain ⟨cs, h1, h2, h3⟩ := h
  exact ⟨cs, h1.ext he, h2, fun e => h3 (hc e)⟩
set_option maxRecDepth 100000 in
theorem ofN_bitsL (s : Nat) : ofN (bitsL s 257) = s % M256 := by
  refine word_bits (ofN_lt _) (Nat.mod_lt _ (by decide)) fun j hj => ?_
  rw [ofN_tb, bitsL_get, if_pos (by omega), M256_pow, Nat.testBit_mod_two_pow, bitN_tb]
  cases s.testBit j <;> simp [hj]
set_option maxRecDepth 100000 in
theorem top_bit (a b : Nat) (ha : a < M256) (hb : b < M256) : ((bitN (a + b) 256 : Nat) == 1) = ovr a b := by
  unfold bitN ovr
  rw [← M256_pow]
  by_cases h : M256 ≤ a + b
  · have : (a + b) / M256 = 1 := by
      rw [Nat.div_eq_iff (by decide)]
      unfold M256 at *
      omega
    rw [this]
    simp [h]
  · rw [Nat.div_eq_of_lt (by omega)]
    simp [h]

set_option maxRecDepth 100000 in
set_option maxHeartbeats 4000000 in
theorem refAdd_any (a b : Nat) (w : World) (ha : a < M256) (hb : b < M256) :
    Calls Try.prog 98 #[wv a, wv b] w (RetWB w (addN a b) (ovr a b)) := by
  have HA := Lib.hid ha
  have HB := Lib.hid hb
  have HTB := Lib.hid (top_bit a b ha hb)
  have HTI := Lib.hid (show (((bitN (a + b) 256 : Nat) : Int) == 1) = ovr a b by rw [← top_bit a b ha hb]; have := bitN_lt (a + b) 256; rcases (show bitN (a + b) 256 = 0 ∨ bitN (a + b) 256 = 1 by omega) with h | h <;> rw [h] <;> rfl)
  have HSM := Lib.hid (show ofN (bitsL (a + b) 257) = addN a b from ofN_bitsL (a + b))
  have HPA := Lib.hid (show a < 2 ^ 256 by rw [← M256_pow]; exact ha)
  have HPB := Lib.hid (show b < 2 ^ 256 by rw [← M256_pow]; exact hb)
  clear ha hb
  have HS : Ks w [(w.heap.size, a), (w.heap.size + 1, b)] (((w.alloc (.cells (wc a) 31)).alloc (.cells (wc b) 31)).alloc (.cells #[.int .u64 0, .int .u64 0, .int .u64 0, .int .u64 0] 31)) :=
    ⟨fun x hx => by
      simp only [List.mem_cons, List.not_mem_nil, or_false] at hx
      rcases hx with rfl | rfl
      · exact ((Cs.new _ _ _ _ rfl).alloc _).alloc _
      · exact (Cs.new _ _ _ _ (by simp)).alloc _, (((Ext.refl w).alloc _).alloc _).alloc _⟩
  have HZ : Hid (Cs (((w.alloc (.cells (wc a) 31)).alloc (.cells (wc b) 31)).alloc (.cells #[.int .u64 0, .int .u64 0, .int .u64 0, .int .u64 0] 31)) (w.heap.size + 1 + 1) 31 (wc 0)) := Cs.new _ _ _ _ (by simp)
  have HS := HS.drew
  have HZ := Lib.hid (Cs.drew HZ.out)
  unfold wv
  go_enter Try.func98, Try.ntmps98
  go_wp2_with fail
  go_region_held3 (fun w' => (w'.cell? ⟨w.heap.size, 0, none⟩ = some (.int .u64 (lb a 0 : Nat)) ∧ w'.cell? ⟨w.heap.size, 1, none⟩ = some (.int .u64 (lb a 1 : Nat)) ∧ w'.cell? ⟨w.heap.size, 2, none⟩ = some (.int .u64 (lb a 2 : Nat)) ∧ w'.cell? ⟨w.heap.size, 3, none⟩ = some (.int .u64 (lb a 3 : Nat))) ∧ (w'.cell? ⟨w.heap.size + 1, 0, none⟩ = some (.int .u64 (lb b 0 : Nat)) ∧ w'.cell? ⟨w.heap.size + 1, 1, none⟩ = some (.int .u64 (lb b 1 : Nat)) ∧ w'.cell? ⟨w.heap.size + 1, 2, none⟩ = some (.int .u64 (lb b 2 : Nat)) ∧ w'.cell? ⟨w.heap.size + 1, 3, none⟩ = some (.int .u64 (lb b 3 : Nat))))
    (exact ⟨(HS.at _ a (by simp)).f4, (HS.at _ b (by simp)).f4⟩)
    (first
      | (go_at_call 133; have _t := hr1; refine (bitsL_own b _ HB.out).mono ?_; rintro e wy ⟨vy, rfl, ho, he⟩; have hr2 := ho.rs; have hr1 := hr1.ext he; have HS := HS.ext he; have HZ := Lib.hid (Cs.ext HZ.out he); clear ho he)
      | (go_at_call 133; refine (bitsL_own a _ HA.out).mono ?_; rintro e wx ⟨vx, rfl, ho, he⟩; have hr1 := ho.rs; have HS := HS.ext he; have HZ := Lib.hid (Cs.ext HZ.out he); clear ho he)
      | (go_at_call 132; rw [bitsL_len] at hr1 hr2; refine (refadd_any _ _ a b 256 _ hr1 hr2 HPA.out HPB.out (by omega) (by omega)).mono ?_; rintro e wz ⟨vz, rfl, ho, he⟩; have hr3 := ho.rs; have hbs : ∀ k, vz.ownBlock = some k → w.heap.size + 1 + 1 < k := fun k e => Nat.lt_of_lt_of_le HZ.out.lt (World.ownsRow.lt ho k e).1; have HS := HS.ext he; have HZ := Lib.hid (Cs.ext HZ.out he); clear ho he)
      | fail)
  rw [bitsL_len] at hr3
  obtain ⟨_, A, c, hvz, hc1, hc2, hcell⟩ := id hr3
  subst hvz
  obtain ⟨bz, oz, hAz, hcz⟩ := hcell (by omega)
  subst hAz
  have hbz : w.heap.size + 1 + 1 < bz := hbs bz rfl
  have HR := Lib.hid hr3
  have HE := Lib.hid HS.2
  have HC := Lib.hid (show wz.cell? ⟨bz, oz + 256, none⟩ = some (.int .i64 (bitN (a + b) 256 : Nat)) from hcz 256 (iv (bitN (a + b) 256)) (by simp [bitsL]))
  clear hr1 hr2 hr3 HS hcell hcz hbs
  unfold maxLen at hc2
  go_wp2_with fail
  generalize hR : addN a b = R at *
  generalize ho : ovr a b = o at *
  have HRR := Lib.hid hR
  clear hR ho
  refine wp_named fun a0 ha0 => ?_
  obtain ⟨fr, hfr⟩ : ∃ fr : (Nat → Value) → Act, ∀ V, fr V = (((((((a0.put (some 12) (V 0)).put (some 13) (V 1)).put (some 14) (V 2)).put (some 15) (V 3)).put (some 16) (V 4)).put (some 17) (V 5)).put (some 5) (V 7)) := ⟨_, fun _ => rfl⟩
  rw [ha0] at hfr
  simp only [Act.put, List.setIfInBounds_toArray, List.set_cons_zero, List.set_cons_succ] at hfr
  have HFR := Lib.hid hfr
  clear hfr
  refine wp_region_inv (by kernel_rfl) (by kernel_rfl) (fun L A W => ∃ V : Nat → Value, A = fr V ∧ Ext w W ∧ Vals (fun j => ([some ((.slice (some ⟨bz, oz, none⟩) (256 + 1) c)), some (wv R), some (.slice (some ⟨bz, oz, none⟩) (256 + 1) c), some (.pointer (some ⟨bz, oz + 256, none⟩)), some (.int .i64 (bitN (a + b) 256 : Nat)), some (.bool o), none, some (.bool o)] : List (Option Value)).getD j none) L V ∧ Rz W (w.heap.size + 1 + 1) (L 6) R ∧ (L 6 = false → Rs W 1 (.slice (some ⟨bz, oz, none⟩) (256 + 1) c) (256 + 1) ((bitsL (a + b) (256 + 1)).map iv)) ∧ W.cell? ⟨bz, oz + 256, none⟩ = some (.int .i64 (bitN (a + b) 256 : Nat))) ?_ ⟨?_, ?_, ?_, ?_, ?_, ?_, ?_, ?_, trivial⟩ ?_
  · refine ⟨fun j => a0.tmps.getD (([12, 13, 14, 15, 16, 17, 0, 5] : List Nat).getD j 0) undef, ?_, HE.out.drew, Vals.no _ _ _ (far_none _ _ rfl), ⟨_, Cs.drew HZ.out, rfl, fun h => absurd h (by decide)⟩, fun _ => HR.out.ext (Ext.refl _).drew, HC.out⟩
    rw [HFR.out, ha0]
    rfl
  all_goals clear ha0 HZ HC HR HE
  · rintro L A W K hL hC hW ⟨V, rfl, hE, HV, hz, hr, hc⟩ hK
    have H := Lib.hid (hK _ W ⟨upd V 0 ((.slice (some ⟨bz, oz, none⟩) (256 + 1) c)), rfl, hE, HV.up 0 _ (fun x hx => Option.some.inj hx), hz.ext (Ext.refl _) (fun h => more_ne h rfl), fun h => hr (more_no h rfl), hc⟩)
    clear hK hC hW hL HV hz hr hE
    rw [HFR.out]
    go_wp2_with fail
    show K _ _
    have := H.out
    rw [HFR.out] at this
    exact this
  · rintro L A W K hL hC hW ⟨V, rfl, hE, HV, hz, hr, hc⟩ hK
    have e0 : V 0 = .slice (some ⟨bz, oz, none⟩) (256 + 1) c := HV 0 _ rfl (hW 0 rfl)
    have u0 : (upd V 1 (wv R)) 0 = .slice (some ⟨bz, oz, none⟩) (256 + 1) c := e0
    have h6 : L 6 = false := hC.no hL 6 _ rfl rfl
    have HQ := Lib.hid (hr h6)
    have H := Lib.hid (fun (W' : World) (he : Ext W W') => hK _ W' ⟨upd V 1 (wv R), rfl, hE.trans he, HV.up 1 _ (fun x hx => Option.some.inj hx), hz.ext he (fun h => more_ne h rfl), fun h => (hr (more_no h rfl)).ext he, he.cell hc⟩)
    clear hK hC hW hL HV hz hr hE hc h6
    rw [HFR.out]
    rw [e0]
    clear e0
    go_wp2_with fail
    refine (of_bits _ (bitsL (a + b) 257) _ (by rw [bitsL_len]; exact HQ.out) (by rw [bitsL_len]; omega)).mono ?_
    rintro e wx ⟨rfl, he⟩
    rw [HSM.out]
    have := H.out wx he
    clear H he HQ
    go_wp2_with fail
    show K _ _
    rw [HFR.out] at this
    rw [u0] at this
    exact this
  · rintro L A W K hL hC hW ⟨V, rfl, hE, HV, hz, hr, hc⟩ hK
    have H := Lib.hid (hK _ W ⟨upd V 2 (.slice (some ⟨bz, oz, none⟩) (256 + 1) c), rfl, hE, HV.up 2 _ (fun x hx => Option.some.inj hx), hz.ext (Ext.refl _) (fun h => more_ne h rfl), fun h => hr (more_no h rfl), hc⟩)
    clear hK hC hW hL HV hz hr hE
    rw [HFR.out]
    go_wp2_with fail
    show K _ _
    have := H.out
    rw [HFR.out] at this
    exact this
  · rintro L A W K hL hC hW ⟨V, rfl, hE, HV, hz, hr, hc⟩ hK
    have e2 : V 2 = .slice (some ⟨bz, oz, none⟩) (256 + 1) c := HV 2 _ rfl (hW 2 rfl)
    have u2 : (upd V 3 (.pointer (some ⟨bz, oz + 256, none⟩))) 2 = .slice (some ⟨bz, oz, none⟩) (256 + 1) c := e2
    have H := Lib.hid (hK _ W ⟨upd V 3 (.pointer (some ⟨bz, oz + 256, none⟩)), rfl, hE, HV.up 3 _ (fun x hx => Option.some.inj hx), hz.ext (Ext.refl _) (fun h => more_ne h rfl), fun h => hr (more_no h rfl), hc⟩)
    clear hK hC hW hL HV hz hr hE
    rw [HFR.out]
    rw [e2]
    clear e2
    go_wp2_with fail
    show K _ _
    have := H.out
    rw [HFR.out] at this
    rw [u2] at this
    exact this
  · rintro L A W K hL hC hW ⟨V, rfl, hE, HV, hz, hr, hc⟩ hK
    have e3 : V 3 = .pointer (some ⟨bz, oz + 256, none⟩) := HV 3 _ rfl (hW 3 rfl)
    have u3 : (upd V 4 (.int .i64 (bitN (a + b) 256 : Nat))) 3 = .pointer (some ⟨bz, oz + 256, none⟩) := e3
    have H := Lib.hid (hK _ W ⟨upd V 4 (.int .i64 (bitN (a + b) 256 : Nat)), rfl, hE, HV.up 4 _ (fun x hx => Option.some.inj hx), hz.ext (Ext.refl _) (fun h => more_ne h rfl), fun h => hr (more_no h rfl), hc⟩)
    clear hK hC hW hL HV hz hr hE
    rw [HFR.out]
    rw [e3]
    clear e3
    go_wp2_with fail
    show K _ _
    have := H.out
    rw [HFR.out] at this
    rw [u3] at this
    exact this
  · rintro L A W K hL hC hW ⟨V, rfl, hE, HV, hz, hr, hc⟩ hK
    have e4 : V 4 = .int .i64 (bitN (a + b) 256 : Nat) := HV 4 _ rfl (hW 4 rfl)
    have u4 : (upd V 5 (.bool o)) 4 = .int .i64 (bitN (a + b) 256 : Nat) := e4
    have H := Lib.hid (hK _ W ⟨upd V 5 (.bool o), rfl, hE, HV.up 5 _ (fun x hx => Option.some.inj hx), hz.ext (Ext.refl _) (fun h => more_ne h rfl), fun h => hr (more_no h rfl), hc⟩)
    clear hK hC hW hL HV hz hr hE
    rw [HFR.out]
    rw [e4]
    clear e4
    go_wp2_with fail
    rw [show (((bitN (a + b) 256 : Nat) : Int) == 1) = o from HTI.out]
    show K _ _
    have := H.out
    rw [HFR.out] at this
    rw [u4] at this
    exact this
  · rintro L A W K hL hC hW ⟨V, rfl, hE, HV, hz, hr, hc⟩ hK
    have e1 : V 1 = wv R := HV 1 _ rfl (hW 1 rfl)
    obtain ⟨cs, k1, k2, _⟩ := hz
    rw [HFR.out]
    refine wpList_store_word rfl rfl 31 (.tmp 4) (.tmp 13) rfl winfo (w.heap.size + 1 + 1) cs R rfl e1 k1 k2 ?_
    intro W' hw hg
    show K _ _
    have := hK _ W' ⟨V, rfl, hE.grown hg (by omega), HV.st 6 rfl, ⟨wc R, hw, rfl, fun _ => rfl⟩, fun h => (by cases (show true = false from h)), ?_⟩
    · rw [HFR.out] at this
      exact this
    · have hbl := World.block_lt_of_cell? W _ hc
      have h2 := hg.block bz hbl (some_ne (by omega))
      rw [← hc]
      exact World.cell?_of_block (a := ⟨bz, oz + 256, none⟩) h2
  · rintro L A W K hL hC hW ⟨V, rfl, hE, HV, hz, hr, hc⟩ hK
    have e5 : V 5 = .bool o := HV 5 _ rfl (hW 5 rfl)
    have u5 : (upd V 7 (.bool o)) 5 = .bool o := e5
    have H := Lib.hid (hK _ W ⟨upd V 7 (.bool o), rfl, hE, HV.up 7 _ (fun x hx => Option.some.inj hx), hz.ext (Ext.refl _) (fun h => more_ne h rfl), fun h => hr (more_no h rfl), hc⟩)
    clear hK hC hW hL HV hz hr hE
    rw [HFR.out]
    rw [e5]
    clear e5
    go_wp2_with fail
    show K _ _
    have := H.out
    rw [HFR.out] at this
    rw [u5] at this
    exact this
  · rintro L A W hL ⟨V, rfl, hE, HV, ⟨cs, k1, _, k3⟩, _, _⟩
    have e7 : V 7 = .bool o := HV 7 _ rfl (hL 7 (by simp))
    rw [k3 (hL 6 (by simp))] at k1
    have HW := Lib.hid k1
    have HE := Lib.hid hE
    clear k1 k3 hL hE HV
    rw [HFR.out]
    rw [e7]
    clear e7
    go_wp2_with fail
    exact bodyPost_ret (results_word_tmp Try.results98 _ _ (w.heap.size + 1 + 1) _ rfl HW.out Try.underlying31 winfo) rfl ⟨rfl, (by rw [← HRR.out]; exact addN_lt a b), HE.out⟩
end Go.Proofs.Ytiojfpdjnblkhaa
namespace Go.Proofs.Ytiojfpdjnblkhaa
open Go.RowKit

/-! ### A difference is what is missing to a sum -/
set_option maxRecDepth 100000 in
theorem sub_add (a b : Nat) (ha : a < M256) (hb : b < M256) : (subN a b + b) % M256 = a := by
  unfold subN M256 at *
  omega
set_option maxRecDepth 100000 in
theorem sub_over (a b : Nat) (ha : a < M256) (hb : b < M256) : decide (M256 ≤ subN a b + b) = und a b := by
  unfold subN und
  by_cases h : a < b
  · rw [show (a + M256 - b) % M256 = a + M256 - b from Nat.mod_eq_of_lt (by omega)]
    simp [h]; omega
  · rw [show (a + M256 - b) % M256 = a - b by unfold M256 at *; omega]
    simp [h]; omega
set_option maxRecDepth 100000 in
theorem bitN_low (s k : Nat) (hk : k < 256) : bitN (s % M256) k = bitN s k := by
  rw [bitN_tb, bitN_tb, M256_pow, Nat.testBit_mod_two_pow]
  simp [hk]
set_option maxRecDepth 100000 in
theorem sub_bit (a b k : Nat) (ha : a < M256) (hb : b < M256) (hk : k < 256) : bitN a k = sumN (subN a b) b k % 2 := by
  rw [← bitN_add]
  conv => lhs; rw [← sub_add a b ha hb]
  exact bitN_low _ _ hk
set_option maxRecDepth 100000 in
theorem ofN_bits256 (d : Nat) (hd : d < M256) : ofN (bitsL d 256) = d := by
  refine word_bits (ofN_lt _) hd fun j hj => ?_
  rw [ofN_tb, bitsL_get, if_pos hj, bitN_tb]
  cases d.testBit j <;> simp [hj]
set_option maxRecDepth 100000 in
theorem sub_top (a b : Nat) (ha : a < M256) (hb : b < M256) : (((carN (subN a b) b 256 : Nat) : Int) == 1) = und a b := by
  have hd : subN a b < M256 := Nat.mod_lt _ (by decide)
  rw [carN_top _ _ 256 (by rw [← M256_pow]; exact hd) (by rw [← M256_pow]; exact hb), ← sub_over a b ha hb]
  have h := top_bit (subN a b) b hd hb
  unfold ovr at h
  rw [← h]
  have := bitN_lt (subN a b + b) 256
  rcases (show bitN (subN a b + b) 256 = 0 ∨ bitN (subN a b + b) 256 = 1 by omega) with h | h <;> rw [h] <;> rfl

set_option maxRecDepth 100000 in
set_option maxHeartbeats 4000000 in
theorem refSub_any (a b : Nat) (w : World) (ha : a < M256) (hb : b < M256) :
    Calls Try.prog 97 #[wv a, wv b] w (RetWB w (subN a b) (und a b)) := by
  have HA := Lib.hid ha
  have HB := Lib.hid hb
  have HT := Lib.hid (sub_top a b ha hb)
  have HBT := Lib.hid (fun k (hk : k < 256) => sub_bit a b k ha hb hk)
  have hd : subN a b < M256 := Nat.mod_lt _ (by decide)
  have HD := Lib.hid hd
  have HOF := Lib.hid (ofN_bits256 _ hd)
  clear ha hb hd
  generalize subN a b = d at *
  generalize und a b = o at *
  have HK0 : Hid (Ks w [(w.heap.size, a), (w.heap.size + 1, b)] (((w.alloc (.cells (wc a) 31)).alloc (.cells (wc b) 31)).alloc (.cells #[.int .u64 0, .int .u64 0, .int .u64 0, .int .u64 0] 31))) :=
    ⟨fun x hx => by
      simp only [List.mem_cons, List.not_mem_nil, or_false] at hx
      rcases hx with rfl | rfl
      · exact ((Cs.new _ _ _ _ rfl).alloc _).alloc _
      · exact (Cs.new _ _ _ _ (by simp)).alloc _, (((Ext.refl w).alloc _).alloc _).alloc _⟩
  have HZ0 : Hid (Cs (((w.alloc (.cells (wc a) 31)).alloc (.cells (wc b) 31)).alloc (.cells #[.int .u64 0, .int .u64 0, .int .u64 0, .int .u64 0] 31)) (w.heap.size + 1 + 1) 31 (wc 0)) := Cs.new _ _ _ _ (by simp)
  unfold wv
  go_enter Try.func97, Try.ntmps97
  go_wp2_with fail
  go_loopw [6, 7, 8, 9, 10, 11, 12, 13, 14, 15, 16, 17, 18, 19, 20, 21, 22, 23, 24, 25, 26, 27, 28, 29, 30] (fun v c _ _ i _ _ _ _ _ _ _ _ _ _ _ _ _ _ _ _ _ _ _ _ wr => ∃ k : Nat, k ≤ 256 ∧ i = .int .i64 k ∧ c = .int .i64 (carN d b k : Nat) ∧ Hid (Ks w [(w.heap.size, a), (w.heap.size + 1, b)] wr) ∧ Hid (Cs wr (w.heap.size + 1 + 1) 31 (wc 0)) ∧ Hid (OwnI wr (w.heap.size + 1 + 1 + 1) 3 v (bitsL d k))) (fun _ _ _ _ i _ _ _ _ _ _ _ _ _ _ _ _ _ _ _ _ _ _ _ _ _ => 256 - (intOf i).toNat)
  case atStart => exact ⟨0, by omega, rfl, by rw [carN_zero]; rfl, HK0, HZ0, World.ownsRow_nil _ _ _ _⟩
  case round =>
    clear HK0 HZ0
    obtain ⟨k, hk, rfl, rfl, HS, HZ, HO⟩ := hrel
    have HS := HS.out
    by_cases hlt : k < 256
    · have hx := bitN_lt a k
      have hy := bitN_lt b k
      have hz := bitN_lt d k
      have hc := carN_lt d b k
      have hbk := HBT.out k hlt
      have hss : sumN d b k = bitN d k + bitN b k + carN d b k := rfl
      have HL := Lib.hid (bitsL_len d k)
      have HSU := Lib.hid (bitsL_succ d k)
      have hbs : w.heap.size + 1 + 1 + 1 ≤ wr.heap.size := HZ.out.lt
      have HS := HS.drew
      have HZ := Lib.hid (Cs.drew HZ.out)
      have HO := Lib.hid (show OwnI wr.drew _ _ _ _ from own_ext HO.out (Ext.refl wr).drew)
      have hm1 : IntKind.i64.wrap ((bitN a k : Int) - (bitN b k : Int)) = (bitN a k : Int) - (bitN b k : Int) := IntWalk.i64_in _ (by omega)
      by_cases hs2 : sumN d b k < 2
      · have HC := Lib.hid (show carN d b (k + 1) = 0 by rw [carN_succ]; omega)
        have hm2 : IntKind.i64.wrap ((bitN a k : Int) - (bitN b k : Int) - (carN d b k : Int)) = ((bitN d k : Nat) : Int) := by
          rw [IntWalk.i64_in _ (by omega)]
          omega
        clear hbk hss hs2
        go_wp2_with fail
        go_region_held3 (fun w' => (w'.cell? ⟨w.heap.size, 0, none⟩ = some (.int .u64 (lb a 0 : Nat)) ∧ w'.cell? ⟨w.heap.size, 1, none⟩ = some (.int .u64 (lb a 1 : Nat)) ∧ w'.cell? ⟨w.heap.size, 2, none⟩ = some (.int .u64 (lb a 2 : Nat)) ∧ w'.cell? ⟨w.heap.size, 3, none⟩ = some (.int .u64 (lb a 3 : Nat))) ∧ (w'.cell? ⟨w.heap.size + 1, 0, none⟩ = some (.int .u64 (lb b 0 : Nat)) ∧ w'.cell? ⟨w.heap.size + 1, 1, none⟩ = some (.int .u64 (lb b 1 : Nat)) ∧ w'.cell? ⟨w.heap.size + 1, 2, none⟩ = some (.int .u64 (lb b 2 : Nat)) ∧ w'.cell? ⟨w.heap.size + 1, 3, none⟩ = some (.int .u64 (lb b 3 : Nat))))
          (exact ⟨(HS.at _ a (by simp)).f4, (HS.at _ b (by simp)).f4⟩)
          (first
            | (go_at_call 105; refine (bit_any _ _ _ (by first | exact HA.out | exact HB.out) (by omega)).mono ?_; rintro e wx ⟨rfl, he⟩; have HS := HS.ext he; have HZ := Lib.hid (Cs.ext HZ.out he); have HO := Lib.hid (show OwnI wx _ _ _ _ from own_ext HO.out he); have hbs : w.heap.size + 1 + 1 + 1 ≤ wx.heap.size := HZ.out.lt; clear he)
            | fail)
        have HO2 := Lib.hid (World.ownsRow.alloc HO.out (.cells #[.int .i64 (bitN d k : Nat)] 3))
        have HS2 := Lib.hid (HS.al (.cells #[.int .i64 (bitN d k : Nat)] 3))
        have HZ2 := Lib.hid (HZ.out.alloc (.cells #[.int .i64 (bitN d k : Nat)] 3))
        clear HO HS HZ hm1 hm2 HBT
        have hN : decide ((bitN d k : Int) < 0) = false := by simp
        go_wp2_with (refine wpList_append_row rfl (.tmp 26) (.tmp 28) 140 rfl (w.heap.size + 1 + 1 + 1) 3 Try.underlying140 (.int .i64 0) 1 8 iinfo rfl (by decide) u6 _ _ rfl HO2.out _ 1 [iv (bitN d k)] rfl (Rs.new _ _ _ _ _ rfl (by decide)) (iv_one [bitN d k]) (by rw [HL.out]; omega) (by decide) (by simp; omega) ?_; intro v' w3 ho3 hg3 _; have HO3 := Lib.hid (OwnI.snoc ho3); have HS3 := Lib.hid (Ks.grownOwn HS2.out HO2.out hg3 (by omega) (fun x hx => by simp only [List.mem_cons, List.not_mem_nil, or_false] at hx; rcases hx with rfl | rfl <;> (dsimp only; omega))); have HZ3 := Lib.hid (show Cs w3 _ _ _ from own_block HO2.out hg3 (by omega) HZ2.out); clear ho3 hg3)
        rw [← HSU.out] at HO3
        go_roundw
        case rel => exact ⟨k + 1, by omega, by go_num, by rw [HC.out]; rfl, HS3, HZ3, HO3⟩
        case measure => simp [intOf]; omega
      · have HC := Lib.hid (show carN d b (k + 1) = 1 by rw [carN_succ]; omega)
        have hm2 : IntKind.i64.wrap ((bitN a k : Int) - (bitN b k : Int) - (carN d b k : Int)) = ((bitN d k : Nat) : Int) - 2 := by
          rw [IntWalk.i64_in _ (by omega)]
          omega
        clear hbk hss hs2
        go_wp2_with fail
        go_region_held3 (fun w' => (w'.cell? ⟨w.heap.size, 0, none⟩ = some (.int .u64 (lb a 0 : Nat)) ∧ w'.cell? ⟨w.heap.size, 1, none⟩ = some (.int .u64 (lb a 1 : Nat)) ∧ w'.cell? ⟨w.heap.size, 2, none⟩ = some (.int .u64 (lb a 2 : Nat)) ∧ w'.cell? ⟨w.heap.size, 3, none⟩ = some (.int .u64 (lb a 3 : Nat))) ∧ (w'.cell? ⟨w.heap.size + 1, 0, none⟩ = some (.int .u64 (lb b 0 : Nat)) ∧ w'.cell? ⟨w.heap.size + 1, 1, none⟩ = some (.int .u64 (lb b 1 : Nat)) ∧ w'.cell? ⟨w.heap.size + 1, 2, none⟩ = some (.int .u64 (lb b 2 : Nat)) ∧ w'.cell? ⟨w.heap.size + 1, 3, none⟩ = some (.int .u64 (lb b 3 : Nat))))
          (exact ⟨(HS.at _ a (by simp)).f4, (HS.at _ b (by simp)).f4⟩)
          (first
            | (go_at_call 105; refine (bit_any _ _ _ (by first | exact HA.out | exact HB.out) (by omega)).mono ?_; rintro e wx ⟨rfl, he⟩; have HS := HS.ext he; have HZ := Lib.hid (Cs.ext HZ.out he); have HO := Lib.hid (show OwnI wx _ _ _ _ from own_ext HO.out he); have hbs : w.heap.size + 1 + 1 + 1 ≤ wx.heap.size := HZ.out.lt; clear he)
            | fail)
        have hm3 : ((bitN d k : Nat) : Int) - 2 + 2 = ((bitN d k : Nat) : Int) := by omega
        have HO2 := Lib.hid (World.ownsRow.alloc HO.out (.cells #[.int .i64 (bitN d k : Nat)] 3))
        have HS2 := Lib.hid (HS.al (.cells #[.int .i64 (bitN d k : Nat)] 3))
        have HZ2 := Lib.hid (HZ.out.alloc (.cells #[.int .i64 (bitN d k : Nat)] 3))
        clear HO HS HZ hm1 hm2 HBT
        have hN : decide ((bitN d k : Int) - 2 < 0) = true := by simp; omega
        go_wp2_with (refine wpList_append_row rfl (.tmp 26) (.tmp 28) 140 rfl (w.heap.size + 1 + 1 + 1) 3 Try.underlying140 (.int .i64 0) 1 8 iinfo rfl (by decide) u6 _ _ rfl HO2.out _ 1 [iv (bitN d k)] rfl (Rs.new _ _ _ _ _ rfl (by decide)) (iv_one [bitN d k]) (by rw [HL.out]; omega) (by decide) (by simp; omega) ?_; intro v' w3 ho3 hg3 _; have HO3 := Lib.hid (OwnI.snoc ho3); have HS3 := Lib.hid (Ks.grownOwn HS2.out HO2.out hg3 (by omega) (fun x hx => by simp only [List.mem_cons, List.not_mem_nil, or_false] at hx; rcases hx with rfl | rfl <;> (dsimp only; omega))); have HZ3 := Lib.hid (show Cs w3 _ _ _ from own_block HO2.out hg3 (by omega) HZ2.out); clear ho3 hg3)
        rw [← HSU.out] at HO3
        go_roundw
        case rel => exact ⟨k + 1, by omega, by go_num, by rw [HC.out]; rfl, HS3, HZ3, HO3⟩
        case measure => simp [intOf]; omega
    · obtain rfl : k = 256 := by omega
      have HR := Lib.hid (show Rs wr 1 u6 (bitsL d 256).length ((bitsL d 256).map iv) from OwnI.rs HO.out)
      have HT2 := HT.out
      clear HO
      go_wp2_with fail
      refine (of_bits u6 (bitsL d 256) _ HR.out (by rw [bitsL_len]; omega)).mono ?_
      rintro e w2 ⟨rfl, he⟩
      rw [HOF.out]
      have HZ := Lib.hid (Cs.ext HZ.out he)
      have HE := Lib.hid (HS.2.trans he)
      clear he HS HR
      go_wp2_with (refine wpList_store_word rfl rfl 31 (.tmp 4) (.tmp 32) rfl winfo (w.heap.size + 1 + 1) (wc 0) d rfl rfl HZ.out rfl ?_; intro w4 k4 g4; have K4 := Lib.hid k4; have HE4 := Lib.hid (HE.out.grown g4 (by omega)); clear k4 g4)
      exact bodyPost_ret (results_word_tmp Try.results97 _ _ (w.heap.size + 1 + 1) _ rfl K4.out Try.underlying31 winfo) rfl ⟨rfl, HD.out, HE4.out⟩
end Go.Proofs.Ytiojfpdjnblkhaa
namespace Go.Proofs.Ytiojfpdjnblkhaa
open Go.RowKit

/-- The slice v reads as the words l. -/
def Ws (w : World) (v : Value) (l : List Nat) : Prop :=
  ∃ A c, v = .slice A l.length c ∧ l.length ≤ c ∧ c ≤ maxLen ∧ (0 < l.length → ∃ b o, A = some ⟨b, o, none⟩ ∧ ∀ i, i < l.length → ∀ j, j < 4 → w.cell? ⟨b, o + i * 4 + j, none⟩ = some (.int .u64 (lb (l.getD i 0) j : Nat))) ∧ ∀ i, i < l.length → l.getD i 0 < M256

set_option maxRecDepth 100000 in
theorem Ws.ext {w w' : World} {v : Value} {l : List Nat} (h : Ws w v l) (he : Ext w w') : Ws w' v l := by
  obtain ⟨A, c, e, h1, h2, h3, h4⟩ := h
  refine ⟨A, c, e, h1, h2, fun hp => ?_, h4⟩
  obtain ⟨b, o, ea, hc⟩ := h3 hp
  exact ⟨b, o, ea, fun i hi j hj => he.cell (hc i hi j hj)⟩

/-- The sum of the words, and whether it did not fit, one by one. -/
def sumS (s : Nat × Bool) (x : Nat) : Nat × Bool := (addN s.1 x, s.2 || ovr s.1 x)
def sumW (l : List Nat) : Nat × Bool := l.foldl sumS (0, false)
set_option maxRecDepth 100000 in
theorem sumW_take (l : List Nat) (k : Nat) (h : k < l.length) : sumW (l.take (k + 1)) = sumS (sumW (l.take k)) (l.getD k 0) := by
  unfold sumW
  rw [List.take_succ_eq_append_getElem h, List.foldl_append]
  simp [List.getD, List.getElem?_eq_getElem h]
set_option maxRecDepth 100000 in
theorem sumW_lt (l : List Nat) : (sumW l).1 < M256 := by
  unfold sumW
  suffices h : ∀ s : Nat × Bool, s.1 < M256 → (l.foldl sumS s).1 < M256 from h (0, false) (by decide)
  induction l with
  | nil => exact fun s h => h
  | cons x l ih => exact fun s _ => ih _ (addN_lt _ _)

set_option maxRecDepth 100000 in
set_option maxHeartbeats 2000000 in
theorem sum_any (v : Value) (l : List Nat) (w : World) (hv : Ws w v l) (hl : l.length ≤ 1000000) :
    Calls Try.prog 119 #[v] w fun e w' => e = .returned (.tuple #[wv (sumW l).1, .bool (sumW l).2]) ∧ Ext w w' := by
  obtain ⟨A, c, rfl, h1, h2, h3, h4⟩ := hv
  have H3 := Lib.hid h3
  have H4 := Lib.hid h4
  clear h3 h4
  go_enter Try.func119, Try.ntmps119
  go_wp2_with fail
  go_loopw [5, 12] (fun bv iv wr => ∃ k : Nat, k ≤ l.length ∧ iv = .int .i64 k ∧ bv = .bool (sumW (l.take k)).2 ∧ Hid (Ks w [(w.heap.size, 0), (w.heap.size + 1, (sumW (l.take k)).1)] wr)) (fun _ iv _ => l.length - (intOf iv).toNat)
  case atStart =>
    refine ⟨0, Nat.zero_le _, rfl, rfl, ?_⟩
    refine ⟨fun x hx => ?_, ((Ext.refl w).alloc _).alloc _⟩
    simp only [List.mem_cons, List.not_mem_nil, or_false] at hx
    rcases hx with rfl | rfl
    · exact ((Cs.new w (wc 0) _ _ rfl).alloc _).wd
    · exact (Cs.new _ (wc 0) _ _ (by simp)).wd
  case round =>
    obtain ⟨k, hk, rfl, rfl, HS⟩ := hrel
    by_cases hlt : k < l.length
    · have HT := Lib.hid (sumW_take l k hlt)
      have hx := H4.out k hlt
      have hs := sumW_lt (l.take k)
      obtain ⟨b, o, rfl, hc⟩ := H3.out (by omega)
      have q0 : wr.cell? ⟨b, o + k * 4, none⟩ = some (.int .u64 (lb (l.getD k 0) 0 : Nat)) := HS.out.2.cell (hc k hlt 0 (by omega))
      have q1 : wr.cell? ⟨b, o + k * 4 + 1, none⟩ = some (.int .u64 (lb (l.getD k 0) 1 : Nat)) := HS.out.2.cell (hc k hlt 1 (by omega))
      have q2 : wr.cell? ⟨b, o + k * 4 + 2, none⟩ = some (.int .u64 (lb (l.getD k 0) 2 : Nat)) := HS.out.2.cell (hc k hlt 2 (by omega))
      have q3 : wr.cell? ⟨b, o + k * 4 + 3, none⟩ = some (.int .u64 (lb (l.getD k 0) 3 : Nat)) := HS.out.2.cell (hc k hlt 3 (by omega))
      clear hc
      generalize l.getD k 0 = x at *
      generalize hss : sumW (l.take k) = ss at *
      obtain ⟨s, bo⟩ := ss
      dsimp only at hs HS
      have HSS := Lib.hid hss
      clear hss
      go_wp2_with ((with_reducible refine wpList_load_wordG ?_ 31 28 (.tmp 4) rfl Try.underlying31 winfo (w.heap.size + 1) s ?_ ?_ ?_); (exact rfl); (exact rfl); (exact (HS.out.at (w.heap.size + 1) s (by simp)).cs.alloc _))
      refine (add_w s x _ hs hx).mono ?_
      rintro e w3 ⟨rfl, ka, he⟩
      have HS3 := (HS.out.al _).ext he
      have HA := Lib.hid (show sumS (s, bo) x = (addN s x, bo || ovr s x) from rfl)
      clear he q0 q1 q2 q3 HS
      generalize addN s x = s' at *
      generalize ovr s x = b' at *
      go_wp2_with (first
        | ((with_reducible refine wpList_store_word rfl rfl 31 (.tmp 8) (.tmp 20) rfl winfo w3.heap.size (wc 0) s' ?_ ?_ ?_ ?_ ?_); (exact rfl); (exact rfl); (exact heap_alloc_new _ _); (exact rfl); intro w4 k4 g4; have HS4 := HS3.put g4 k4; clear k4 g4)
        | ((with_reducible refine wpList_load_wordG ?_ 31 28 (.tmp 8) rfl Try.underlying31 winfo w3.heap.size s' ?_ ?_ ?_); (exact rfl); (exact rfl); (exact HS4.at _ s' List.mem_cons_self))
        | ((with_reducible refine wpList_store_word rfl rfl 31 (.tmp 4) (.tmp 22) rfl winfo (w.heap.size + 1) (wc s) s' ?_ ?_ ?_ ?_ ?_); (exact rfl); (exact rfl); (exact (HS4.at (w.heap.size + 1) s (by simp)).cs); (exact rfl); intro w5 k5 g5))
      all_goals
        refine ⟨⟨k + 1, by omega, by go_num, ?_, ?_⟩, by simp [intOf]; omega⟩
        · rw [HT.out, HA.out]
          simp_all
        · rw [HT.out, HA.out]
          refine ⟨fun x hx => ?_, HS4.2.grown g5 (by omega)⟩
          simp only [List.mem_cons, List.not_mem_nil, or_false] at hx
          rcases hx with rfl | rfl
          · exact (HS4.at w.heap.size 0 (by simp)).kept g5 (some_ne (by omega))
          · exact k5
    · obtain rfl : k = l.length := by omega
      have HK : Hid (Ks w [(w.heap.size, 0), (w.heap.size + 1, (sumW l).1)] wr) := by
        have := HS.out
        rw [List.take_length] at this
        exact this
      rw [List.take_length]
      clear HS H3 H4
      generalize hss : sumW l = ss at *
      obtain ⟨s, bo⟩ := ss
      dsimp only at HK ⊢
      have HSS := Lib.hid hss
      clear hss
      go_wp2_with (first
        | ((with_reducible refine wpList_load_wordG ?_ 31 28 (.tmp 4) rfl Try.underlying31 winfo (w.heap.size + 1) s ?_ ?_ ?_); (exact rfl); (exact rfl); (exact HK.out.at (w.heap.size + 1) s (by simp)))
        | ((with_reducible refine wpList_store_word rfl rfl 31 (.tmp 2) (.tmp 28) rfl winfo w.heap.size (wc 0) s ?_ ?_ ?_ ?_ ?_); (exact rfl); (exact rfl); (exact (HK.out.at w.heap.size 0 (by simp)).cs); (exact rfl); intro w5 k5 g5))
      refine bodyPost_ret (results_word_tmp Try.results119 _ _ w.heap.size s rfl k5 Try.underlying31 winfo) rfl ⟨?_, HK.out.2.grown g5 (Nat.le_refl _)⟩
      first | rfl | (rw [HSS.out]; rfl)
end Go.Proofs.Ytiojfpdjnblkhaa
namespace Go.Proofs.Ytiojfpdjnblkhaa
open Go.RowKit

set_option maxRecDepth 100000 in
theorem cmp_bit (a b k : Nat) : cmpN (a % 2 ^ (k + 1)) (b % 2 ^ (k + 1)) = if bitN a k < bitN b k then -1 else if bitN b k < bitN a k then 1 else cmpN (a % 2 ^ k) (b % 2 ^ k) := by
  have e (n : Nat) : n % 2 ^ (k + 1) = n % 2 ^ k + 2 ^ k * bitN n k := by
    rw [Nat.pow_succ, Nat.mod_mul]
    rfl
  rw [e, e]
  have ha := Nat.mod_lt a (show 0 < 2 ^ k from Nat.two_pow_pos k)
  have hb := Nat.mod_lt b (show 0 < 2 ^ k from Nat.two_pow_pos k)
  have hx := bitN_lt a k
  have hy := bitN_lt b k
  unfold cmpN
  rcases (show bitN a k = 0 ∨ bitN a k = 1 by omega) with h | h <;> rcases (show bitN b k = 0 ∨ bitN b k = 1 by omega) with h' | h' <;> rw [h, h'] <;> simp <;> (try omega)

set_option maxRecDepth 100000 in
set_option maxHeartbeats 4000000 in
theorem refCmp_any (a b : Nat) (w : World) (ha : a < M256) (hb : b < M256) :
    Calls Try.prog 64 #[wv a, wv b] w fun e w' => e = .returned (.int .i64 (cmpN a b)) ∧ Ext w w' := by
  have HA := Lib.hid ha
  have HB := Lib.hid hb
  clear ha hb
  unfold wv
  go_enter Try.func64, Try.ntmps64
  have HK0 : Hid (Ks w [(w.heap.size, a), (w.heap.size + 1, b)] ((w.alloc (.cells (wc a) 31)).alloc (.cells (wc b) 31))) :=
    ⟨fun x hx => by
      simp only [List.mem_cons, List.not_mem_nil, or_false] at hx
      rcases hx with rfl | rfl
      · exact ((Cs.new _ _ _ _ rfl).alloc _)
      · exact (Cs.new _ _ _ _ (by simp)), (((Ext.refl w).alloc _).alloc _)⟩
  go_wp2_with fail
  go_loopw [5, 6, 7, 8, 9, 10, 11, 12, 13, 14, 15, 16, 17, 18, 19, 20, 21, 22, 23] (fun i _ _ _ _ _ _ _ _ _ _ _ _ _ _ _ _ _ _ wr => ∃ k : Nat, k ≤ 256 ∧ i = .int .i64 ((k : Int) - 1) ∧ Hid (Ks w [(w.heap.size, a), (w.heap.size + 1, b)] wr) ∧ Hid (cmpN a b = cmpN (a % 2 ^ k) (b % 2 ^ k))) (fun i _ _ _ _ _ _ _ _ _ _ _ _ _ _ _ _ _ _ _ => (intOf i + 1).toNat)
  case atStart =>
    refine ⟨256, by omega, rfl, HK0, ?_⟩
    show _ = _
    rw [← M256_pow, Nat.mod_eq_of_lt HA.out, Nat.mod_eq_of_lt HB.out]
  case round =>
    clear HK0
    obtain ⟨k, hk, rfl, HS, HC⟩ := hrel
    have HS := HS.out
    by_cases hlt : 0 < k
    · obtain ⟨j, rfl⟩ : ∃ j, k = j + 1 := ⟨k - 1, by omega⟩
      rw [show ((j + 1 : Nat) : Int) - 1 = (j : Int) by omega]
      have HD := Lib.hid (HC.out.trans (cmp_bit a b j))
      have hi1 : (0 : Int) ≤ (j : Int) := by omega
      clear HC
      have HS := HS.drew
      go_wp2_with fail
      go_region_held3 (fun w' => (w'.cell? ⟨w.heap.size, 0, none⟩ = some (.int .u64 (lb a 0 : Nat)) ∧ w'.cell? ⟨w.heap.size, 1, none⟩ = some (.int .u64 (lb a 1 : Nat)) ∧ w'.cell? ⟨w.heap.size, 2, none⟩ = some (.int .u64 (lb a 2 : Nat)) ∧ w'.cell? ⟨w.heap.size, 3, none⟩ = some (.int .u64 (lb a 3 : Nat))) ∧ (w'.cell? ⟨w.heap.size + 1, 0, none⟩ = some (.int .u64 (lb b 0 : Nat)) ∧ w'.cell? ⟨w.heap.size + 1, 1, none⟩ = some (.int .u64 (lb b 1 : Nat)) ∧ w'.cell? ⟨w.heap.size + 1, 2, none⟩ = some (.int .u64 (lb b 2 : Nat)) ∧ w'.cell? ⟨w.heap.size + 1, 3, none⟩ = some (.int .u64 (lb b 3 : Nat))))
        (exact ⟨(HS.at _ a (by simp)).f4, (HS.at _ b (by simp)).f4⟩)
        (first
          | (go_at_call 105; refine (bit_any _ _ _ (by first | exact HA.out | exact HB.out) (by omega)).mono ?_; rintro e wx ⟨rfl, he⟩; have HS := HS.ext he; clear he)
          | fail)
      by_cases h1 : bitN a j < bitN b j
      · have g1 : decide ((bitN a j : Int) < (bitN b j : Int)) = true := by simpa using h1
        have HV := Lib.hid (show cmpN a b = -1 by rw [HD.out, if_pos h1])
        clear HD
        go_wp2_with fail
        go_ret
        exact ⟨ret_int HV.out.symm, HS.2⟩
      · have g1 : decide ((bitN a j : Int) < (bitN b j : Int)) = false := by simpa using h1
        by_cases h2 : bitN b j < bitN a j
        · have g2 : decide ((bitN b j : Int) < (bitN a j : Int)) = true := by simpa using h2
          have HV := Lib.hid (show cmpN a b = 1 by rw [HD.out, if_neg h1, if_pos h2])
          clear HD
          go_wp2_with fail
          go_ret
          exact ⟨ret_int HV.out.symm, HS.2⟩
        · have g2 : decide ((bitN b j : Int) < (bitN a j : Int)) = false := by simpa using h2
          have HV := Lib.hid (show cmpN a b = cmpN (a % 2 ^ j) (b % 2 ^ j) by rw [HD.out, if_neg h1, if_neg h2])
          clear HD
          go_wp2_with fail
          refine ⟨⟨j, by omega, rfl, HS, HV⟩, by simp [intOf]⟩
    · obtain rfl : k = 0 := by omega
      have HC' := Lib.hid (show cmpN a b = 0 by rw [HC.out]; simp [cmpN, Nat.mod_one])
      clear HC
      go_wp2_with fail
      go_ret
      exact ⟨ret_int HC'.out.symm, HS.2⟩
end Go.Proofs.Ytiojfpdjnblkhaa
