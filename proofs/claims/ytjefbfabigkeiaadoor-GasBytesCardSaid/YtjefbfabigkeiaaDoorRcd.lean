/- The document's own answers of layer 2: Add. The document's own answers of layer 2: Sub. Contract of Sum: the sum of many words. The document's own answers of layer 2: Cmp. -/
import Derived.Test.YtjefbfabigkeiaaDoorRbd
import Derived.Test.YtjefbfabigkeiaaDoorWrl
import Derived.Test.YtjefbfabigkeiaaDoorWre
namespace Go.Proofs.YtjefbfabigkeiaaDoor
open Go.RowKit

/-- A word's block, which at last holds the word r. -/
def Rz (W : World) (g : Nat) (c : Bool) (r : Nat) : Prop := ∃ cs, Cs W g 36 cs ∧ cs.size = 4 ∧ (c = true → cs = wc r)
set_option maxRecDepth 100000 in
theorem Rz.ext {W W' : World} {g : Nat} {c c' : Bool} {r : Nat} (h : Rz W g c r) (he : Ext W W') (hc : c' = true → c = true) : Rz W' g c' r := by
  obtain ⟨cs, h1, h2, h3⟩ := h
  exact ⟨cs, h1.ext he, h2, fun e => h3 (hc e)⟩
set_option maxRecDepth 100000 in
theorem ofN_bitsL (s : Nat) : ofN (bitsL s 257) = s % M256 := by
  refine word_bits (ofN_lt _) (Nat.mod_lt _ (by decide)) fun j hj => ?_
  rw [ofN_tb, bitsL_get, if_pos (by omega), M256_pow, Nat.testBit_mod_two_pow, bitN_tb]
  cases s.testBit j <;> simp [hj]
set_option maxRecDepth 100000 in
theorem top_bit (a b : Nat) (ha : a < M256) (hb : b < M256) : ((bitN (a + b) 256 : Nat) == 1) = ovr a b := by
  unfold bitN ovr
  rw [← M256_pow]
  by_cases h : M256 ≤ a + b
  · have : (a + b) / M256 = 1 := by
      rw [Nat.div_eq_iff (by decide)]
      unfold M256 at *
      omega
    rw [this]
    simp [h]
  · rw [Nat.div_eq_of_lt (by omega)]
    simp [h]

set_option maxRecDepth 100000 in
set_option maxHeartbeats 4000000 in
theorem refAdd_any (a b : Nat) (w : World) (ha : a < M256) (hb : b < M256) :
    Calls Tryd.prog 50 #[wv a, wv b] w (RetWB w (addN a b) (ovr a b)) := by
  have HA := Lib.hid ha
  have HB := Lib.hid hb
  have HTB := Lib.hid (top_bit a b ha hb)
  have HTI := Lib.hid (show (((bitN (a + b) 256 : Nat) : Int) == 1) = ovr a b by rw [← top_bit a b ha hb]; have := bitN_lt (a + b) 256; rcases (show bitN (a + b) 256 = 0 ∨ bitN (a + b) 256 = 1 by omega) with h | h <;> rw [h] <;> rfl)
  have HSM := Lib.hid (show ofN (bitsL (a + b) 257) = addN a b from ofN_bitsL (a + b))
  have HPA := Lib.hid (show a < 2 ^ 256 by rw [← M256_pow]; exact ha)
  have HPB := Lib.hid (show b < 2 ^ 256 by rw [← M256_pow]; exact hb)
  clear ha hb
  have HS : Ks w [(w.heap.size, a), (w.heap.size + 1, b)] (((w.alloc (.cells (wc a) 36)).alloc (.cells (wc b) 36)).alloc (.cells #[.int .u64 0, .int .u64 0, .int .u64 0, .int .u64 0] 36)) :=
    ⟨fun x hx => by
      simp only [List.mem_cons, List.not_mem_nil, or_false] at hx
      rcases hx with rfl | rfl
      · exact ((Cs.new _ _ _ _ rfl).alloc _).alloc _
      · exact (Cs.new _ _ _ _ (by simp)).alloc _, (((Ext.refl w).alloc _).alloc _).alloc _⟩
  have HZ : Hid (Cs (((w.alloc (.cells (wc a) 36)).alloc (.cells (wc b) 36)).alloc (.cells #[.int .u64 0, .int .u64 0, .int .u64 0, .int .u64 0] 36)) (w.heap.size + 1 + 1) 36 (wc 0)) := Cs.new _ _ _ _ (by simp)
  have HS := HS.drew
  have HZ := Lib.hid (Cs.drew HZ.out)
  unfold wv
  go_enter Tryd.func50, Tryd.ntmps50
  go_wp2_with fail
  go_region_held3 (fun w' => (w'.cell? ⟨w.heap.size, 0, none⟩ = some (.int .u64 (lb a 0 : Nat)) ∧ w'.cell? ⟨w.heap.size, 1, none⟩ = some (.int .u64 (lb a 1 : Nat)) ∧ w'.cell? ⟨w.heap.size, 2, none⟩ = some (.int .u64 (lb a 2 : Nat)) ∧ w'.cell? ⟨w.heap.size, 3, none⟩ = some (.int .u64 (lb a 3 : Nat))) ∧ (w'.cell? ⟨w.heap.size + 1, 0, none⟩ = some (.int .u64 (lb b 0 : Nat)) ∧ w'.cell? ⟨w.heap.size + 1, 1, none⟩ = some (.int .u64 (lb b 1 : Nat)) ∧ w'.cell? ⟨w.heap.size + 1, 2, none⟩ = some (.int .u64 (lb b 2 : Nat)) ∧ w'.cell? ⟨w.heap.size + 1, 3, none⟩ = some (.int .u64 (lb b 3 : Nat))))
    (exact ⟨(HS.at _ a (by simp)).f4, (HS.at _ b (by simp)).f4⟩)
    (first
      | (go_at_call 63; have _t := hr1; refine (bitsL_own b _ HB.out).mono ?_; rintro e wy ⟨vy, rfl, ho, he⟩; have hr2 := ho.rs; have hr1 := hr1.ext he; have HS := HS.ext he; have HZ := Lib.hid (Cs.ext HZ.out he); clear ho he)
      | (go_at_call 63; refine (bitsL_own a _ HA.out).mono ?_; rintro e wx ⟨vx, rfl, ho, he⟩; have hr1 := ho.rs; have HS := HS.ext he; have HZ := Lib.hid (Cs.ext HZ.out he); clear ho he)
      | (go_at_call 62; rw [bitsL_len] at hr1 hr2; refine (refadd_any _ _ a b 256 _ hr1 hr2 HPA.out HPB.out (by omega) (by omega)).mono ?_; rintro e wz ⟨vz, rfl, ho, he⟩; have hr3 := ho.rs; have hbs : ∀ k, vz.ownBlock = some k → w.heap.size + 1 + 1 < k := fun k e => Nat.lt_of_lt_of_le HZ.out.lt (World.ownsRow.lt ho k e).1; have HS := HS.ext he; have HZ := Lib.hid (Cs.ext HZ.out he); clear ho he)
      | fail)
  rw [bitsL_len] at hr3
  obtain ⟨_, A, c, hvz, hc1, hc2, hcell⟩ := id hr3
  subst hvz
  obtain ⟨bz, oz, hAz, hcz⟩ := hcell (by omega)
  subst hAz
  have hbz : w.heap.size + 1 + 1 < bz := hbs bz rfl
  have HR := Lib.hid hr3
  have HE := Lib.hid HS.2
  have HC := Lib.hid (show wz.cell? ⟨bz, oz + 256, none⟩ = some (.int .i64 (bitN (a + b) 256 : Nat)) from hcz 256 (iv (bitN (a + b) 256)) (by simp [bitsL]))
  clear hr1 hr2 hr3 HS hcell hcz hbs
  unfold maxLen at hc2
  go_wp2_with fail
  generalize hR : addN a b = R at *
  generalize ho : ovr a b = o at *
  have HRR := Lib.hid hR
  clear hR ho
  refine wp_named fun a0 ha0 => ?_
  obtain ⟨fr, hfr⟩ : ∃ fr : (Nat → Value) → Act, ∀ V, fr V = (((((((a0.put (some 12) (V 0)).put (some 13) (V 1)).put (some 14) (V 2)).put (some 15) (V 3)).put (some 16) (V 4)).put (some 17) (V 5)).put (some 5) (V 7)) := ⟨_, fun _ => rfl⟩
  rw [ha0] at hfr
  simp only [Act.put, List.setIfInBounds_toArray, List.set_cons_zero, List.set_cons_succ] at hfr
  have HFR := Lib.hid hfr
  clear hfr
  refine wp_region_inv (by kernel_rfl) (by kernel_rfl) (fun L A W => ∃ V : Nat → Value, A = fr V ∧ Ext w W ∧ Vals (fun j => ([some ((.slice (some ⟨bz, oz, none⟩) (256 + 1) c)), some (wv R), some (.slice (some ⟨bz, oz, none⟩) (256 + 1) c), some (.pointer (some ⟨bz, oz + 256, none⟩)), some (.int .i64 (bitN (a + b) 256 : Nat)), some (.bool o), none, some (.bool o)] : List (Option Value)).getD j none) L V ∧ Rz W (w.heap.size + 1 + 1) (L 6) R ∧ (L 6 = false → Rs W 1 (.slice (some ⟨bz, oz, none⟩) (256 + 1) c) (256 + 1) ((bitsL (a + b) (256 + 1)).map iv)) ∧ W.cell? ⟨bz, oz + 256, none⟩ = some (.int .i64 (bitN (a + b) 256 : Nat))) ?_ ⟨?_, ?_, ?_, ?_, ?_, ?_, ?_, ?_, trivial⟩ ?_
  · refine ⟨fun j => a0.tmps.getD (([12, 13, 14, 15, 16, 17, 0, 5] : List Nat).getD j 0) undef, ?_, HE.out.drew, Vals.no _ _ _ (far_none _ _ rfl), ⟨_, Cs.drew HZ.out, rfl, fun h => absurd h (by decide)⟩, fun _ => HR.out.ext (Ext.refl _).drew, HC.out⟩
    rw [HFR.out, ha0]
    rfl
  all_goals clear ha0 HZ HC HR HE
  · rintro L A W K hL hC hW ⟨V, rfl, hE, HV, hz, hr, hc⟩ hK
    have H := Lib.hid (hK _ W ⟨upd V 0 ((.slice (some ⟨bz, oz, none⟩) (256 + 1) c)), rfl, hE, HV.up 0 _ (fun x hx => Option.some.inj hx), hz.ext (Ext.refl _) (fun h => more_ne h rfl), fun h => hr (more_no h rfl), hc⟩)
    clear hK hC hW hL HV hz hr hE
    rw [HFR.out]
    go_wp2_with fail
    show K _ _
    have := H.out
    rw [HFR.out] at this
    exact this
  · rintro L A W K hL hC hW ⟨V, rfl, hE, HV, hz, hr, hc⟩ hK
    have e0 : V 0 = .slice (some ⟨bz, oz, none⟩) (256 + 1) c := HV 0 _ rfl (hW 0 rfl)
    have u0 : (upd V 1 (wv R)) 0 = .slice (some ⟨bz, oz, none⟩) (256 + 1) c := e0
    have h6 : L 6 = false := hC.no hL 6 _ rfl rfl
    have HQ := Lib.hid (hr h6)
    have H := Lib.hid (fun (W' : World) (he : Ext W W') => hK _ W' ⟨upd V 1 (wv R), rfl, hE.trans he, HV.up 1 _ (fun x hx => Option.some.inj hx), hz.ext he (fun h => more_ne h rfl), fun h => (hr (more_no h rfl)).ext he, he.cell hc⟩)
    clear hK hC hW hL HV hz hr hE hc h6
    rw [HFR.out]
    rw [e0]
    clear e0
    go_wp2_with fail
    refine (of_bits _ (bitsL (a + b) 257) _ (by rw [bitsL_len]; exact HQ.out) (by rw [bitsL_len]; omega)).mono ?_
    rintro e wx ⟨rfl, he⟩
    rw [HSM.out]
    have := H.out wx he
    clear H he HQ
    go_wp2_with fail
    show K _ _
    rw [HFR.out] at this
    rw [u0] at this
    exact this
  · rintro L A W K hL hC hW ⟨V, rfl, hE, HV, hz, hr, hc⟩ hK
    have H := Lib.hid (hK _ W ⟨upd V 2 (.slice (some ⟨bz, oz, none⟩) (256 + 1) c), rfl, hE, HV.up 2 _ (fun x hx => Option.some.inj hx), hz.ext (Ext.refl _) (fun h => more_ne h rfl), fun h => hr (more_no h rfl), hc⟩)
    clear hK hC hW hL HV hz hr hE
    rw [HFR.out]
    go_wp2_with fail
    show K _ _
    have := H.out
    rw [HFR.out] at this
    exact this
  · rintro L A W K hL hC hW ⟨V, rfl, hE, HV, hz, hr, hc⟩ hK
    have e2 : V 2 = .slice (some ⟨bz, oz, none⟩) (256 + 1) c := HV 2 _ rfl (hW 2 rfl)
    have u2 : (upd V 3 (.pointer (some ⟨bz, oz + 256, none⟩))) 2 = .slice (some ⟨bz, oz, none⟩) (256 + 1) c := e2
    have H := Lib.hid (hK _ W ⟨upd V 3 (.pointer (some ⟨bz, oz + 256, none⟩)), rfl, hE, HV.up 3 _ (fun x hx => Option.some.inj hx), hz.ext (Ext.refl _) (fun h => more_ne h rfl), fun h => hr (more_no h rfl), hc⟩)
    clear hK hC hW hL HV hz hr hE
    rw [HFR.out]
    rw [e2]
    clear e2
    go_wp2_with fail
    show K _ _
    have := H.out
    rw [HFR.out] at this
    rw [u2] at this
    exact this
  · rintro L A W K hL hC hW ⟨V, rfl, hE, HV, hz, hr, hc⟩ hK
    have e3 : V 3 = .pointer (some ⟨bz, oz + 256, none⟩) := HV 3 _ rfl (hW 3 rfl)
    have u3 : (upd V 4 (.int .i64 (bitN (a + b) 256 : Nat))) 3 = .pointer (some ⟨bz, oz + 256, none⟩) := e3
    have H := Lib.hid (hK _ W ⟨upd V 4 (.int .i64 (bitN (a + b) 256 : Nat)), rfl, hE, HV.up 4 _ (fun x hx => Option.some.inj hx), hz.ext (Ext.refl _) (fun h => more_ne h rfl), fun h => hr (more_no h rfl), hc⟩)
    clear hK hC hW hL HV hz hr hE
    rw [HFR.out]
    rw [e3]
    clear e3
    go_wp2_with fail
    show K _ _
    have := H.out
    rw [HFR.out] at this
    rw [u3] at this
    exact this
  · rintro L A W K hL hC hW ⟨V, rfl, hE, HV, hz, hr, hc⟩ hK
    have e4 : V 4 = .int .i64 (bitN (a + b) 256 : Nat) := HV 4 _ rfl (hW 4 rfl)
    have u4 : (upd V 5 (.bool o)) 4 = .int .i64 (bitN (a + b) 256 : Nat) := e4
    have H := Lib.hid (hK _ W ⟨upd V 5 (.bool o), rfl, hE, HV.up 5 _ (fun x hx => Option.some.inj hx), hz.ext (Ext.refl _) (fun h => more_ne h rfl), fun h => hr (more_no h rfl), hc⟩)
    clear hK hC hW hL HV hz hr hE
    rw [HFR.out]
    rw [e4]
    clear e4
    go_wp2_with fail
    rw [show (((bitN (a + b) 256 : Nat) : Int) == 1) = o from HTI.out]
    show K _ _
    have := H.out
    rw [HFR.out] at this
    rw [u4] at this
    exact this
  · rintro L A W K hL hC hW ⟨V, rfl, hE, HV, hz, hr, hc⟩ hK
    have e1 : V 1 = wv R := HV 1 _ rfl (hW 1 rfl)
    obtain ⟨cs, k1, k2, _⟩ := hz
    rw [HFR.out]
    refine wpList_store_word rfl rfl 36 (.tmp 4) (.tmp 13) rfl winfo (w.heap.size + 1 + 1) cs R rfl e1 k1 k2 ?_
    intro W' hw hg
    show K _ _
    have := hK _ W' ⟨V, rfl, hE.grown hg (by omega), HV.st 6 rfl, ⟨wc R, hw, rfl, fun _ => rfl⟩, fun h => (by cases (show true = false from h)), ?_⟩
    · rw [HFR.out] at this
      exact this
    · have hbl := World.block_lt_of_cell? W _ hc
      have h2 := hg.block bz hbl (some_ne (by omega))
      rw [← hc]
      exact World.cell?_of_block (a := ⟨bz, oz + 256, none⟩) h2
  · rintro L A W K hL hC hW ⟨V, rfl, hE, HV, hz, hr, hc⟩ hK
    have e5 : V 5 = .bool o := HV 5 _ rfl (hW 5 rfl)
    have u5 : (upd V 7 (.bool o)) 5 = .bool o := e5
    have H := Lib.hid (hK _ W ⟨upd V 7 (.bool o), rfl, hE, HV.up 7 _ (fun x hx => Option.some.inj hx), hz.ext (Ext.refl _) (fun h => more_ne h rfl), fun h => hr (more_no h rfl), hc⟩)
    clear hK hC hW hL HV hz hr hE
    rw [HFR.out]
    rw [e5]
    clear e5
    go_wp2_with fail
    show K _ _
    have := H.out
    rw [HFR.out] at this
    rw [u5] at this
    exact this
  · rintro L A W hL ⟨V, rfl, hE, HV, ⟨cs, k1, _, k3⟩, _, _⟩
    have e7 : V 7 = .bool o := HV 7 _ rfl (hL 7 (by simp))
    rw [k3 (hL 6 (by simp))] at k1
    have HW := Lib.hid k1
    have HE := Lib.hid hE
    clear k1 k3 hL hE HV
    rw [HFR.out]
    rw [e7]
    clear e7
    go_wp2_with fail
    exact bodyPost_ret (results_word_tmp Tryd.results50 _ _ (w.heap.size + 1 + 1) _ rfl HW.out Tryd.underlying36 winfo) rfl ⟨rfl, (by rw [← HRR.out]; exact addN_lt a b), HE.out⟩
end Go.Proofs.YtjefbfabigkeiaaDoor
namespace Go.Proofs.YtjefbfabigkeiaaDoor
open Go.RowKit

/-! ### A difference is what is missing to a sum -/
set_option maxRecDepth 100000 in
theorem sub_add (a b : Nat) (ha : a < M256) (hb : b < M256) : (subN a b + b) % M256 = a := by
  unfold subN M256 at *
  omega
set_option maxRecDepth 100000 in
theorem sub_over (a b : Nat) (ha : a < M256) (hb : b < M256) : decide (M256 ≤ subN a b + b) = und a b := by
  unfold subN und
  by_cases h : a < b
  · rw [show (a + M256 - b) % M256 = a + M256 - b from Nat.mod_eq_of_lt (by omega)]
    simp [h]; omega
  · rw [show (a + M256 - b) % M256 = a - b by unfold M256 at *; omega]
    simp [h]; omega
set_option maxRecDepth 100000 in
theorem bitN_low (s k : Nat) (hk : k < 256) : bitN (s % M256) k = bitN s k := by
  rw [bitN_tb, bitN_tb, M256_pow, Nat.testBit_mod_two_pow]
  simp [hk]
set_option maxRecDepth 100000 in
theorem sub_bit (a b k : Nat) (ha : a < M256) (hb : b < M256) (hk : k < 256) : bitN a k = sumN (subN a b) b k % 2 := by
  rw [← bitN_add]
  conv => lhs; rw [← sub_add a b ha hb]
  exact bitN_low _ _ hk
set_option maxRecDepth 100000 in
theorem ofN_bits256 (d : Nat) (hd : d < M256) : ofN (bitsL d 256) = d := by
  refine word_bits (ofN_lt _) hd fun j hj => ?_
  rw [ofN_tb, bitsL_get, if_pos hj, bitN_tb]
  cases d.testBit j <;> simp [hj]
set_option maxRecDepth 100000 in
theorem sub_top (a b : Nat) (ha : a < M256) (hb : b < M256) : (((carN (subN a b) b 256 : Nat) : Int) == 1) = und a b := by
  have hd : subN a b < M256 := Nat.mod_lt _ (by decide)
  rw [carN_top _ _ 256 (by rw [← M256_pow]; exact hd) (by rw [← M256_pow]; exact hb), ← sub_over a b ha hb]
  have h := top_bit (subN a b) b hd hb
  unfold ovr at h
  rw [← h]
  have := bitN_lt (subN a b + b) 256
  rcases (show bitN (subN a b + b) 256 = 0 ∨ bitN (subN a b + b) 256 = 1 by omega) with h | h <;> rw [h] <;> rfl

end Go.Proofs.YtjefbfabigkeiaaDoor
namespace Go.Proofs.YtjefbfabigkeiaaDoor
open Go.RowKit

/-- The slice v reads as the words l. -/
def Ws (w : World) (v : Value) (l : List Nat) : Prop :=
  ∃ A c, v = .slice A l.length c ∧ l.length ≤ c ∧ c ≤ maxLen ∧ (0 < l.length → ∃ b o, A = some ⟨b, o, none⟩ ∧ ∀ i, i < l.length → ∀ j, j < 4 → w.cell? ⟨b, o + i * 4 + j, none⟩ = some (.int .u64 (lb (l.getD i 0) j : Nat))) ∧ ∀ i, i < l.length → l.getD i 0 < M256

set_option maxRecDepth 100000 in
theorem Ws.ext {w w' : World} {v : Value} {l : List Nat} (h : Ws w v l) (he : Ext w w') : Ws w' v l := by
  obtain ⟨A, c, e, h1, h2, h3, h4⟩ := h
  refine ⟨A, c, e, h1, h2, fun hp => ?_, h4⟩
  obtain ⟨b, o, ea, hc⟩ := h3 hp
  exact ⟨b, o, ea, fun i hi j hj => he.cell (hc i hi j hj)⟩

/-- The sum of the words, and whether it did not fit, one by one. -/
def sumS (s : Nat × Bool) (x : Nat) : Nat × Bool := (addN s.1 x, s.2 || ovr s.1 x)
def sumW (l : List Nat) : Nat × Bool := l.foldl sumS (0, false)
set_option maxRecDepth 100000 in
theorem sumW_take (l : List Nat) (k : Nat) (h : k < l.length) : sumW (l.take (k + 1)) = sumS (sumW (l.take k)) (l.getD k 0) := by
  unfold sumW
  rw [List.take_succ_eq_append_getElem h, List.foldl_append]
  simp [List.getD, List.getElem?_eq_getElem h]
set_option maxRecDepth 100000 in
theorem sumW_lt (l : List Nat) : (sumW l).1 < M256 := by
  unfold sumW
  suffices h : ∀ s : Nat × Bool, s.1 < M256 → (l.foldl sumS s).1 < M256 from h (0, false) (by decide)
  induction l with
  | nil => exact fun s h => h
  | cons x l ih => exact fun s _ => ih _ (addN_lt _ _)

end Go.Proofs.YtjefbfabigkeiaaDoor
namespace Go.Proofs.YtjefbfabigkeiaaDoor
open Go.RowKit

set_option maxRecDepth 100000 in
theorem cmp_bit (a b k : Nat) : cmpN (a % 2 ^ (k + 1)) (b % 2 ^ (k + 1)) = if bitN a k < bitN b k then -1 else if bitN b k < bitN a k then 1 else cmpN (a % 2 ^ k) (b % 2 ^ k) := by
  have e (n : Nat) : n % 2 ^ (k + 1) = n % 2 ^ k + 2 ^ k * bitN n k := by
    rw [Nat.pow_succ, Nat.mod_mul]
    rfl
  rw [e, e]
  have ha := Nat.mod_lt a (show 0 < 2 ^ k from Nat.two_pow_pos k)
  have hb := Nat.mod_lt b (show 0 < 2 ^ k from Nat.two_pow_pos k)
  have hx := bitN_lt a k
  have hy := bitN_lt b k
  unfold cmpN
  rcases (show bitN a k = 0 ∨ bitN a k = 1 by omega) with h | h <;> rcases (show bitN b k = 0 ∨ bitN b k = 1 by omega) with h' | h' <;> rw [h, h'] <;> simp <;> (try omega)

set_option maxRecDepth 100000 in
set_option maxHeartbeats 4000000 in
theorem refCmp_any (a b : Nat) (w : World) (ha : a < M256) (hb : b < M256) :
    Calls Tryd.prog 51 #[wv a, wv b] w fun e w' => e = .returned (.int .i64 (cmpN a b)) ∧ Ext w w' := by
  have HA := Lib.hid ha
  have HB := Lib.hid hb
  clear ha hb
  unfold wv
  go_enter Tryd.func51, Tryd.ntmps51
  have HK0 : Hid (Ks w [(w.heap.size, a), (w.heap.size + 1, b)] ((w.alloc (.cells (wc a) 36)).alloc (.cells (wc b) 36))) :=
    ⟨fun x hx => by
      simp only [List.mem_cons, List.not_mem_nil, or_false] at hx
      rcases hx with rfl | rfl
      · exact ((Cs.new _ _ _ _ rfl).alloc _)
      · exact (Cs.new _ _ _ _ (by simp)), (((Ext.refl w).alloc _).alloc _)⟩
  go_wp2_with fail
  go_loopw [5, 6, 7, 8, 9, 10, 11, 12, 13, 14, 15, 16, 17, 18, 19, 20, 21, 22, 23] (fun i _ _ _ _ _ _ _ _ _ _ _ _ _ _ _ _ _ _ wr => ∃ k : Nat, k ≤ 256 ∧ i = .int .i64 ((k : Int) - 1) ∧ Hid (Ks w [(w.heap.size, a), (w.heap.size + 1, b)] wr) ∧ Hid (cmpN a b = cmpN (a % 2 ^ k) (b % 2 ^ k))) (fun i _ _ _ _ _ _ _ _ _ _ _ _ _ _ _ _ _ _ _ => (intOf i + 1).toNat)
  case atStart =>
    refine ⟨256, by omega, rfl, HK0, ?_⟩
    show _ = _
    rw [← M256_pow, Nat.mod_eq_of_lt HA.out, Nat.mod_eq_of_lt HB.out]
  case round =>
    clear HK0
    obtain ⟨k, hk, rfl, HS, HC⟩ := hrel
    have HS := HS.out
    by_cases hlt : 0 < k
    · obtain ⟨j, rfl⟩ : ∃ j, k = j + 1 := ⟨k - 1, by omega⟩
      rw [show ((j + 1 : Nat) : Int) - 1 = (j : Int) by omega]
      have HD := Lib.hid (HC.out.trans (cmp_bit a b j))
      have hi1 : (0 : Int) ≤ (j : Int) := by omega
      clear HC
      have HS := HS.drew
      go_wp2_with fail
      go_region_held3 (fun w' => (w'.cell? ⟨w.heap.size, 0, none⟩ = some (.int .u64 (lb a 0 : Nat)) ∧ w'.cell? ⟨w.heap.size, 1, none⟩ = some (.int .u64 (lb a 1 : Nat)) ∧ w'.cell? ⟨w.heap.size, 2, none⟩ = some (.int .u64 (lb a 2 : Nat)) ∧ w'.cell? ⟨w.heap.size, 3, none⟩ = some (.int .u64 (lb a 3 : Nat))) ∧ (w'.cell? ⟨w.heap.size + 1, 0, none⟩ = some (.int .u64 (lb b 0 : Nat)) ∧ w'.cell? ⟨w.heap.size + 1, 1, none⟩ = some (.int .u64 (lb b 1 : Nat)) ∧ w'.cell? ⟨w.heap.size + 1, 2, none⟩ = some (.int .u64 (lb b 2 : Nat)) ∧ w'.cell? ⟨w.heap.size + 1, 3, none⟩ = some (.int .u64 (lb b 3 : Nat))))
        (exact ⟨(HS.at _ a (by simp)).f4, (HS.at _ b (by simp)).f4⟩)
        (first
          | (go_at_call 65; refine (bit_any _ _ _ (by first | exact HA.out | exact HB.out) (by omega)).mono ?_; rintro e wx ⟨rfl, he⟩; have HS := HS.ext he; clear he)
          | fail)
      by_cases h1 : bitN a j < bitN b j
      · have g1 : decide ((bitN a j : Int) < (bitN b j : Int)) = true := by simpa using h1
        have HV := Lib.hid (show cmpN a b = -1 by rw [HD.out, if_pos h1])
        clear HD
        go_wp2_with fail
        go_ret
        exact ⟨ret_int HV.out.symm, HS.2⟩
      · have g1 : decide ((bitN a j : Int) < (bitN b j : Int)) = false := by simpa using h1
        by_cases h2 : bitN b j < bitN a j
        · have g2 : decide ((bitN b j : Int) < (bitN a j : Int)) = true := by simpa using h2
          have HV := Lib.hid (show cmpN a b = 1 by rw [HD.out, if_neg h1, if_pos h2])
          clear HD
          go_wp2_with fail
          go_ret
          exact ⟨ret_int HV.out.symm, HS.2⟩
        · have g2 : decide ((bitN b j : Int) < (bitN a j : Int)) = false := by simpa using h2
          have HV := Lib.hid (show cmpN a b = cmpN (a % 2 ^ j) (b % 2 ^ j) by rw [HD.out, if_neg h1, if_neg h2])
          clear HD
          go_wp2_with fail
          refine ⟨⟨j, by omega, rfl, HS, HV⟩, by simp [intOf]⟩
    · obtain rfl : k = 0 := by omega
      have HC' := Lib.hid (show cmpN a b = 0 by rw [HC.out]; simp [cmpN, Nat.mod_one])
      clear HC
      go_wp2_with fail
      go_ret
      exact ⟨ret_int HC'.out.symm, HS.2⟩
end Go.Proofs.YtjefbfabigkeiaaDoor
