/- Rows of words: the append of many, and a store into the row. -/
import Derived.Test.YtnjpdchmdimaaaaGreatQRbd
import Derived.Test.YtnjpdchmdimaaaaGreatQInw
import Derived.Test.YtnjpdchmdimaaaaGreatQWre
import Derived.Deep.Slices
import Derived.Maps.AppendAt
import Derived.Test.YtnjpdchmdimaaaaGreatQByt
import Derived.Laws.CopyRow
namespace Go.Proofs.YtnjpdchmdimaaaaGreat
open Go.RowKit

def Rz (W : World) (g : Nat) (c : Bool) (r : Nat) : Prop := ∃ cs, Cs W g 75 cs ∧ cs.size = 4 ∧ (c = true → cs = wc r)
theorem Rz.ext {W W' : World} {g : Nat} {c c' : Bool} {r : Nat} (h : Rz W g c r) (he : Ext W W') (hc : c' = true → c = true) : Rz W' g c' r := by
 obtain ⟨cs, h1, h2, h3⟩ := h
 exact ⟨cs, h1.ext he, h2, fun e => h3 (hc e)⟩
theorem ofN_bitsL (s : Nat) : ofN (bitsL s 257) = s % M256 := by
 refine word_bits (ofN_lt _) (Nat.mod_lt _ (by decide)) fun j hj => ?_
 rw [ofN_tb, bitsL_get, if_pos (by omega), M256_pow, Nat.testBit_mod_two_pow, bitN_tb]
 cases s.testBit j <;> simp [hj]
theorem top_bit (a b : Nat) (ha : a < M256) (hb : b < M256) : ((bitN (a + b) 256 : Nat) == 1) = ovr a b := by
 unfold bitN ovr
 rw [← M256_pow]
 by_cases h : M256 ≤ a + b
 ·have : (a + b) / M256 = 1 := by
   rw [Nat.div_eq_iff (by decide)]
   unfold M256 at *
   omega
  rw [this]
  simp [h]
 ·rw [Nat.div_eq_of_lt (by omega)]
  simp [h]

set_option maxRecDepth 100000 in
set_option maxHeartbeats 4000000 in
theorem refAdd_any (a b : Nat) (w : World) (ha : a < M256) (hb : b < M256) :
  Calls Tryz.prog 122 #[wv a, wv b] w (RetWB w (addN a b) (ovr a b)) := by
 have HA := Lib.hid ha
 have HB := Lib.hid hb
 have HTB := Lib.hid (top_bit a b ha hb)
 have HTI := Lib.hid (show (((bitN (a + b) 256 : Nat) : Int) == 1) = ovr a b by rw [← top_bit a b ha hb]; have := bitN_lt (a + b) 256; rcases (show bitN (a + b) 256 = 0 ∨ bitN (a + b) 256 = 1 by omega) with h | h <;> rw [h] <;> rfl)
 have HSM := Lib.hid (show ofN (bitsL (a + b) 257) = addN a b from ofN_bitsL (a + b))
 have HPA := Lib.hid (show a < 2 ^ 256 by rw [← M256_pow]; exact ha)
 have HPB := Lib.hid (show b < 2 ^ 256 by rw [← M256_pow]; exact hb)
 clear ha hb
 have HS : Ks w [(w.heap.size, a), (w.heap.size + 1, b)] (((w.alloc (.cells (wc a) 75)).alloc (.cells (wc b) 75)).alloc (.cells #[.int .u64 0, .int .u64 0, .int .u64 0, .int .u64 0] 75)) :=
  ⟨fun x hx => by
   simp only [List.mem_cons, List.not_mem_nil, or_false] at hx
   rcases hx with rfl | rfl
   ·exact ((Cs.new _ _ _ _ rfl).alloc _).alloc _
   ·exact (Cs.new _ _ _ _ (by simp)).alloc _, (((Ext.refl w).alloc _).alloc _).alloc _⟩
 have HZ : Hid (Cs (((w.alloc (.cells (wc a) 75)).alloc (.cells (wc b) 75)).alloc (.cells #[.int .u64 0, .int .u64 0, .int .u64 0, .int .u64 0] 75)) (w.heap.size + 1 + 1) 75 (wc 0)) := Cs.new _ _ _ _ (by simp)
 have HS := HS.drew
 have HZ := Lib.hid (Cs.drew HZ.out)
 unfold wv
 go_enter Tryz.func122, Tryz.ntmps122
 go_wp2_with fail
 go_region_held3 (fun w' => (w'.cell? ⟨w.heap.size, 0, none⟩ = some (.int .u64 (lb a 0 : Nat)) ∧ w'.cell? ⟨w.heap.size, 1, none⟩ = some (.int .u64 (lb a 1 : Nat)) ∧ w'.cell? ⟨w.heap.size, 2, none⟩ = some (.int .u64 (lb a 2 : Nat)) ∧ w'.cell? ⟨w.heap.size, 3, none⟩ = some (.int .u64 (lb a 3 : Nat))) ∧ (w'.cell? ⟨w.heap.size + 1, 0, none⟩ = some (.int .u64 (lb b 0 : Nat)) ∧ w'.cell? ⟨w.heap.size + 1, 1, none⟩ = some (.int .u64 (lb b 1 : Nat)) ∧ w'.cell? ⟨w.heap.size + 1, 2, none⟩ = some (.int .u64 (lb b 2 : Nat)) ∧ w'.cell? ⟨w.heap.size + 1, 3, none⟩ = some (.int .u64 (lb b 3 : Nat))))
  (exact ⟨(HS.at _ a (by simp)).f4, (HS.at _ b (by simp)).f4⟩)
  (first
   | (go_at_call 141; have _t := hr1; refine (bitsL_own b _ HB.out).mono ?_; rintro e wy ⟨vy, rfl, ho, he⟩; have hr2 := ho.rs; have hr1 := hr1.ext he; have HS := HS.ext he; have HZ := Lib.hid (Cs.ext HZ.out he); clear ho he)
   | (go_at_call 141; refine (bitsL_own a _ HA.out).mono ?_; rintro e wx ⟨vx, rfl, ho, he⟩; have hr1 := ho.rs; have HS := HS.ext he; have HZ := Lib.hid (Cs.ext HZ.out he); clear ho he)
   | (go_at_call 140; rw [bitsL_len] at hr1 hr2; refine (refadd_any _ _ a b 256 _ hr1 hr2 HPA.out HPB.out (by omega) (by omega)).mono ?_; rintro e wz ⟨vz, rfl, ho, he⟩; have hr3 := ho.rs; have hbs : ∀ k, vz.ownBlock = some k → w.heap.size + 1 + 1 < k := fun k e => Nat.lt_of_lt_of_le HZ.out.lt (World.ownsRow.lt ho k e).1; have HS := HS.ext he; have HZ := Lib.hid (Cs.ext HZ.out he); clear ho he)
   | fail)
 rw [bitsL_len] at hr3
 obtain ⟨_, A, c, hvz, hc1, hc2, hcell⟩ := id hr3
 subst hvz
 obtain ⟨bz, oz, hAz, hcz⟩ := hcell (by omega)
 subst hAz
 have hbz : w.heap.size + 1 + 1 < bz := hbs bz rfl
 have HR := Lib.hid hr3
 have HE := Lib.hid HS.2
 have HC := Lib.hid (show wz.cell? ⟨bz, oz + 256, none⟩ = some (.int .i64 (bitN (a + b) 256 : Nat)) from hcz 256 (iv (bitN (a + b) 256)) (by simp [bitsL]))
 clear hr1 hr2 hr3 HS hcell hcz hbs
 unfold maxLen at hc2
 go_wp2_with fail
 generalize hR : addN a b = R at *
 generalize ho : ovr a b = o at *
 have HRR := Lib.hid hR
 clear hR ho
 refine wp_named fun a0 ha0 => ?_
 obtain ⟨fr, hfr⟩ : ∃ fr : (Nat → Value) → Act, ∀ V, fr V = (((((((a0.put (some 12) (V 0)).put (some 13) (V 1)).put (some 14) (V 2)).put (some 15) (V 3)).put (some 16) (V 4)).put (some 17) (V 5)).put (some 5) (V 7)) := ⟨_, fun _ => rfl⟩
 rw [ha0] at hfr
 simp only [Act.put, List.setIfInBounds_toArray, List.set_cons_zero, List.set_cons_succ] at hfr
 have HFR := Lib.hid hfr
 clear hfr
 refine wp_region_inv (by kernel_rfl) (by kernel_rfl) (fun L A W => ∃ V : Nat → Value, A = fr V ∧ Ext w W ∧ Vals (fun j => ([some ((.slice (some ⟨bz, oz, none⟩) (256 + 1) c)), some (wv R), some (.slice (some ⟨bz, oz, none⟩) (256 + 1) c), some (.pointer (some ⟨bz, oz + 256, none⟩)), some (.int .i64 (bitN (a + b) 256 : Nat)), some (.bool o), none, some (.bool o)] : List (Option Value)).getD j none) L V ∧ Rz W (w.heap.size + 1 + 1) (L 6) R ∧ (L 6 = false → Rs W 1 (.slice (some ⟨bz, oz, none⟩) (256 + 1) c) (256 + 1) ((bitsL (a + b) (256 + 1)).map iv)) ∧ W.cell? ⟨bz, oz + 256, none⟩ = some (.int .i64 (bitN (a + b) 256 : Nat))) ?_ ⟨?_, ?_, ?_, ?_, ?_, ?_, ?_, ?_, trivial⟩ ?_
 ·refine ⟨fun j => a0.tmps.getD (([12, 13, 14, 15, 16, 17, 0, 5] : List Nat).getD j 0) undef, ?_, HE.out.drew, Vals.no _ _ _ (far_none _ _ rfl), ⟨_, Cs.drew HZ.out, rfl, fun h => absurd h (by decide)⟩, fun _ => HR.out.ext (Ext.refl _).drew, HC.out⟩
  rw [HFR.out, ha0]
  rfl
 all_goals clear ha0 HZ HC HR HE
 ·rintro L A W K hL hC hW ⟨V, rfl, hE, HV, hz, hr, hc⟩ hK
  have H := Lib.hid (hK _ W ⟨upd V 0 ((.slice (some ⟨bz, oz, none⟩) (256 + 1) c)), rfl, hE, HV.us 0 _ rfl, hz.ext (Ext.refl _) (fun h => more_ne h rfl), fun h => hr (more_no h rfl), hc⟩)
  clear hK hC hW hL HV hz hr hE
  rw [HFR.out]
  go_wp2_with fail
  show K _ _
  have := H.out
  rw [HFR.out] at this
  exact this
 ·rintro L A W K hL hC hW ⟨V, rfl, hE, HV, hz, hr, hc⟩ hK
  have e0 := HV 0 _ rfl (hW 0 rfl)
  have u0 : (upd V 1 (wv R)) 0 = .slice (some ⟨bz, oz, none⟩) (256 + 1) c := e0
  have h6 : L 6 = false := hC.no hL 6 _ rfl rfl
  have HQ := Lib.hid (hr h6)
  have H := Lib.hid (fun (W' : World) (he : Ext W W') => hK _ W' ⟨upd V 1 (wv R), rfl, hE.trans he, HV.us 1 _ rfl, hz.ext he (fun h => more_ne h rfl), fun h => (hr (more_no h rfl)).ext he, he.cell hc⟩)
  clear hK hC hW hL HV hz hr hE hc h6
  rw [HFR.out, e0]
  clear e0
  go_wp2_with fail
  refine (of_bits _ (bitsL (a + b) 257) _ (by rw [bitsL_len]; exact HQ.out) (by rw [bitsL_len]; omega)).mono ?_
  rintro e wx ⟨rfl, he⟩
  rw [HSM.out]
  have := H.out wx he
  clear H he HQ
  go_wp2_with fail
  show K _ _
  rw [HFR.out] at this
  rw [u0] at this
  exact this
 ·rintro L A W K hL hC hW ⟨V, rfl, hE, HV, hz, hr, hc⟩ hK
  have H := Lib.hid (hK _ W ⟨upd V 2 (.slice (some ⟨bz, oz, none⟩) (256 + 1) c), rfl, hE, HV.us 2 _ rfl, hz.ext (Ext.refl _) (fun h => more_ne h rfl), fun h => hr (more_no h rfl), hc⟩)
  clear hK hC hW hL HV hz hr hE
  rw [HFR.out]
  go_wp2_with fail
  show K _ _
  have := H.out
  rw [HFR.out] at this
  exact this
 ·rintro L A W K hL hC hW ⟨V, rfl, hE, HV, hz, hr, hc⟩ hK
  have e2 := HV 2 _ rfl (hW 2 rfl)
  have u2 : (upd V 3 (.pointer (some ⟨bz, oz + 256, none⟩))) 2 = .slice (some ⟨bz, oz, none⟩) (256 + 1) c := e2
  have H := Lib.hid (hK _ W ⟨upd V 3 (.pointer (some ⟨bz, oz + 256, none⟩)), rfl, hE, HV.us 3 _ rfl, hz.ext (Ext.refl _) (fun h => more_ne h rfl), fun h => hr (more_no h rfl), hc⟩)
  clear hK hC hW hL HV hz hr hE
  rw [HFR.out, e2]
  clear e2
  go_wp2_with fail
  show K _ _
  have := H.out
  rw [HFR.out] at this
  rw [u2] at this
  exact this
 ·rintro L A W K hL hC hW ⟨V, rfl, hE, HV, hz, hr, hc⟩ hK
  have e3 := HV 3 _ rfl (hW 3 rfl)
  have u3 : (upd V 4 (.int .i64 (bitN (a + b) 256 : Nat))) 3 = .pointer (some ⟨bz, oz + 256, none⟩) := e3
  have H := Lib.hid (hK _ W ⟨upd V 4 (.int .i64 (bitN (a + b) 256 : Nat)), rfl, hE, HV.us 4 _ rfl, hz.ext (Ext.refl _) (fun h => more_ne h rfl), fun h => hr (more_no h rfl), hc⟩)
  clear hK hC hW hL HV hz hr hE
  rw [HFR.out, e3]
  clear e3
  go_wp2_with fail
  show K _ _
  have := H.out
  rw [HFR.out] at this
  rw [u3] at this
  exact this
 ·rintro L A W K hL hC hW ⟨V, rfl, hE, HV, hz, hr, hc⟩ hK
  have e4 := HV 4 _ rfl (hW 4 rfl)
  have u4 : (upd V 5 (.bool o)) 4 = .int .i64 (bitN (a + b) 256 : Nat) := e4
  have H := Lib.hid (hK _ W ⟨upd V 5 (.bool o), rfl, hE, HV.us 5 _ rfl, hz.ext (Ext.refl _) (fun h => more_ne h rfl), fun h => hr (more_no h rfl), hc⟩)
  clear hK hC hW hL HV hz hr hE
  rw [HFR.out, e4]
  clear e4
  go_wp2_with fail
  rw [show (((bitN (a + b) 256 : Nat) : Int) == 1) = o from HTI.out]
  show K _ _
  have := H.out
  rw [HFR.out] at this
  rw [u4] at this
  exact this
 ·rintro L A W K hL hC hW ⟨V, rfl, hE, HV, hz, hr, hc⟩ hK
  have e1 := HV 1 _ rfl (hW 1 rfl)
  obtain ⟨cs, k1, k2, _⟩ := hz
  rw [HFR.out]
  refine wpList_store_word rfl rfl 75 (.tmp 4) (.tmp 13) rfl winfo (w.heap.size + 1 + 1) cs R rfl e1 k1 k2 ?_
  intro W' hw hg
  show K _ _
  have := hK _ W' ⟨V, rfl, hE.grown hg (by omega), HV.st 6 rfl, ⟨wc R, hw, rfl, fun _ => rfl⟩, fun h => (by cases (show true = false from h)), ?_⟩
  ·rw [HFR.out] at this
   exact this
  ·have hbl := World.block_lt_of_cell? W _ hc
   have h2 := hg.block bz hbl (some_ne (by omega))
   rw [← hc]
   exact World.cell?_of_block (a := ⟨bz, oz + 256, none⟩) h2
 ·rintro L A W K hL hC hW ⟨V, rfl, hE, HV, hz, hr, hc⟩ hK
  have e5 := HV 5 _ rfl (hW 5 rfl)
  have u5 : (upd V 7 (.bool o)) 5 = .bool o := e5
  have H := Lib.hid (hK _ W ⟨upd V 7 (.bool o), rfl, hE, HV.us 7 _ rfl, hz.ext (Ext.refl _) (fun h => more_ne h rfl), fun h => hr (more_no h rfl), hc⟩)
  clear hK hC hW hL HV hz hr hE
  rw [HFR.out, e5]
  clear e5
  go_wp2_with fail
  show K _ _
  have := H.out
  rw [HFR.out] at this
  rw [u5] at this
  exact this
 ·rintro L A W hL ⟨V, rfl, hE, HV, ⟨cs, k1, _, k3⟩, _, _⟩
  have e7 := HV 7 _ rfl (hL 7 (by simp))
  rw [k3 (hL 6 (by simp))] at k1
  have HW := Lib.hid k1
  have HE := Lib.hid hE
  clear k1 k3 hL hE HV
  rw [HFR.out, e7]
  clear e7
  go_wp2_with fail
  exact bodyPost_ret (results_word_tmp Tryz.results122 _ _ (w.heap.size + 1 + 1) _ rfl HW.out Tryz.underlying75 winfo) rfl ⟨rfl, (by rw [← HRR.out]; exact addN_lt a b), HE.out⟩
end Go.Proofs.YtnjpdchmdimaaaaGreat
namespace Go.Proofs.YtnjpdchmdimaaaaGreat
open Go.RowKit

end Go.Proofs.YtnjpdchmdimaaaaGreat
namespace Go.Proofs.YtnjpdchmdimaaaaGreat
open Go.RowKit

def Ws (w : World) (v : Value) (l : List Nat) : Prop :=
 ∃ A c, v = .slice A l.length c ∧ l.length ≤ c ∧ c ≤ maxLen ∧ (0 < l.length → ∃ b o, A = some ⟨b, o, none⟩ ∧ ∀ i, i < l.length → ∀ j, j < 4 → w.cell? ⟨b, o + i * 4 + j, none⟩ = some (.int .u64 (lb (l.getD i 0) j : Nat))) ∧ ∀ i, i < l.length → l.getD i 0 < M256

theorem Ws.ext {w w' : World} {v : Value} {l : List Nat} (h : Ws w v l) (he : Ext w w') : Ws w' v l := by
 obtain ⟨A, c, e, h1, h2, h3, h4⟩ := h
 refine ⟨A, c, e, h1, h2, fun hp => ?_, h4⟩
 obtain ⟨b, o, ea, hc⟩ := h3 hp
 exact ⟨b, o, ea, fun i hi j hj => he.cell (hc i hi j hj)⟩

def sumS (s : Nat × Bool) (x : Nat) : Nat × Bool := (addN s.1 x, s.2 || ovr s.1 x)
def sumW (l : List Nat) : Nat × Bool := l.foldl sumS (0, false)
theorem sumW_take (l : List Nat) (k : Nat) (h : k < l.length) : sumW (l.take (k + 1)) = sumS (sumW (l.take k)) (l.getD k 0) := by
 unfold sumW
 rw [List.take_succ_eq_append_getElem h, List.foldl_append]
 simp [List.getD, List.getElem?_eq_getElem h]
theorem sumW_lt (l : List Nat) : (sumW l).1 < M256 := by
 unfold sumW
 suffices h : ∀ s : Nat × Bool, s.1 < M256 → (l.foldl sumS s).1 < M256 from h (0, false) (by decide)
 induction l with
 | nil => exact fun s h => h
 | cons x l ih => exact fun s _ => ih _ (addN_lt _ _)

set_option maxRecDepth 100000 in
set_option maxHeartbeats 2000000 in
theorem sum_any (v : Value) (l : List Nat) (w : World) (hv : Ws w v l) (hl : l.length ≤ 1000000) :
  Calls Tryz.prog 126 #[v] w fun e w' => e = .returned (.tuple #[wv (sumW l).1, .bool (sumW l).2]) ∧ Ext w w' := by
 obtain ⟨A, c, rfl, h1, h2, h3, h4⟩ := hv
 have H3 := Lib.hid h3
 have H4 := Lib.hid h4
 clear h3 h4
 go_enter Tryz.func126, Tryz.ntmps126
 go_wp2_with fail
 go_loopw [5, 12] (fun bv iv wr => ∃ k : Nat, k ≤ l.length ∧ iv = .int .i64 k ∧ bv = .bool (sumW (l.take k)).2 ∧ Hid (Ks w [(w.heap.size, 0), (w.heap.size + 1, (sumW (l.take k)).1)] wr)) (fun _ iv _ => l.length - (intOf iv).toNat)
 case atStart =>
  refine ⟨0, Nat.zero_le _, rfl, rfl, ?_⟩
  refine ⟨fun x hx => ?_, ((Ext.refl w).alloc _).alloc _⟩
  simp only [List.mem_cons, List.not_mem_nil, or_false] at hx
  rcases hx with rfl | rfl
  ·exact ((Cs.new w (wc 0) _ _ rfl).alloc _).wd
  ·exact (Cs.new _ (wc 0) _ _ (by simp)).wd
 case round =>
  obtain ⟨k, hk, rfl, rfl, HS⟩ := hrel
  by_cases hlt : k < l.length
  ·have HT := Lib.hid (sumW_take l k hlt)
   have hx := H4.out k hlt
   have hs := sumW_lt (l.take k)
   obtain ⟨b, o, rfl, hc⟩ := H3.out (by omega)
   have q0 : wr.cell? ⟨b, o + k * 4, none⟩ = some (.int .u64 (lb (l.getD k 0) 0 : Nat)) := HS.out.2.cell (hc k hlt 0 (by omega))
   have q1 : wr.cell? ⟨b, o + k * 4 + 1, none⟩ = some (.int .u64 (lb (l.getD k 0) 1 : Nat)) := HS.out.2.cell (hc k hlt 1 (by omega))
   have q2 : wr.cell? ⟨b, o + k * 4 + 2, none⟩ = some (.int .u64 (lb (l.getD k 0) 2 : Nat)) := HS.out.2.cell (hc k hlt 2 (by omega))
   have q3 : wr.cell? ⟨b, o + k * 4 + 3, none⟩ = some (.int .u64 (lb (l.getD k 0) 3 : Nat)) := HS.out.2.cell (hc k hlt 3 (by omega))
   clear hc
   generalize l.getD k 0 = x at *
   generalize hss : sumW (l.take k) = ss at *
   obtain ⟨s, bo⟩ := ss
   dsimp only at hs HS
   have HSS := Lib.hid hss
   clear hss
   go_wp2_with ((with_reducible refine wpList_load_wordG ?_ 75 44 (.tmp 4) rfl Tryz.underlying75 winfo (w.heap.size + 1) s ?_ ?_ ?_); (exact rfl); (exact rfl); (exact (HS.out.at (w.heap.size + 1) s (by simp)).cs.alloc _))
   refine (add_w s x _ hs hx).mono ?_
   rintro e w3 ⟨rfl, ka, he⟩
   have HS3 := (HS.out.al _).ext he
   have HA := Lib.hid (show sumS (s, bo) x = (addN s x, bo || ovr s x) from rfl)
   clear he q0 q1 q2 q3 HS
   generalize addN s x = s' at *
   generalize ovr s x = b' at *
   go_wp2_with (first
    | ((with_reducible refine wpList_store_word rfl rfl 75 (.tmp 8) (.tmp 20) rfl winfo w3.heap.size (wc 0) s' ?_ ?_ ?_ ?_ ?_); (exact rfl); (exact rfl); (exact heap_alloc_new _ _); (exact rfl); intro w4 k4 g4; have HS4 := HS3.put g4 k4; clear k4 g4)
    | ((with_reducible refine wpList_load_wordG ?_ 75 44 (.tmp 8) rfl Tryz.underlying75 winfo w3.heap.size s' ?_ ?_ ?_); (exact rfl); (exact rfl); (exact HS4.at _ s' List.mem_cons_self))
    | ((with_reducible refine wpList_store_word rfl rfl 75 (.tmp 4) (.tmp 22) rfl winfo (w.heap.size + 1) (wc s) s' ?_ ?_ ?_ ?_ ?_); (exact rfl); (exact rfl); (exact (HS4.at (w.heap.size + 1) s (by simp)).cs); (exact rfl); intro w5 k5 g5))
   all_goals
    refine ⟨⟨k + 1, by omega, by go_num, ?_, ?_⟩, by simp [intOf]; omega⟩
    ·rw [HT.out, HA.out]
     simp_all
    ·rw [HT.out, HA.out]
     refine ⟨fun x hx => ?_, HS4.2.grown g5 (by omega)⟩
     simp only [List.mem_cons, List.not_mem_nil, or_false] at hx
     rcases hx with rfl | rfl
     ·exact (HS4.at w.heap.size 0 (by simp)).kept g5 (some_ne (by omega))
     ·exact k5
  ·obtain rfl : k = l.length := by omega
   have HK : Hid (Ks w [(w.heap.size, 0), (w.heap.size + 1, (sumW l).1)] wr) := by
    have := HS.out
    rw [List.take_length] at this
    exact this
   rw [List.take_length]
   clear HS H3 H4
   generalize hss : sumW l = ss at *
   obtain ⟨s, bo⟩ := ss
   dsimp only at HK ⊢
   have HSS := Lib.hid hss
   clear hss
   go_wp2_with (first
    | ((with_reducible refine wpList_load_wordG ?_ 75 44 (.tmp 4) rfl Tryz.underlying75 winfo (w.heap.size + 1) s ?_ ?_ ?_); (exact rfl); (exact rfl); (exact HK.out.at (w.heap.size + 1) s (by simp)))
    | ((with_reducible refine wpList_store_word rfl rfl 75 (.tmp 2) (.tmp 28) rfl winfo w.heap.size (wc 0) s ?_ ?_ ?_ ?_ ?_); (exact rfl); (exact rfl); (exact (HK.out.at w.heap.size 0 (by simp)).cs); (exact rfl); intro w5 k5 g5))
   refine bodyPost_ret (results_word_tmp Tryz.results126 _ _ w.heap.size s rfl k5 Tryz.underlying75 winfo) rfl ⟨?_, HK.out.2.grown g5 (Nat.le_refl _)⟩
   first | rfl | (rw [HSS.out]; rfl)
end Go.Proofs.YtnjpdchmdimaaaaGreat
namespace Go.Proofs.YtnjpdchmdimaaaaGreat
open Go.RowKit

end Go.Proofs.YtnjpdchmdimaaaaGreat
namespace Go.Proofs.YtnjpdchmdimaaaaGreat
open Go.ChangeShapes Go.WideShapes Go.ChangeAt Go.RowKit

theorem Ws.len {w : World} {A : Option Addr} {n c : Nat} {l : List Nat} (h : Ws w (.slice A n c) l) : n = l.length := by
 obtain ⟨A', c', e, _⟩ := h
 injection e
theorem Ws.lt {w : World} {v : Value} {l : List Nat} (h : Ws w v l) : ∀ x ∈ l, x < M256 := by
 obtain ⟨A, c, e, h1, h2, h3, h4⟩ := h
 intro x hx
 obtain ⟨i, hi, rfl⟩ := List.getElem_of_mem hx
 have := h4 i hi
 rwa [List.getD, List.getElem?_eq_getElem hi] at this

theorem natGetD_take (l : List Nat) (k i : Nat) (h : i < k) : (l.take k).getD i 0 = l.getD i 0 := by
 simp [List.getD, h]
theorem natGetD_drop (l : List Nat) (k i : Nat) : (l.drop k).getD i 0 = l.getD (k + i) 0 := by
 simp [List.getD, List.getElem?_drop]

theorem Ws.take {w : World} {A : Option Addr} {n c : Nat} {l : List Nat} (h : Ws w (.slice A n c) l) (k : Nat) (hk : k ≤ l.length) : Ws w (.slice A k c) (l.take k) := by
 obtain ⟨A', c', e, h1, h2, h3, h4⟩ := h
 injection e with e1 e2 e3
 subst e1; subst e3
 have hl : (l.take k).length = k := by simp; omega
 refine ⟨A, c, by rw [hl], by omega, h2, fun hp => ?_, fun i hi => ?_⟩
 ·obtain ⟨b, o, ea, hc⟩ := h3 (by omega)
  exact ⟨b, o, ea, fun i hi j hj => by rw [hc i (by omega) j hj, natGetD_take _ _ _ (by omega)]⟩
 ·rw [natGetD_take _ _ _ (by omega)]
  exact h4 i (by omega)
theorem Ws.takeMin {w : World} {A : Option Addr} {n c : Nat} {l : List Nat} (h : Ws w (.slice A n c) l) (m k : Nat) (hk : k = min l.length m) : Ws w (.slice A k c) (l.take m) := by
 have e : l.take m = l.take k := by
  subst hk
  rcases Nat.le_total l.length m with hl | hl
  ·rw [Nat.min_eq_left hl, List.take_of_length_le hl, List.take_length]
  ·rw [Nat.min_eq_right hl]
 rw [e]
 exact h.take k (by omega)
theorem Ws.drop {w : World} {A : Option Addr} {n c : Nat} {l : List Nat} (h : Ws w (.slice A n c) l) (k : Nat) (hk : k ≤ l.length) :
  Ws w (.slice (if c = k then A else A.map (·.add (k * 4))) (l.length - k) (c - k)) (l.drop k) := by
 obtain ⟨A', c', e, h1, h2, h3, h4⟩ := h
 injection e with e1 e2 e3
 subst e1; subst e3
 have hl : (l.drop k).length = l.length - k := by simp
 refine ⟨_, _, by rw [hl], by omega, by omega, fun hp => ?_, fun i hi => ?_⟩
 ·obtain ⟨b, o, rfl, hc⟩ := h3 (by omega)
  rw [if_neg (by omega)]
  refine ⟨b, o + k * 4, ?_, fun i hi j hj => ?_⟩
  ·show some (Addr.add _ _) = _
   unfold Addr.add
   split <;> simp_all
  ·rw [natGetD_drop, ← hc (k + i) (by omega) j hj]
   congr 2
   omega
 ·rw [natGetD_drop]
  exact h4 (k + i) (by omega)

end Go.Proofs.YtnjpdchmdimaaaaGreat
namespace Go.Proofs.YtnjpdchmdimaaaaGreat
open Go.ChangeShapes Go.WideShapes Go.ChangeAt Go.RowKit

set_option maxRecDepth 100000 in
theorem winfo3 : (Tryz.prog.info? 75).map (fun i => (i.zero, i.size, i.bytes)) = some (some (.agg #[.int .u64 0, .int .u64 0, .int .u64 0, .int .u64 0]), 4, 32) := by kernel_rfl

def wcs (l : List Nat) : List Value := l.flatMap fun n => (wc n).toList
theorem wcs_length (l : List Nat) : (wcs l).length = l.length * 4 := by
 unfold wcs
 induction l with
 | nil => rfl
 | cons x l ih => rw [List.flatMap_cons, List.length_append, ih]; simp [wc]; omega
theorem wcs_get (l : List Nat) : ∀ i j, i < l.length → j < 4 → (wcs l)[i * 4 + j]? = some (.int .u64 (lb (l.getD i 0) j : Nat)) := by
 induction l with
 | nil => intro i j h; simp at h
 | cons x l ih =>
  intro i j hi hj
  unfold wcs
  rw [List.flatMap_cons]
  have hx : (wc x).toList.length = 4 := rfl
  cases i with
  | zero =>
   rw [List.getElem?_append_left (by rw [hx]; omega)]
   have := wc_get x j hj
   simpa [List.getD, lv] using this
  | succ i =>
   rw [List.getElem?_append_right (by rw [hx]; omega), hx, show (i + 1) * 4 + j - 4 = i * 4 + j by omega]
   simpa [List.getD, wcs] using ih i j (by simpa using hi) hj
theorem wcs_one (l : List Nat) : ∀ u ∈ wcs l, u.oneCell' = true := by
 intro u hu
 unfold wcs at hu
 obtain ⟨n, _, hn⟩ := List.mem_flatMap.1 hu
 simp [wc, lv] at hn
 rcases hn with rfl | rfl | rfl | rfl <;> rfl

theorem Ws.src {w : World} {A : Option Addr} {n c : Nat} {l : List Nat} (h : Ws w (.slice A n c) l) (hp : 0 < l.length) :
  ∃ ad, A = some ad ∧ ∀ j u, (wcs l)[j]? = some u → w.cell? (ad.add j) = some u := by
 obtain ⟨A', c', e, h1, h2, h3, h4⟩ := h
 injection e with e1 e2 e3
 subst e1
 obtain ⟨b, o, rfl, hc⟩ := h3 hp
 refine ⟨_, rfl, fun j u hu => ?_⟩
 have hj : j < l.length * 4 := by
  have := (List.getElem?_eq_some_iff.1 hu).1
  rwa [wcs_length] at this
 have hadd : (⟨b, o, none⟩ : Addr).add j = ⟨b, o + j, none⟩ := by unfold Addr.add; split <;> simp_all
 have := wcs_get l (j / 4) (j % 4) (by omega) (by omega)
 rw [show j / 4 * 4 + j % 4 = j by omega, hu] at this
 rw [hadd, this, ← hc (j / 4) (by omega) (j % 4) (by omega)]
 congr 2
 omega

theorem run_storeVar_elem {P : Program} (w : World) (g o : Nat) (t ty : TypeId) (cur cells : Array Value) (hg : Cs w g t cur) (hi : (P.info? ty).map (·.size) = some cells.size) (hb : o + cells.size ≤ cur.size) (h1 : cells.all (·.oneCell') = true) :
  (storeVar ty ⟨g, o, none⟩ (.agg cells)).run P w = .ok () (w.setRow g (cur.toList.take o ++ cells.toList ++ cur.toList.drop (o + cells.size)).toArray) := by
 have := run_storeCells_at (P := P) g o t cells.toList 0 cur w hg (by simpa using hb) (fun v hv => (Array.all_eq_true_iff_forall_mem.1 h1) v (by simpa using hv))
 cases hq : P.info? ty with
 | none => simp [hq] at hi
 | some i =>
  have hs : cells.size = i.size := by simp [hq] at hi; omega
  simp only [Nat.add_zero, Array.length_toList] at this
  simp [storeVar, sizeOf, typeInfo, hq, Value.cells, hs]
  simpa [hs] using this

theorem wc_ones (n : Nat) : ∀ u ∈ (wc n).toList, u.oneCell' = true := fun u hu => Array.all_eq_true_iff_forall_mem.1 (wc_one n) u (by simpa using hu)
theorem own_ws {W : World} {base n : Nat} {t : TypeId} {v : Value} {l : List Nat} (h : W.ownsRow base t 4 v n (wcs l)) (hn : n = l.length) (hl : ∀ x ∈ l, x < M256) : Ws W v l := by
 subst hn
 obtain ⟨_, A, c, e, h1, h2, h3⟩ := Rs.of_own h
 refine ⟨A, c, e, h1, h2, fun hp => ?_, fun i hi => hl _ (by simp [List.getD, List.getElem?_eq_getElem hi])⟩
 obtain ⟨b, o, ea, hc⟩ := h3 hp
 exact ⟨b, o, ea, fun i hi j hj => by rw [Nat.add_assoc]; exact hc _ _ (wcs_get l i j hi hj)⟩
end Go.Proofs.YtnjpdchmdimaaaaGreat
