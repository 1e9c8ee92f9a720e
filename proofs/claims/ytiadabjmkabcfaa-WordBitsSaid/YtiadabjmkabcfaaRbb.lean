/- The document's own answers of layer 2: And, Or, Xor, Not. -/
import Derived.Test.YtiadabjmkabcfaaRba
import Derived.WalkLawsBesides
namespace Go.Proofs.Ytiadabjmkabcfaa
open Go.RowKit

/-- The first k answers of f. -/
def mapL (f : Nat → Nat) (k : Nat) : List Nat := (List.range k).map f
theorem mapL_len (f : Nat → Nat) (k : Nat) : (mapL f k).length = k := by simp [mapL]
theorem mapL_succ (f : Nat → Nat) (k : Nat) : mapL f (k + 1) = mapL f k ++ [f k] := by simp [mapL, List.range_succ]
theorem mapL_get (f : Nat → Nat) (k j : Nat) (h : j < k) : (mapL f k).getD j 0 = f j := by simp [mapL, List.getD, h]
theorem ofN_mapL (f : Nat → Nat) (j : Nat) (h : j < 256) : (ofN (mapL f 256)).testBit j = decide (f j = 1) := by
  rw [ofN_tb, mapL_get f 256 j h]
  simp [h]
def xorB (x y : Nat) : Nat := (x + y) % 2
theorem Ks.grownOwn {w : World} {l : List (Nat × Nat)} {W W' : World} {base s n : Nat} {e : TypeId} {v : Value} {cs : List Value} (h : Ks w l W) (ho : W.ownsRow base e s v n cs) (k : W.grownBy W' v.ownBlock) (hw : w.heap.size ≤ base) (hl : ∀ x ∈ l, x.1 < base) : Ks w l W' :=
  ⟨fun x hx => own_block ho k (hl x hx) (h.1 x hx), Below.grown h.2 k h.2.size (fun j hj => Nat.le_trans hw (ho.lt j hj).1)⟩

set_option maxRecDepth 100000 in
set_option maxHeartbeats 2000000 in
theorem refAnd_any (a b : Nat) (w : World) (ha : a < M256) (hb : b < M256) :
    Calls Try.prog 28 #[wv a, wv b] w fun e w' => e = .returned (wv (ofN (mapL (fun j => bitN a j * bitN b j) 256))) ∧ Ext w w' := by
  have HA := Lib.hid ha
  have HB := Lib.hid hb
  clear ha hb
  have HK0 : Hid (Ks w [(w.heap.size, a), (w.heap.size + 1, b)] (((w.alloc (.cells (wc a) 27)).alloc (.cells (wc b) 27)).alloc (.cells #[.int .u64 0, .int .u64 0, .int .u64 0, .int .u64 0] 27))) :=
    ⟨fun x hx => by
      simp only [List.mem_cons, List.not_mem_nil, or_false] at hx
      rcases hx with rfl | rfl
      · exact ((Cs.new _ _ _ _ rfl).alloc _).alloc _
      · exact (Cs.new _ _ _ _ (by simp)).alloc _, (((Ext.refl w).alloc _).alloc _).alloc _⟩
  have HZ0 : Hid (Cs (((w.alloc (.cells (wc a) 27)).alloc (.cells (wc b) 27)).alloc (.cells #[.int .u64 0, .int .u64 0, .int .u64 0, .int .u64 0] 27)) (w.heap.size + 1 + 1) 27 (wc 0)) := Cs.new _ _ _ _ (by simp)
  unfold wv
  go_enter Try.func28, Try.ntmps28
  go_wp2
  go_loopw [5, 6, 7, 8, 9, 10, 11, 12, 13, 14, 15, 16, 17, 18, 19, 20] (fun v _ i _ _ _ _ _ _ _ _ _ _ _ _ _ wr => ∃ k : Nat, k ≤ 256 ∧ i = .int .i64 k ∧ Hid (Ks w [(w.heap.size, a), (w.heap.size + 1, b)] wr) ∧ Hid (Cs wr (w.heap.size + 1 + 1) 27 (wc 0)) ∧ Hid (OwnI wr (w.heap.size + 1 + 1 + 1) 3 v (mapL (fun j => bitN a j * bitN b j) k))) (fun _ _ i _ _ _ _ _ _ _ _ _ _ _ _ _ _ => 256 - (intOf i).toNat)
  case atStart => exact ⟨0, by omega, rfl, HK0, HZ0, World.ownsRow_nil _ _ _ _⟩
  case round =>
    clear HK0 HZ0
    obtain ⟨k, hk, rfl, HS, HZ, HO⟩ := hrel
    have HS := HS.out
    by_cases hlt : k < 256
    · have hx := bitN_lt a k
      have hy := bitN_lt b k
      have hm : IntKind.i64.wrap ((bitN a k : Int) * (bitN b k : Int)) = ((bitN a k * bitN b k : Nat) : Int) := by
        have h1 : bitN a k * bitN b k ≤ 1 * 1 := Nat.mul_le_mul (by omega) (by omega)
        rw [← Int.natCast_mul]
        exact IntWalk.i64_in _ (by omega)
      have HL := Lib.hid (mapL_len (fun j => bitN a j * bitN b j) k)
      have HSU := Lib.hid (show mapL (fun j => bitN a j * bitN b j) (k + 1) = mapL (fun j => bitN a j * bitN b j) k ++ [bitN a k * bitN b k] from mapL_succ _ k)
      have hbs : w.heap.size + 1 + 1 + 1 ≤ wr.heap.size := HZ.out.lt
      have HS := HS.drew
      have HZ := Lib.hid (Cs.drew HZ.out)
      have HO := Lib.hid (show OwnI wr.drew _ _ _ _ from own_ext HO.out (Ext.refl wr).drew)
      go_wp2_with fail
      go_region_held3 (fun w' => (w'.cell? ⟨w.heap.size, 0, none⟩ = some (.int .u64 (lb a 0 : Nat)) ∧ w'.cell? ⟨w.heap.size, 1, none⟩ = some (.int .u64 (lb a 1 : Nat)) ∧ w'.cell? ⟨w.heap.size, 2, none⟩ = some (.int .u64 (lb a 2 : Nat)) ∧ w'.cell? ⟨w.heap.size, 3, none⟩ = some (.int .u64 (lb a 3 : Nat))) ∧ (w'.cell? ⟨w.heap.size + 1, 0, none⟩ = some (.int .u64 (lb b 0 : Nat)) ∧ w'.cell? ⟨w.heap.size + 1, 1, none⟩ = some (.int .u64 (lb b 1 : Nat)) ∧ w'.cell? ⟨w.heap.size + 1, 2, none⟩ = some (.int .u64 (lb b 2 : Nat)) ∧ w'.cell? ⟨w.heap.size + 1, 3, none⟩ = some (.int .u64 (lb b 3 : Nat))))
        (first | exact ⟨(HS.at _ a (by simp)).f4, (HS.at _ b (by simp)).f4⟩ | exact ⟨((HS.al _).at _ a (by simp)).f4, ((HS.al _).at _ b (by simp)).f4⟩)
        (first
          | (go_at_call 60; refine (bit_any _ _ _ (by first | exact HA.out | exact HB.out) (by omega)).mono ?_; rintro e wx ⟨rfl, he⟩; have HS := HS.ext he; have HZ := Lib.hid (Cs.ext HZ.out he); have HO := Lib.hid (show OwnI wx _ _ _ _ from own_ext HO.out he); have hbs : w.heap.size + 1 + 1 + 1 ≤ wx.heap.size := HZ.out.lt; clear he)
          | (refine step_append_row rfl (.tmp 10) (.tmp 18) 69 rfl (w.heap.size + 1 + 1 + 1) 3 Try.underlying69 (.int .i64 0) 1 8 iinfo rfl (by decide) u5 _ _ rfl (World.ownsRow.alloc HO.out _) _ 1 [iv (bitN a k * bitN b k)] rfl (Rs.new _ _ _ _ _ rfl (by decide)) (iv_one [bitN a k * bitN b k]) (by rw [HL.out]; omega) (by decide) (by simp; omega) ?_; intro v' w3 ho3 hg3 _; have HO3 := Lib.hid (OwnI.snoc ho3); have HS := Ks.grownOwn (HS.al _) (World.ownsRow.alloc HO.out _) hg3 (by omega) (fun x hx => by simp only [List.mem_cons, List.not_mem_nil, or_false] at hx; rcases hx with rfl | rfl <;> (dsimp only; omega)); have HZ3 := Lib.hid (show Cs w3 _ _ _ from own_block (World.ownsRow.alloc HO.out _) hg3 (by omega) (Cs.alloc HZ.out _)); clear ho3 hg3)
          | fail)
      rw [← HSU.out] at HO3
      have HK := Lib.hid HS
      clear HS
      go_wp2
      go_roundw
      case rel => exact ⟨k + 1, by omega, by go_num, HK, HZ3, HO3⟩
      case measure => simp [intOf]; omega
    · obtain rfl : k = 256 := by omega
      have hbs : w.heap.size + 1 + 1 + 1 ≤ wr.heap.size := HZ.out.lt
      go_wp2_with fail
      refine (of_bits u5 _ _ (OwnI.rs HO.out) (by rw [mapL_len]; omega)).mono ?_
      rintro e w2 ⟨rfl, he⟩
      have HZ := Lib.hid (Cs.ext HZ.out he)
      have HE := Lib.hid (HS.2.trans he)
      clear he HS
      go_wp2_with (refine wpList_store_word rfl rfl 27 (.tmp 4) (.tmp 22) rfl winfo (w.heap.size + 1 + 1) (wc 0) _ rfl rfl HZ.out rfl ?_; intro w4 k4 g4; have K4 := Lib.hid k4; have HE4 := Lib.hid (HE.out.grown g4 (by omega)); clear k4 g4)
      exact bodyPost_ret (results_word Try.results28 _ _ (w.heap.size + 1 + 1) _ rfl K4.out Try.underlying27 winfo) rfl ⟨rfl, HE4.out⟩

set_option maxRecDepth 100000 in
set_option maxHeartbeats 2000000 in
theorem refOr_any (a b : Nat) (w : World) (ha : a < M256) (hb : b < M256) :
    Calls Try.prog 30 #[wv a, wv b] w fun e w' => e = .returned (wv (ofN (mapL (fun j => max (bitN a j) (bitN b j)) 256))) ∧ Ext w w' := by
  have HA := Lib.hid ha
  have HB := Lib.hid hb
  clear ha hb
  have HK0 : Hid (Ks w [(w.heap.size, a), (w.heap.size + 1, b)] (((w.alloc (.cells (wc a) 27)).alloc (.cells (wc b) 27)).alloc (.cells #[.int .u64 0, .int .u64 0, .int .u64 0, .int .u64 0] 27))) :=
    ⟨fun x hx => by
      simp only [List.mem_cons, List.not_mem_nil, or_false] at hx
      rcases hx with rfl | rfl
      · exact ((Cs.new _ _ _ _ rfl).alloc _).alloc _
      · exact (Cs.new _ _ _ _ (by simp)).alloc _, (((Ext.refl w).alloc _).alloc _).alloc _⟩
  have HZ0 : Hid (Cs (((w.alloc (.cells (wc a) 27)).alloc (.cells (wc b) 27)).alloc (.cells #[.int .u64 0, .int .u64 0, .int .u64 0, .int .u64 0] 27)) (w.heap.size + 1 + 1) 27 (wc 0)) := Cs.new _ _ _ _ (by simp)
  unfold wv
  go_enter Try.func30, Try.ntmps30
  go_wp2
  go_loopw [5, 6, 7, 8, 9, 10, 11, 12, 13, 14, 15, 16, 17, 18, 19, 20] (fun v _ i _ _ _ _ _ _ _ _ _ _ _ _ _ wr => ∃ k : Nat, k ≤ 256 ∧ i = .int .i64 k ∧ Hid (Ks w [(w.heap.size, a), (w.heap.size + 1, b)] wr) ∧ Hid (Cs wr (w.heap.size + 1 + 1) 27 (wc 0)) ∧ Hid (OwnI wr (w.heap.size + 1 + 1 + 1) 3 v (mapL (fun j => max (bitN a j) (bitN b j)) k))) (fun _ _ i _ _ _ _ _ _ _ _ _ _ _ _ _ _ => 256 - (intOf i).toNat)
  case atStart => exact ⟨0, by omega, rfl, HK0, HZ0, World.ownsRow_nil _ _ _ _⟩
  case round =>
    clear HK0 HZ0
    obtain ⟨k, hk, rfl, HS, HZ, HO⟩ := hrel
    have HS := HS.out
    by_cases hlt : k < 256
    · have hx := bitN_lt a k
      have hy := bitN_lt b k
      have hm : max (bitN a k : Int) (bitN b k : Int) = ((max (bitN a k) (bitN b k) : Nat) : Int) := by omega
      have HL := Lib.hid (mapL_len (fun j => max (bitN a j) (bitN b j)) k)
      have HSU := Lib.hid (show mapL (fun j => max (bitN a j) (bitN b j)) (k + 1) = mapL (fun j => max (bitN a j) (bitN b j)) k ++ [max (bitN a k) (bitN b k)] from mapL_succ _ k)
      have hbs : w.heap.size + 1 + 1 + 1 ≤ wr.heap.size := HZ.out.lt
      have HS := HS.drew
      have HZ := Lib.hid (Cs.drew HZ.out)
      have HO := Lib.hid (show OwnI wr.drew _ _ _ _ from own_ext HO.out (Ext.refl wr).drew)
      go_wp2_with fail
      go_region_held3 (fun w' => (w'.cell? ⟨w.heap.size, 0, none⟩ = some (.int .u64 (lb a 0 : Nat)) ∧ w'.cell? ⟨w.heap.size, 1, none⟩ = some (.int .u64 (lb a 1 : Nat)) ∧ w'.cell? ⟨w.heap.size, 2, none⟩ = some (.int .u64 (lb a 2 : Nat)) ∧ w'.cell? ⟨w.heap.size, 3, none⟩ = some (.int .u64 (lb a 3 : Nat))) ∧ (w'.cell? ⟨w.heap.size + 1, 0, none⟩ = some (.int .u64 (lb b 0 : Nat)) ∧ w'.cell? ⟨w.heap.size + 1, 1, none⟩ = some (.int .u64 (lb b 1 : Nat)) ∧ w'.cell? ⟨w.heap.size + 1, 2, none⟩ = some (.int .u64 (lb b 2 : Nat)) ∧ w'.cell? ⟨w.heap.size + 1, 3, none⟩ = some (.int .u64 (lb b 3 : Nat))))
        (first | exact ⟨(HS.at _ a (by simp)).f4, (HS.at _ b (by simp)).f4⟩ | exact ⟨((HS.al _).at _ a (by simp)).f4, ((HS.al _).at _ b (by simp)).f4⟩)
        (first
          | (go_at_call 60; refine (bit_any _ _ _ (by first | exact HA.out | exact HB.out) (by omega)).mono ?_; rintro e wx ⟨rfl, he⟩; have HS := HS.ext he; have HZ := Lib.hid (Cs.ext HZ.out he); have HO := Lib.hid (show OwnI wx _ _ _ _ from own_ext HO.out he); have hbs : w.heap.size + 1 + 1 + 1 ≤ wx.heap.size := HZ.out.lt; clear he)
          | (refine step_append_row rfl (.tmp 10) (.tmp 18) 69 rfl (w.heap.size + 1 + 1 + 1) 3 Try.underlying69 (.int .i64 0) 1 8 iinfo rfl (by decide) u5 _ _ rfl (World.ownsRow.alloc HO.out _) _ 1 [iv (max (bitN a k) (bitN b k))] rfl (Rs.new _ _ _ _ _ rfl (by decide)) (iv_one [max (bitN a k) (bitN b k)]) (by rw [HL.out]; omega) (by decide) (by simp; omega) ?_; intro v' w3 ho3 hg3 _; have HO3 := Lib.hid (OwnI.snoc ho3); have HS := Ks.grownOwn (HS.al _) (World.ownsRow.alloc HO.out _) hg3 (by omega) (fun x hx => by simp only [List.mem_cons, List.not_mem_nil, or_false] at hx; rcases hx with rfl | rfl <;> (dsimp only; omega)); have HZ3 := Lib.hid (show Cs w3 _ _ _ from own_block (World.ownsRow.alloc HO.out _) hg3 (by omega) (Cs.alloc HZ.out _)); clear ho3 hg3)
          | fail)
      rw [← HSU.out] at HO3
      have HK := Lib.hid HS
      clear HS
      go_wp2
      go_roundw
      case rel => exact ⟨k + 1, by omega, by go_num, HK, HZ3, HO3⟩
      case measure => simp [intOf]; omega
    · obtain rfl : k = 256 := by omega
      have hbs : w.heap.size + 1 + 1 + 1 ≤ wr.heap.size := HZ.out.lt
      go_wp2_with fail
      refine (of_bits u5 _ _ (OwnI.rs HO.out) (by rw [mapL_len]; omega)).mono ?_
      rintro e w2 ⟨rfl, he⟩
      have HZ := Lib.hid (Cs.ext HZ.out he)
      have HE := Lib.hid (HS.2.trans he)
      clear he HS
      go_wp2_with (refine wpList_store_word rfl rfl 27 (.tmp 4) (.tmp 22) rfl winfo (w.heap.size + 1 + 1) (wc 0) _ rfl rfl HZ.out rfl ?_; intro w4 k4 g4; have K4 := Lib.hid k4; have HE4 := Lib.hid (HE.out.grown g4 (by omega)); clear k4 g4)
      exact bodyPost_ret (results_word Try.results30 _ _ (w.heap.size + 1 + 1) _ rfl K4.out Try.underlying27 winfo) rfl ⟨rfl, HE4.out⟩

set_option maxRecDepth 100000 in
set_option maxHeartbeats 2000000 in
theorem refXor_any (a b : Nat) (w : World) (ha : a < M256) (hb : b < M256) :
    Calls Try.prog 32 #[wv a, wv b] w fun e w' => e = .returned (wv (ofN (mapL (fun j => xorB (bitN a j) (bitN b j)) 256))) ∧ Ext w w' := by
  have HA := Lib.hid ha
  have HB := Lib.hid hb
  clear ha hb
  have HK0 : Hid (Ks w [(w.heap.size, a), (w.heap.size + 1, b)] (((w.alloc (.cells (wc a) 27)).alloc (.cells (wc b) 27)).alloc (.cells #[.int .u64 0, .int .u64 0, .int .u64 0, .int .u64 0] 27))) :=
    ⟨fun x hx => by
      simp only [List.mem_cons, List.not_mem_nil, or_false] at hx
      rcases hx with rfl | rfl
      · exact ((Cs.new _ _ _ _ rfl).alloc _).alloc _
      · exact (Cs.new _ _ _ _ (by simp)).alloc _, (((Ext.refl w).alloc _).alloc _).alloc _⟩
  have HZ0 : Hid (Cs (((w.alloc (.cells (wc a) 27)).alloc (.cells (wc b) 27)).alloc (.cells #[.int .u64 0, .int .u64 0, .int .u64 0, .int .u64 0] 27)) (w.heap.size + 1 + 1) 27 (wc 0)) := Cs.new _ _ _ _ (by simp)
  unfold wv
  go_enter Try.func32, Try.ntmps32
  go_wp2
  go_loopw [5, 6, 7, 8, 9, 10, 11, 12, 13, 14, 15, 16, 17, 18, 19, 20, 21] (fun v _ i _ _ _ _ _ _ _ _ _ _ _ _ _ _ wr => ∃ k : Nat, k ≤ 256 ∧ i = .int .i64 k ∧ Hid (Ks w [(w.heap.size, a), (w.heap.size + 1, b)] wr) ∧ Hid (Cs wr (w.heap.size + 1 + 1) 27 (wc 0)) ∧ Hid (OwnI wr (w.heap.size + 1 + 1 + 1) 3 v (mapL (fun j => xorB (bitN a j) (bitN b j)) k))) (fun _ _ i _ _ _ _ _ _ _ _ _ _ _ _ _ _ _ => 256 - (intOf i).toNat)
  case atStart => exact ⟨0, by omega, rfl, HK0, HZ0, World.ownsRow_nil _ _ _ _⟩
  case round =>
    clear HK0 HZ0
    obtain ⟨k, hk, rfl, HS, HZ, HO⟩ := hrel
    have HS := HS.out
    by_cases hlt : k < 256
    · have hx := bitN_lt a k
      have hy := bitN_lt b k
      have hm : IntKind.i64.wrap ((bitN a k : Int) + (bitN b k : Int)) = (bitN a k : Int) + (bitN b k : Int) := IntWalk.i64_in _ (by omega)
      have hm2 : ((bitN a k : Int) + (bitN b k : Int)) % 2 = ((xorB (bitN a k) (bitN b k) : Nat) : Int) := by unfold xorB; omega
      have hm3 : ((bitN a k : Int) + (bitN b k : Int)).tmod 2 = ((xorB (bitN a k) (bitN b k) : Nat) : Int) := by unfold xorB; rw [Int.tmod_eq_emod_of_nonneg (by omega)]; omega
      have HL := Lib.hid (mapL_len (fun j => xorB (bitN a j) (bitN b j)) k)
      have HSU := Lib.hid (show mapL (fun j => xorB (bitN a j) (bitN b j)) (k + 1) = mapL (fun j => xorB (bitN a j) (bitN b j)) k ++ [xorB (bitN a k) (bitN b k)] from mapL_succ _ k)
      have hbs : w.heap.size + 1 + 1 + 1 ≤ wr.heap.size := HZ.out.lt
      have HS := HS.drew
      have HZ := Lib.hid (Cs.drew HZ.out)
      have HO := Lib.hid (show OwnI wr.drew _ _ _ _ from own_ext HO.out (Ext.refl wr).drew)
      go_wp2_with fail
      go_region_held3 (fun w' => (w'.cell? ⟨w.heap.size, 0, none⟩ = some (.int .u64 (lb a 0 : Nat)) ∧ w'.cell? ⟨w.heap.size, 1, none⟩ = some (.int .u64 (lb a 1 : Nat)) ∧ w'.cell? ⟨w.heap.size, 2, none⟩ = some (.int .u64 (lb a 2 : Nat)) ∧ w'.cell? ⟨w.heap.size, 3, none⟩ = some (.int .u64 (lb a 3 : Nat))) ∧ (w'.cell? ⟨w.heap.size + 1, 0, none⟩ = some (.int .u64 (lb b 0 : Nat)) ∧ w'.cell? ⟨w.heap.size + 1, 1, none⟩ = some (.int .u64 (lb b 1 : Nat)) ∧ w'.cell? ⟨w.heap.size + 1, 2, none⟩ = some (.int .u64 (lb b 2 : Nat)) ∧ w'.cell? ⟨w.heap.size + 1, 3, none⟩ = some (.int .u64 (lb b 3 : Nat))))
        (first | exact ⟨(HS.at _ a (by simp)).f4, (HS.at _ b (by simp)).f4⟩ | exact ⟨((HS.al _).at _ a (by simp)).f4, ((HS.al _).at _ b (by simp)).f4⟩)
        (first
          | (go_at_call 60; refine (bit_any _ _ _ (by first | exact HA.out | exact HB.out) (by omega)).mono ?_; rintro e wx ⟨rfl, he⟩; have HS := HS.ext he; have HZ := Lib.hid (Cs.ext HZ.out he); have HO := Lib.hid (show OwnI wx _ _ _ _ from own_ext HO.out he); have hbs : w.heap.size + 1 + 1 + 1 ≤ wx.heap.size := HZ.out.lt; clear he)
          | (refine step_append_row rfl (.tmp 10) (.tmp 19) 69 rfl (w.heap.size + 1 + 1 + 1) 3 Try.underlying69 (.int .i64 0) 1 8 iinfo rfl (by decide) u5 _ _ rfl (World.ownsRow.alloc HO.out _) _ 1 [iv (xorB (bitN a k) (bitN b k))] rfl (Rs.new _ _ _ _ _ rfl (by decide)) (iv_one [xorB (bitN a k) (bitN b k)]) (by rw [HL.out]; omega) (by decide) (by simp; omega) ?_; intro v' w3 ho3 hg3 _; have HO3 := Lib.hid (OwnI.snoc ho3); have HS := Ks.grownOwn (HS.al _) (World.ownsRow.alloc HO.out _) hg3 (by omega) (fun x hx => by simp only [List.mem_cons, List.not_mem_nil, or_false] at hx; rcases hx with rfl | rfl <;> (dsimp only; omega)); have HZ3 := Lib.hid (show Cs w3 _ _ _ from own_block (World.ownsRow.alloc HO.out _) hg3 (by omega) (Cs.alloc HZ.out _)); clear ho3 hg3)
          | fail)
      rw [← HSU.out] at HO3
      have HK := Lib.hid HS
      clear HS
      go_wp2
      go_roundw
      case rel => exact ⟨k + 1, by omega, by go_num, HK, HZ3, HO3⟩
      case measure => simp [intOf]; omega
    · obtain rfl : k = 256 := by omega
      have hbs : w.heap.size + 1 + 1 + 1 ≤ wr.heap.size := HZ.out.lt
      go_wp2_with fail
      refine (of_bits u5 _ _ (OwnI.rs HO.out) (by rw [mapL_len]; omega)).mono ?_
      rintro e w2 ⟨rfl, he⟩
      have HZ := Lib.hid (Cs.ext HZ.out he)
      have HE := Lib.hid (HS.2.trans he)
      clear he HS
      go_wp2_with (refine wpList_store_word rfl rfl 27 (.tmp 4) (.tmp 23) rfl winfo (w.heap.size + 1 + 1) (wc 0) _ rfl rfl HZ.out rfl ?_; intro w4 k4 g4; have K4 := Lib.hid k4; have HE4 := Lib.hid (HE.out.grown g4 (by omega)); clear k4 g4)
      exact bodyPost_ret (results_word Try.results32 _ _ (w.heap.size + 1 + 1) _ rfl K4.out Try.underlying27 winfo) rfl ⟨rfl, HE4.out⟩
end Go.Proofs.Ytiadabjmkabcfaa
