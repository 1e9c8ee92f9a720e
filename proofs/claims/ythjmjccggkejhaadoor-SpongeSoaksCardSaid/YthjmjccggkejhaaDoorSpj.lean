/- Contracts of Text; of the program and of the document. -/
import Derived.Test.YthjmjccggkejhaaDoorSpi
import Derived.Test.YthjmjccggkejhaaDoorLbe
import Derived.Deep.RegionHeld3
import Derived.WalkLawsBesides
namespace Go.Proofs.YthjmjccggkejhaaDoor
open Go.RowKit Go.Shelf

/-- A digit as a byte. -/
def dgx (y : Nat) : UInt8 := if y < 10 then UInt8.ofNat (48 + y) else UInt8.ofNat (87 + y)
/-- The digits of the first k bytes. -/
def txI (f : Nat → Nat) : Nat → List UInt8
  | 0 => []
  | k + 1 => txI f k ++ [dgx (f k / 16), dgx (f k % 16)]
set_option maxRecDepth 100000 in
theorem txI_succ (f : Nat → Nat) (k : Nat) : txI f (k + 1) = txI f k ++ [dgx (f k / 16), dgx (f k % 16)] := rfl
set_option maxRecDepth 100000 in
theorem txI_len (f : Nat → Nat) (k : Nat) : (txI f k).length = 2 * k := by
  induction k with
  | zero => rfl
  | succ k ih => rw [txI_succ, List.length_append, ih]; simp; omega
set_option maxRecDepth 100000 in
theorem idx_dgx (y : Nat) (hy : y < 16) (w : World) : (Instr.index 9 (.string ⟨#[48, 49, 50, 51, 52, 53, 54, 55, 56, 57, 97, 98, 99, 100, 101, 102]⟩) (.int .u8 (y : Nat))).run Tryd.prog w = .ok (.int .u8 ((dgx y).toNat : Int)) w := by
  have h : y = 0 ∨ y = 1 ∨ y = 2 ∨ y = 3 ∨ y = 4 ∨ y = 5 ∨ y = 6 ∨ y = 7 ∨ y = 8 ∨ y = 9 ∨ y = 10 ∨ y = 11 ∨ y = 12 ∨ y = 13 ∨ y = 14 ∨ y = 15 := by omega
  rcases h with rfl | rfl | rfl | rfl | rfl | rfl | rfl | rfl | rfl | rfl | rfl | rfl | rfl | rfl | rfl | rfl <;> rfl
set_option maxRecDepth 100000 in
theorem idx_id (f : Nat → Nat) (i : Nat) (hi : i < 32) (u : World) : (Instr.index 27 (idv f) (.int .i64 (i : Nat))).run Tryd.prog u = .ok (.int .u8 (f i : Nat)) u := by
  match i, hi with
  | 0, _ => rfl
  | 1, _ => rfl
  | 2, _ => rfl
  | 3, _ => rfl
  | 4, _ => rfl
  | 5, _ => rfl
  | 6, _ => rfl
  | 7, _ => rfl
  | 8, _ => rfl
  | 9, _ => rfl
  | 10, _ => rfl
  | 11, _ => rfl
  | 12, _ => rfl
  | 13, _ => rfl
  | 14, _ => rfl
  | 15, _ => rfl
  | 16, _ => rfl
  | 17, _ => rfl
  | 18, _ => rfl
  | 19, _ => rfl
  | 20, _ => rfl
  | 21, _ => rfl
  | 22, _ => rfl
  | 23, _ => rfl
  | 24, _ => rfl
  | 25, _ => rfl
  | 26, _ => rfl
  | 27, _ => rfl
  | 28, _ => rfl
  | 29, _ => rfl
  | 30, _ => rfl
  | 31, _ => rfl
  | n + 32, h => omega
set_option maxRecDepth 100000 in
theorem lay_snoc (l x : List UInt8) (c : UInt8) (h : x.length < l.length) : lay l 0 (x ++ [c]) = (lay l 0 x).set x.length c := by
  have h1 := lay_step l 0 (x ++ [c]) x.length (by simp) (by omega)
  rw [Nat.zero_add] at h1
  rw [List.take_of_length_le (by simp), List.take_left'] at h1
  · rw [h1]
    congr 1
    simp [List.getD]
  · rfl
/-- The row of digits: the call's own. -/
def TxR (W w : World) (v : Value) (l : List UInt8) : Prop := Own W w.heap.size 5 v l ∧ Ext w W
set_option maxRecDepth 100000 in
theorem TxR.start {W w : World} {g : Nat} (hr : Row W g 5 (List.replicate 64 0)) (hg : w.heap.size ≤ g) (he : Ext w W) : TxR W w (.slice (some ⟨g, 0, none⟩) 0 64) [] := by
  refine ⟨⟨rfl, .inr ⟨g, 64, _, rfl, hg, hr, Nat.zero_le _, by unfold maxLen; omega, by simp, by simp⟩⟩, he⟩
set_option maxRecDepth 100000 in
theorem Rs.two {W : World} {g : Nat} {t : TypeId} {a b : Value} (h : Cs W g t #[a, b]) : Rs W 1 (.slice (some ⟨g, 0, none⟩) 2 2) 2 [a, b] :=
  ⟨rfl, _, 2, rfl, Nat.le_refl _, by unfold maxLen; omega, fun _ => ⟨g, 0, rfl, fun j u hu => by rw [Nat.zero_add]; exact h.cell j u (by simpa using hu)⟩⟩
set_option maxRecDepth 100000 in
theorem bv_two (c d : UInt8) : ∀ u ∈ [bv c, bv d], u.oneCell' = true := by
  intro u hu
  simp only [List.mem_cons, List.not_mem_nil, or_false] at hu
  rcases hu with rfl | rfl <;> rfl
set_option maxRecDepth 100000 in
theorem TxR.drew {W w : World} {v : Value} {l : List UInt8} (h : TxR W w v l) : TxR W.drew w v l := ⟨h.1.ext (ext_of_grown (grown_drew (World.grownBy.refl _ _))), h.2.trans (ext_of_grown (grown_drew (World.grownBy.refl _ _)))⟩
set_option maxRecDepth 100000 in
theorem TxR.al {W w : World} {v : Value} {l : List UInt8} (h : TxR W w v l) (o : Obj) : TxR (W.alloc o) w v l := ⟨h.1.ext ((Ext.refl W).alloc o), h.2.alloc o⟩
set_option maxRecDepth 100000 in
/-- Two digits behind a row. -/
theorem TxR.app {W w w' : World} {v v' : Value} {l : List UInt8} {c d : UInt8} (h : TxR W w v l) (o : Obj) (h2 : w'.ownsRow w.heap.size 5 1 v' (l.length + 2) (l.map bv ++ [bv c, bv d])) (h3 : (W.alloc o).grownBy w' v.ownBlock) : TxR w' w v' (l ++ [c, d]) := by
  refine ⟨?_, Ext.appendR (h.al o).2 (h.al o).1 h3⟩
  unfold Own
  rw [List.length_append, List.map_append]
  exact h2

set_option maxRecDepth 100000 in
set_option maxHeartbeats 2000000 in
theorem text_any (f : Nat → Nat) (w : World) (hf : ∀ i, i < 32 → f i < 256) :
    Calls Tryd.prog 26 #[idv f] w fun e w' => e = .returned (.string ⟨(txI f 32).toArray⟩) ∧ Ext w w' := by
  have HF := Lib.hid hf
  clear hf
  have HK : Hid (Ib (w.alloc (.cells (ic f) 27)) w.heap.size f) := Cs.new _ _ _ _ rfl
  unfold idv
  go_enter Tryd.func26, Tryd.ntmps26
  go_wp2_with (first
    | (at_make; refine wpList_make_room rfl _ _ _ rfl 5 Tryd.underlying24 u8info .i64 .i64 _ _ 0 64 rfl rfl rfl rfl (by omega) (by omega) ?_; intro w1 hr1 he1; rw [World.size_alloc] at hr1 ⊢; have HR : Hid (TxR w1 w (.slice (some ⟨w.heap.size + 1, 0, none⟩) 0 64) (txI f 0)) := TxR.start hr1 (by omega) (((Ext.refl w).alloc _).trans he1); have HK1 := Lib.hid (Cs.ext HK.out he1); clear hr1 he1 HK)
    | ((with_reducible refine wpList_load_id ?_ (.tmp 1) ?_ w.heap.size f ?_ ?_ ?_); (exact rfl); (exact rfl); (exact rfl); (exact HK1.out)))
  go_loopw [3, 5, 8, 9, 10, 11, 12, 13, 14, 15, 16, 17, 18, 19, 20] (fun s _ i _ _ _ _ _ _ _ _ _ _ _ _ wr => ∃ k : Nat, k ≤ 32 ∧ i = .int .i64 k ∧ Hid (TxR wr w s (txI f k))) (fun _ _ i _ _ _ _ _ _ _ _ _ _ _ _ _ => 32 - (intOf i).toNat)
  case atStart => exact ⟨0, by omega, rfl, HR⟩
  case round =>
    clear HR
    obtain ⟨k, hk, rfl, HR⟩ := hrel
    by_cases hlt : k < 32
    · have hix := idx_id f k hlt
      have a1 : (0 : Int) ≤ (k : Int) := by omega
      have a2 : (k : Int) < 32 := by omega
      have hy := HF.out k hlt
      have HS := Lib.hid (txI_succ f k)
      have hlen := txI_len f k
      generalize f k = y at *
      generalize txI f k = l at *
      have hia := fun u => idx_dgx (y / 16) (by omega) u
      have hib := fun u => idx_dgx (y % 16) (by omega) u
      have hqa : (y : Int) / 16 = ((y / 16 : Nat) : Int) := by omega
      have hqb : Int.tmod (y : Int) 16 = ((y % 16 : Nat) : Int) := by rw [Int.tmod_eq_emod_of_nonneg (by omega)]; omega
      have hqc : Int.tdiv (y : Int) 16 = ((y / 16 : Nat) : Int) := by rw [Int.tdiv_eq_ediv_of_nonneg (by omega)]; omega
      have hq1 : y / 16 < 16 := by omega
      have hq2 : y % 16 < 16 := by omega
      generalize y / 16 = q1 at *
      generalize y % 16 = q2 at *
      have hsz := HR.out.2.size
      have HR := Lib.hid (show TxR wr.drew w u3 l from HR.out.drew)
      have hqw : IntKind.u8.wrap (q1 : Int) = (q1 : Int) := IntWalk.u8_in _ (by omega)
      generalize dgx q1 = d1 at *
      generalize dgx q2 = d2 at *
      go_wp2_with fail
      go_region_held3 (fun _ => True) (first | exact trivial)
        (first
          | (refine step_append_row rfl (.tmp 11) (.tmp 18) 24 rfl w.heap.size 5 Tryd.underlying24 (.int .u8 0) 1 1 u8info rfl (by decide) u3 l.length (l.map bv) rfl (HR.out.al _).1 _ 2 [bv d1, bv d2] rfl (Rs.new _ [bv d1, bv d2] _ 1 2 rfl (by unfold maxLen; omega)) (bv_two d1 d2) (by omega) (by decide) (by simp; omega) ?_; intro v' w3 ho3 hg3 _; have HT3 := Lib.hid (TxR.app HR.out _ ho3 hg3); clear ho3 hg3)
          | fail)
      all_goals
        rw [← HS.out] at HT3
        try go_wp2_with fail
        refine ⟨⟨k + 1, by omega, by go_num, HT3⟩, by simp [intOf]; omega⟩
    · obtain rfl : k = 32 := by omega
      have hln := txI_len f 32
      have hcv := (Own.bs HR.out.1).conv (P := Tryd.prog) 24 5 9 Tryd.underlying24 Tryd.underlying5 Tryd.underlying9
      generalize hsr : (⟨(txI f 32).toArray⟩ : ByteArray) = sr at *
      have HSR := Lib.hid hsr
      clear hsr
      go_wp2_with fail
      go_ret
      exact ⟨by rw [HSR.out]; rfl, HR.out.2⟩

set_option maxRecDepth 100000 in
set_option maxHeartbeats 2000000 in
theorem refText_any (f : Nat → Nat) (w : World) (hf : ∀ i, i < 32 → f i < 256) :
    Calls Tryd.prog 27 #[idv f] w fun e w' => e = .returned (.string ⟨(txI f 32).toArray⟩) ∧ Ext w w' := by
  have HF := Lib.hid hf
  clear hf
  have HK : Hid (Ib (w.alloc (.cells (ic f) 27)) w.heap.size f) := Cs.new _ _ _ _ rfl
  unfold idv
  go_enter Tryd.func27, Tryd.ntmps27
  go_wp2_with (first
    | (at_make; refine wpList_make_room rfl _ _ _ rfl 5 Tryd.underlying24 u8info .i64 .i64 _ _ 0 64 rfl rfl rfl rfl (by omega) (by omega) ?_; intro w1 hr1 he1; rw [World.size_alloc] at hr1 ⊢; have HR : Hid (TxR w1 w (.slice (some ⟨w.heap.size + 1, 0, none⟩) 0 64) (txI f 0)) := TxR.start hr1 (by omega) (((Ext.refl w).alloc _).trans he1); have HK1 := Lib.hid (Cs.ext HK.out he1); clear hr1 he1 HK)
    | ((with_reducible refine wpList_load_id ?_ (.tmp 1) ?_ w.heap.size f ?_ ?_ ?_); (exact rfl); (exact rfl); (exact rfl); (exact HK1.out)))
  go_loopw [3, 5, 8, 9, 10, 11, 12, 13, 14, 15, 16, 17, 18, 19, 20] (fun s _ i _ _ _ _ _ _ _ _ _ _ _ _ wr => ∃ k : Nat, k ≤ 32 ∧ i = .int .i64 k ∧ Hid (TxR wr w s (txI f k))) (fun _ _ i _ _ _ _ _ _ _ _ _ _ _ _ _ => 32 - (intOf i).toNat)
  case atStart => exact ⟨0, by omega, rfl, HR⟩
  case round =>
    clear HR
    obtain ⟨k, hk, rfl, HR⟩ := hrel
    by_cases hlt : k < 32
    · have hix := idx_id f k hlt
      have a1 : (0 : Int) ≤ (k : Int) := by omega
      have a2 : (k : Int) < 32 := by omega
      have hy := HF.out k hlt
      have HS := Lib.hid (txI_succ f k)
      have hlen := txI_len f k
      generalize f k = y at *
      generalize txI f k = l at *
      have hia := fun u => idx_dgx (y / 16) (by omega) u
      have hib := fun u => idx_dgx (y % 16) (by omega) u
      have hqa : (y : Int) / 16 = ((y / 16 : Nat) : Int) := by omega
      have hqb : Int.tmod (y : Int) 16 = ((y % 16 : Nat) : Int) := by rw [Int.tmod_eq_emod_of_nonneg (by omega)]; omega
      have hqc : Int.tdiv (y : Int) 16 = ((y / 16 : Nat) : Int) := by rw [Int.tdiv_eq_ediv_of_nonneg (by omega)]; omega
      have hq1 : y / 16 < 16 := by omega
      have hq2 : y % 16 < 16 := by omega
      generalize y / 16 = q1 at *
      generalize y % 16 = q2 at *
      have hsz := HR.out.2.size
      have HR := Lib.hid (show TxR wr.drew w u3 l from HR.out.drew)
      have hqw : IntKind.u8.wrap (q1 : Int) = (q1 : Int) := IntWalk.u8_in _ (by omega)
      generalize dgx q1 = d1 at *
      generalize dgx q2 = d2 at *
      go_wp2_with fail
      go_region_held3 (fun _ => True) (first | exact trivial)
        (first
          | (refine step_append_row rfl (.tmp 11) (.tmp 18) 24 rfl w.heap.size 5 Tryd.underlying24 (.int .u8 0) 1 1 u8info rfl (by decide) u3 l.length (l.map bv) rfl (HR.out.al _).1 _ 2 [bv d1, bv d2] rfl (Rs.new _ [bv d1, bv d2] _ 1 2 rfl (by unfold maxLen; omega)) (bv_two d1 d2) (by omega) (by decide) (by simp; omega) ?_; intro v' w3 ho3 hg3 _; have HT3 := Lib.hid (TxR.app HR.out _ ho3 hg3); clear ho3 hg3)
          | fail)
      all_goals
        rw [← HS.out] at HT3
        try go_wp2_with fail
        refine ⟨⟨k + 1, by omega, by go_num, HT3⟩, by simp [intOf]; omega⟩
    · obtain rfl : k = 32 := by omega
      have hln := txI_len f 32
      have hcv := (Own.bs HR.out.1).conv (P := Tryd.prog) 24 5 9 Tryd.underlying24 Tryd.underlying5 Tryd.underlying9
      generalize hsr : (⟨(txI f 32).toArray⟩ : ByteArray) = sr at *
      have HSR := Lib.hid hsr
      clear hsr
      go_wp2_with fail
      go_ret
      exact ⟨by rw [HSR.out]; rfl, HR.out.2⟩

end Go.Proofs.YthjmjccggkejhaaDoor
