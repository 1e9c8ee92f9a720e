/- Package state: where a slot stands. -/
import Derived.Test.YtiojfpdjnblkhaaQStm
namespace Go.Proofs.Ytiojfpdjnblkhaa
open Go.ChangeShapes Go.WideShapes Go.ChangeAt Go.RowKit Go.Shelf

def RiseK (l : List (Nat × Nat)) : Prop := ∀ i j, i < j → j < l.length → (l.getD i (0, 0)).1 < (l.getD j (0, 0)).1
def posK (l : List (Nat × Nat)) (k : Nat) : Nat := (l.filter fun p => decide (p.1 < k)).length
def hasK (l : List (Nat × Nat)) (k : Nat) : Bool := decide (posK l k < l.length) && decide ((l.getD (posK l k) (0, 0)).1 = k)
theorem posK_le (l : List (Nat × Nat)) (k : Nat) : posK l k ≤ l.length := List.length_filter_le _ _
theorem posK_lt : ∀ (l : List (Nat × Nat)) (k : Nat), RiseK l → ∀ i, i < l.length → ((l.getD i (0, 0)).1 < k ↔ i < posK l k)
 | [], k, _, i, hi => by simp at hi
 | p :: l, k, hr, i, hi => by
  have hr' : RiseK l := fun a b hab hb => by
   have := hr (a + 1) (b + 1) (by omega) (by simp; omega)
   simpa using this
  have ih := posK_lt l k hr'
  by_cases hp : p.1 < k
  ·have e : posK (p :: l) k = posK l k + 1 := by unfold posK; simp [hp]
   rw [e]
   cases i with
   | zero => simpa using hp
   | succ i =>
    have := ih i (by simpa using hi)
    simp only [List.getD_cons_succ]
    omega
  ·have e : posK (p :: l) k = posK l k := by unfold posK; simp [hp]
   have h0 : posK l k = 0 := by
    rcases Nat.eq_zero_or_pos (posK l k) with h | h
    ·exact h
    ·have hl : 0 < l.length := Nat.lt_of_lt_of_le h (posK_le l k)
     have h1 := (ih 0 hl).2 h
     have h2 := hr 0 1 (by omega) (by simp; omega)
     simp at h2
     simp [List.getD] at h1 h2 ⊢
     omega
   rw [e, h0]
   cases i with
   | zero => simp [hp]
   | succ i =>
    have h2 := hr 0 (i + 1) (by omega) hi
    simp only [List.getD_cons_zero, List.getD_cons_succ] at h2 ⊢
    omega
theorem cmp_lt0 (a b : Nat) : decide (cmpN a b < 0) = decide (a < b) := by
 have := cmp_ge a b
 by_cases h : a < b <;> simp [h] at this ⊢ <;> omega
theorem cmp_eq0 (a b : Nat) : (cmpN a b == 0) = decide (a = b) := by
 unfold cmpN
 by_cases h : a < b
 ·have : a ≠ b := by omega
  simp [h, this]
 ·by_cases h2 : a = b
  ·simp [h2]
  ·have : b < a := by omega
   simp [h, h2, this]
set_option maxRecDepth 100000 in
set_option maxHeartbeats 1000000 in
theorem slot1_any (p : Nat × Nat) (n : Nat) (w : World) (hp : p.1 < M256) (hn : n < M256) :
  Calls Try.prog 129 #[.agg (pkc p), wv n] w fun e w' => e = .returned (.int .i64 (cmpN p.1 n)) ∧ Ext w w' := by
 have HK : Hid (Cs ((w.alloc (.cells (pkc p) 33)).alloc (.cells (wc n) 31)) w.heap.size 33 (pkc p)) := Lib.hid (Cs.alloc (Cs.new _ _ _ _ rfl) _)
 have HW : Hid (Wd ((w.alloc (.cells (pkc p) 33)).alloc (.cells (wc n) 31)) (w.heap.size + 1) 31 n) := Lib.hid (Cs.new _ _ _ _ (by simp))
 have HE := Lib.hid (((Ext.refl w).alloc (.cells (pkc p) 33)).alloc (.cells (wc n) 31))
 obtain ⟨pc, hpc⟩ : ∃ pc, pkc p = pc := ⟨_, rfl⟩
 have HPK := Lib.hid (pkb_key HK.out)
 rw [hpc] at HE HK HW HPK ⊢
 clear hpc
 unfold wv
 go_enter Try.func129, Try.ntmps129
 go_wp2_with (first
  | ((with_reducible refine wpList_load_wordIn ?_ (.tmp 5) ?_ w.heap.size 0 p.1 ?_ ?_ ?_); (exact rfl); (exact rfl); (exact rfl); (exact HPK.out))
  | ((with_reducible refine wpList_load_word ?_ 31 28 (.tmp 3) ?_ Try.underlying31 winfo (w.heap.size + 1) n ?_ ?_ ?_); (exact rfl); (exact rfl); (exact rfl); (exact HW.out)))
 refine (cmp_any p.1 n _ hp hn).mono ?_
 rintro e w3 ⟨rfl, he⟩
 have HE3 := Lib.hid (HE.out.trans he)
 clear he
 obtain ⟨r, hr⟩ : ∃ r, cmpN p.1 n = r := ⟨_, rfl⟩
 have HRR := Lib.hid hr
 rw [hr]
 clear hr
 go_wp2_with fail
 go_ret
 exact ⟨by rw [HRR.out]; rfl, HE3.out⟩
theorem wd_range {W : World} {g n : Nat} (h : Wd W g 31 n) : W.rangeAt g 0 (wc n).toList := fun j x hx => by
 rw [Nat.zero_add]
 exact Cs.cell h j x (by rwa [Array.getElem?_toList] at hx)
def SrJ (w : World) (g4 n : Nat) (W : World) : Prop := Wd W g4 31 n ∧ Ext w W
theorem SrJ.ext {w : World} {g4 n : Nat} {W W' : World} (h : SrJ w g4 n W) (he : Ext W W') : SrJ w g4 n W' := ⟨Cs.ext h.1 he, h.2.trans he⟩
set_option maxRecDepth 100000 in
set_option maxHeartbeats 4000000 in
theorem search_any (sv : Value) (l : List (Nat × Nat)) (n : Nat) (w : World) (hs : Pks w sv l) (hr : RiseK l) (hl : l.length ≤ 100000) (hn : n < M256) :
  Calls Try.prog 128 #[sv, wv n, .func (.func 129) #[] #[]] w fun e w' => e = .returned (.tuple #[.int .i64 (posK l n : Nat), .bool (hasK l n)]) ∧ Ext w w' := by
 have HS := Lib.hid hs
 obtain ⟨A1, c, rfl, h1, h2⟩ := hs.len
 unfold maxLen at h2
 have HJ0 : Hid (SrJ w w.heap.size n (w.alloc (.cells (wc n) 31))) := Lib.hid ⟨Cs.new _ _ _ _ rfl, (Ext.refl w).alloc _⟩
 have HPL := Lib.hid (posK_lt l n hr)
 have HHK : Hid (hasK l n = (decide (posK l n < l.length) && decide ((l.getD (posK l n) (0, 0)).1 = n))) := Lib.hid rfl
 have HPO := Lib.hid (posK_le l n)
 clear hs hr
 unfold wv
 go_enter Try.func128, Try.ntmps128
 go_wp2_with fail
 go_loopw [9, 10] (fun iv jv wr => ∃ i j : Nat, i ≤ posK l n ∧ posK l n ≤ j ∧ j ≤ l.length ∧ iv = .int .i64 i ∧ jv = .int .i64 j ∧ Hid (SrJ w w.heap.size n wr)) (fun iv jv _ => (intOf jv).toNat - (intOf iv).toNat)
 case atStart => exact ⟨0, l.length, Nat.zero_le _, HPO.out, Nat.le_refl _, rfl, rfl, HJ0⟩
 case round =>
  obtain ⟨i, j, hi, hj, hjl, rfl, rfl, HJ⟩ := hrel
  clear HJ0
  by_cases hlt : i < j
  ·have hd : decide (i < j) = true := decide_eq_true hlt
   have hd2 : decide ((i : Int) < (j : Int)) = true := decide_eq_true (by omega)
   obtain ⟨h, hh⟩ : ∃ h, (i + j) / 2 = h := ⟨_, rfl⟩
   have hhl : h < l.length := by omega
   have HH := Lib.hid (show i ≤ h ∧ h < j ∧ (((i : Int) + (j : Int)) / 2 = ((h : Nat) : Int)) by omega)
   obtain ⟨bb, oo, rfl, hrg, hp1, hp2⟩ := HS.out.at h hhl
   have HR := Lib.hid hrg
   have HP1 := Lib.hid hp1
   have HPH := Lib.hid (HPL.out h hhl)
   clear hh hrg hp1 hp2 HPL
   generalize l.getD h (0, 0) = p at *
   go_upto_region 5 with fail
   rw [HH.out.2.2]
   have hd3 : decide (h < l.length) = true := decide_eq_true hhl
   obtain ⟨r, hr⟩ : ∃ r, cmpN p.1 n = r := ⟨_, rfl⟩
   have HRR := Lib.hid hr
   have HLT := Lib.hid (cmp_lt0 p.1 n)
   rw [hr] at HLT
   obtain ⟨rb, hrb⟩ : ∃ rb, decide (r < 0) = rb := ⟨_, rfl⟩
   have HRB := Lib.hid hrb
   clear hr
   refine wp_named fun a0 ha0 => ?_
   obtain ⟨fr, hfr⟩ : ∃ fr : (Nat → Value) → Act, ∀ V, fr V = ((((((((a0.put (some 24) (V 0)).put (some 25) (V 1)).put (some 26) (V 2)).put (some 27) (V 3)).put (some 28) (V 4)).put (some 29) (V 5)).put (some 30) (V 6)).put (some 31) (V 7)) := ⟨_, fun _ => rfl⟩
   rw [ha0] at hfr
   simp only [Act.put, List.setIfInBounds_toArray, List.set_cons_zero, List.set_cons_succ] at hfr
   have HFR := Lib.hid hfr
   clear hfr
   refine wp_region_inv (by kernel_rfl) (by kernel_rfl) (fun L A W => ∃ V : Nat → Value, A = fr V ∧ Vals (fun j => ([some (.func (.func 129) #[] #[]), some (.slice (some ⟨bb, oo, none⟩) l.length c), some (.int .i64 (h : Nat)), some (.pointer (some ⟨bb, oo + h * 8, none⟩)), some (.agg (pkc p)), some (wv n), some (.int .i64 r), some (.bool rb)] : List (Option Value)).getD j none) L V ∧ (SrJ w w.heap.size n W)) ?_ ⟨?_, ?_, ?_, ?_, ?_, ?_, ?_, ?_, trivial⟩ ?_
   ·refine ⟨fun j => a0.tmps.getD (([24, 25, 26, 27, 28, 29, 30, 31] : List Nat).getD j 0) undef, ?_, Vals.no _ _ _ (far_none _ _ rfl), HJ.out.ext (Ext.refl _).drew⟩
    rw [HFR.out, ha0]
    rfl
   all_goals clear ha0
   ·rintro L A W K hL hC hW ⟨V, rfl, HV, s0⟩ hK
    have H := Lib.hid (show ∀ W', Ext W W' → K (fr (upd V 0 (.func (.func 129) #[] #[]))) W' from fun W' he => hK _ _ ⟨_, rfl, HV.us 0 _ rfl, SrJ.ext s0 he⟩)
    clear hK hC hW hL HV s0
    rw [HFR.out]
    go_wp2_with fail
    show K _ _; have := H.out _ (Ext.refl _); rw [HFR.out] at this
    exact this
   ·rintro L A W K hL hC hW ⟨V, rfl, HV, s0⟩ hK
    have H := Lib.hid (show ∀ W', Ext W W' → K (fr (upd V 1 (.slice (some ⟨bb, oo, none⟩) l.length c))) W' from fun W' he => hK _ _ ⟨_, rfl, HV.us 1 _ rfl, SrJ.ext s0 he⟩)
    clear hK hC hW hL HV s0
    rw [HFR.out]
    go_wp2_with fail
    show K _ _; have := H.out _ (Ext.refl _); rw [HFR.out] at this
    exact this
   ·rintro L A W K hL hC hW ⟨V, rfl, HV, s0⟩ hK
    have H := Lib.hid (show ∀ W', Ext W W' → K (fr (upd V 2 (.int .i64 (h : Nat)))) W' from fun W' he => hK _ _ ⟨_, rfl, HV.us 2 _ rfl, SrJ.ext s0 he⟩)
    clear hK hC hW hL HV s0
    rw [HFR.out]
    go_wp2_with fail
    show K _ _; have := H.out _ (Ext.refl _); rw [HFR.out] at this
    exact this
   ·rintro L A W K hL hC hW ⟨V, rfl, HV, s0⟩ hK
    have e1 := HV 1 _ rfl (hW 1 rfl)
    have e2 := HV 2 _ rfl (hW 2 rfl)
    have H := Lib.hid (show ∀ W', Ext W W' → K (fr (upd V 3 (.pointer (some ⟨bb, oo + h * 8, none⟩)))) W' from fun W' he => hK _ _ ⟨_, rfl, HV.us 3 _ rfl, SrJ.ext s0 he⟩)
    have HU := Lib.hid (show (upd V 3 (.pointer (some ⟨bb, oo + h * 8, none⟩))) 1 = .slice (some ⟨bb, oo, none⟩) l.length c ∧ (upd V 3 (.pointer (some ⟨bb, oo + h * 8, none⟩))) 2 = .int .i64 (h : Nat) from ⟨e1, e2⟩)
    clear hK hC hW hL HV s0
    rw [HFR.out, e1, e2]
    clear e1 e2
    go_wp2_with fail
    show K _ _; have := H.out _ (Ext.refl _); rw [HFR.out] at this
    obtain ⟨u1, u2⟩ := HU.out
    rw [u1, u2] at this
    exact this
   ·rintro L A W K hL hC hW ⟨V, rfl, HV, s0⟩ hK
    have e3 := HV 3 _ rfl (hW 3 rfl)
    have hB := s0
    have H := Lib.hid (show ∀ W', Ext W W' → K (fr (upd V 4 (.agg (pkc p)))) W' from fun W' he => hK _ _ ⟨_, rfl, HV.us 4 _ rfl, SrJ.ext s0 he⟩)
    have HU := Lib.hid (show (upd V 4 (.agg (pkc p))) 3 = .pointer (some ⟨bb, oo + h * 8, none⟩) from e3)
    clear hK hC hW hL HV s0
    rw [HFR.out, e3]
    clear e3
    have HWD := Lib.hid (fun j x hx => hB.2.cell (HR.out j x hx))
    clear hB
    refine wpList_load_pair rfl (.tmp 27) rfl bb (oo + h * 8) p rfl HWD.out ?_
    show K _ _; have := H.out _ (Ext.refl _); rw [HFR.out] at this
    obtain u3 := HU.out
    rw [u3] at this
    exact this
   ·rintro L A W K hL hC hW ⟨V, rfl, HV, s0⟩ hK
    have hB := s0
    have H := Lib.hid (show ∀ W', Ext W W' → K (fr (upd V 5 (wv n))) W' from fun W' he => hK _ _ ⟨_, rfl, HV.us 5 _ rfl, SrJ.ext s0 he⟩)
    clear hK hC hW hL HV s0
    rw [HFR.out]
    have HWD := Lib.hid (wd_range hB.1)
    clear hB
    refine wpList_load_wordIn rfl (.tmp 4) rfl w.heap.size 0 n rfl HWD.out ?_
    show K _ _; have := H.out _ (Ext.refl _); rw [HFR.out] at this
    exact this
   ·rintro L A W K hL hC hW ⟨V, rfl, HV, s0⟩ hK
    have e0 := HV 0 _ rfl (hW 0 rfl)
    have e4 := HV 4 _ rfl (hW 4 rfl)
    have e5 := HV 5 _ rfl (hW 5 rfl)
    have hB := s0
    have H := Lib.hid (show ∀ W', Ext W W' → K (fr (upd V 6 (.int .i64 r))) W' from fun W' he => hK _ _ ⟨_, rfl, HV.us 6 _ rfl, SrJ.ext s0 he⟩)
    have HU := Lib.hid (show (upd V 6 (.int .i64 r)) 0 = .func (.func 129) #[] #[] ∧ (upd V 6 (.int .i64 r)) 4 = .agg (pkc p) ∧ (upd V 6 (.int .i64 r)) 5 = wv n from ⟨e0, e4, e5⟩)
    clear hK hC hW hL HV s0
    rw [HFR.out, e0, e4, e5]
    clear e0 e4 e5
    clear hB
    go_wp2_with fail
    refine (slot1_any p n _ HP1.out hn).mono ?_
    rintro e wx ⟨rfl, he⟩
    rw [HRR.out]
    have := H.out _ he
    clear H
    go_wp2_with fail
    show K _ _
    rw [HFR.out] at this
    obtain ⟨u0, u4, u5⟩ := HU.out
    rw [u0, u4, u5] at this
    exact this
   ·rintro L A W K hL hC hW ⟨V, rfl, HV, s0⟩ hK
    have e6 := HV 6 _ rfl (hW 6 rfl)
    have H := Lib.hid (show ∀ W', Ext W W' → K (fr (upd V 7 (.bool rb))) W' from fun W' he => hK _ _ ⟨_, rfl, HV.us 7 _ rfl, SrJ.ext s0 he⟩)
    have HU := Lib.hid (show (upd V 7 (.bool rb)) 6 = .int .i64 r from e6)
    clear hK hC hW hL HV s0
    rw [HFR.out, e6]
    clear e6
    go_wp2_with fail
    show K _ _; have := H.out _ (Ext.refl _); rw [HFR.out] at this
    obtain u6 := HU.out
    rw [u6] at this
    exact this
   ·rintro L A W hL ⟨V, rfl, HV, s0⟩
    have e0 := HV 0 _ rfl (hL 0 (by simp))
    have e1 := HV 1 _ rfl (hL 1 (by simp))
    have e2 := HV 2 _ rfl (hL 2 (by simp))
    have e3 := HV 3 _ rfl (hL 3 (by simp))
    have e4 := HV 4 _ rfl (hL 4 (by simp))
    have e5 := HV 5 _ rfl (hL 5 (by simp))
    have e6 := HV 6 _ rfl (hL 6 (by simp))
    have e7 := HV 7 _ rfl (hL 7 (by simp))
    have hA := s0
    rw [HFR.out, e0, e1, e2, e3, e4, e5, e6, e7]
    clear hL HV HFR e0 e1 e2 e3 e4 e5 e6 e7 s0
    have HJA := Lib.hid hA
    clear hA hrb
    cases rb with
    | true =>
     have hx : p.1 < n := by have := HLT.out; rw [HRB.out] at this; simpa using this.symm
     have hi2 := HPH.out.1 hx
     clear hx HPH
     go_wp2_with fail
     exact ⟨⟨h + 1, j, hi2, hj, hjl, by go_num, rfl, HJA⟩, by have := HH.out; simp [intOf]; omega⟩
    | false =>
     have hx : ¬ p.1 < n := by have := HLT.out; rw [HRB.out] at this; simpa using this.symm
     have hi2 : posK l n ≤ h := by
      rcases Nat.lt_or_ge h (posK l n) with h' | h'
      ·exact absurd (HPH.out.2 h') hx
      ·exact h'
     clear hx HPH
     go_wp2_with fail
     exact ⟨⟨i, h, hi, hi2, by omega, rfl, rfl, HJA⟩, by have := HH.out; simp [intOf]; omega⟩
  ·obtain rfl : i = j := by omega
   obtain rfl : i = posK l n := by omega
   clear hi hj hlt
   have HIP := Lib.hid (rfl : posK l n = posK l n)
   by_cases hil : posK l n < l.length
   ·obtain ⟨bb, oo, rfl, hrg, hp1, hp2⟩ := HS.out.at (posK l n) hil
    have HR := Lib.hid hrg
    have HP1 := Lib.hid hp1
    obtain ⟨i, hi⟩ : ∃ i, posK l n = i := ⟨_, rfl⟩
    have HI := Lib.hid hi
    rw [hi] at HR HP1 HHK hil hjl ⊢
    clear hrg hp1 hp2 HPL HIP hi
    generalize l.getD i (0, 0) = p at *
    have hd3 : decide (i < l.length) = true := decide_eq_true hil
    have hd4 : decide ((i : Int) < (l.length : Int)) = true := decide_eq_true (by omega)
    obtain ⟨r, hr⟩ : ∃ r, cmpN p.1 n = r := ⟨_, rfl⟩
    have HRR := Lib.hid hr
    have HEQ := Lib.hid (cmp_eq0 p.1 n)
    rw [hr] at HEQ
    obtain ⟨rb, hrb⟩ : ∃ rb, (r == 0) = rb := ⟨_, rfl⟩
    have HRB := Lib.hid hrb
    have HF := Lib.hid (show hasK l n = rb by rw [HHK.out, decide_eq_true hil, ← HEQ.out, HRB.out]; rfl)
    clear hr HHK
    go_upto_region 8 with fail
    refine wp_named fun a0 ha0 => ?_
    obtain ⟨fr, hfr⟩ : ∃ fr : (Nat → Value) → Act, ∀ V, fr V = ((((((((((((((((a0.put (some 35) (V 0)).put (some 36) (V 1)).put (some 37) (V 2)).put (some 38) (V 3)).put (some 39) (V 4)).put (some 40) (V 5)).put (some 41) (V 6)).put (some 42) (V 7)).put (some 43) (V 8)).put (some 44) (V 9)).put (some 45) (V 10)).put (some 46) (V 11)).put (some 47) (V 12)).put (some 48) (V 13)).put (some 6) (V 14)).put (some 7) (V 15)) := ⟨_, fun _ => rfl⟩
    rw [ha0] at hfr
    simp only [Act.put, List.setIfInBounds_toArray, List.set_cons_zero, List.set_cons_succ] at hfr
    have HFR := Lib.hid hfr
    clear hfr
    refine wp_region_inv (by kernel_rfl) (by kernel_rfl) (fun L A W => ∃ V : Nat → Value, A = fr V ∧ Vals (fun j => ([some (.int .i64 (i : Nat)), some (.int .i64 (i : Nat)), some (.int .i64 (l.length : Nat)), some (.bool true), some (.bool true), some (.func (.func 129) #[] #[]), some (.slice (some ⟨bb, oo, none⟩) l.length c), some (.int .i64 (i : Nat)), some (.pointer (some ⟨bb, oo + i * 8, none⟩)), some (.agg (pkc p)), some (wv n), some (.int .i64 r), some (.bool rb), some (.bool rb), some (.int .i64 (i : Nat)), some (.bool rb)] : List (Option Value)).getD j none) L V ∧ (SrJ w w.heap.size n W)) ?_ ⟨?_, ?_, ?_, ?_, ?_, ?_, ?_, ?_, ?_, ?_, ?_, ?_, ?_, ?_, ?_, ?_, trivial⟩ ?_
    ·refine ⟨fun j => a0.tmps.getD (([35, 36, 37, 38, 39, 40, 41, 42, 43, 44, 45, 46, 47, 48, 6, 7] : List Nat).getD j 0) undef, ?_, Vals.no _ _ _ (far_none _ _ rfl), HJ.out.ext (Ext.refl _).drew⟩
     rw [HFR.out, ha0]
     rfl
    all_goals clear ha0
    ·rintro L A W K hL hC hW ⟨V, rfl, HV, s0⟩ hK
     have H := Lib.hid (show ∀ W', Ext W W' → K (fr (upd V 0 (.int .i64 (i : Nat)))) W' from fun W' he => hK _ _ ⟨_, rfl, HV.us 0 _ rfl, SrJ.ext s0 he⟩)
     clear hK hC hW hL HV s0
     rw [HFR.out]
     go_wp2_with fail
     show K _ _; have := H.out _ (Ext.refl _); rw [HFR.out] at this
     exact this
    ·rintro L A W K hL hC hW ⟨V, rfl, HV, s0⟩ hK
     have H := Lib.hid (show ∀ W', Ext W W' → K (fr (upd V 1 (.int .i64 (i : Nat)))) W' from fun W' he => hK _ _ ⟨_, rfl, HV.us 1 _ rfl, SrJ.ext s0 he⟩)
     clear hK hC hW hL HV s0
     rw [HFR.out]
     go_wp2_with fail
     show K _ _; have := H.out _ (Ext.refl _); rw [HFR.out] at this
     exact this
    ·rintro L A W K hL hC hW ⟨V, rfl, HV, s0⟩ hK
     have H := Lib.hid (show ∀ W', Ext W W' → K (fr (upd V 2 (.int .i64 (l.length : Nat)))) W' from fun W' he => hK _ _ ⟨_, rfl, HV.us 2 _ rfl, SrJ.ext s0 he⟩)
     clear hK hC hW hL HV s0
     rw [HFR.out]
     go_wp2_with fail
     show K _ _; have := H.out _ (Ext.refl _); rw [HFR.out] at this
     exact this
    ·rintro L A W K hL hC hW ⟨V, rfl, HV, s0⟩ hK
     have e1 := HV 1 _ rfl (hW 1 rfl)
     have e2 := HV 2 _ rfl (hW 2 rfl)
     have H := Lib.hid (show ∀ W', Ext W W' → K (fr (upd V 3 (.bool true))) W' from fun W' he => hK _ _ ⟨_, rfl, HV.us 3 _ rfl, SrJ.ext s0 he⟩)
     have HU := Lib.hid (show (upd V 3 (.bool true)) 1 = .int .i64 (i : Nat) ∧ (upd V 3 (.bool true)) 2 = .int .i64 (l.length : Nat) from ⟨e1, e2⟩)
     clear hK hC hW hL HV s0
     rw [HFR.out, e1, e2]
     clear e1 e2
     go_wp2_with fail
     show K _ _; have := H.out _ (Ext.refl _); rw [HFR.out] at this
     obtain ⟨u1, u2⟩ := HU.out
     rw [u1, u2] at this
     exact this
    ·rintro L A W K hL hC hW ⟨V, rfl, HV, s0⟩ hK
     have e3 := HV 3 _ rfl (hW 3 rfl)
     have H := Lib.hid (show ∀ W', Ext W W' → K (fr (upd V 4 (.bool true))) W' from fun W' he => hK _ _ ⟨_, rfl, HV.us 4 _ rfl, SrJ.ext s0 he⟩)
     have HU := Lib.hid (show (upd V 4 (.bool true)) 3 = .bool true from e3)
     clear hK hC hW hL HV s0
     rw [HFR.out, e3]
     clear e3
     go_wp2_with fail
     show K _ _; have := H.out _ (Ext.refl _); rw [HFR.out] at this
     obtain u3 := HU.out
     rw [u3] at this
     exact this
    ·rintro L A W K hL hC hW ⟨V, rfl, HV, s0⟩ hK
     have e4 := HV 4 _ rfl (hW 4 rfl)
     have H := Lib.hid (show ∀ W', Ext W W' → K (fr (upd V 5 (.func (.func 129) #[] #[]))) W' from fun W' he => hK _ _ ⟨_, rfl, HV.us 5 _ rfl, SrJ.ext s0 he⟩)
     have HU := Lib.hid (show (upd V 5 (.func (.func 129) #[] #[])) 4 = .bool true from e4)
     clear hK hC hW hL HV s0
     rw [HFR.out, e4]
     clear e4
     go_wp2_with fail
     show K _ _; have := H.out _ (Ext.refl _); rw [HFR.out] at this
     obtain u4 := HU.out
     rw [u4] at this
     exact this
    ·rintro L A W K hL hC hW ⟨V, rfl, HV, s0⟩ hK
     have e4 := HV 4 _ rfl (hW 4 rfl)
     have H := Lib.hid (show ∀ W', Ext W W' → K (fr (upd V 6 (.slice (some ⟨bb, oo, none⟩) l.length c))) W' from fun W' he => hK _ _ ⟨_, rfl, HV.us 6 _ rfl, SrJ.ext s0 he⟩)
     have HU := Lib.hid (show (upd V 6 (.slice (some ⟨bb, oo, none⟩) l.length c)) 4 = .bool true from e4)
     clear hK hC hW hL HV s0
     rw [HFR.out, e4]
     clear e4
     go_wp2_with fail
     show K _ _; have := H.out _ (Ext.refl _); rw [HFR.out] at this
     obtain u4 := HU.out
     rw [u4] at this
     exact this
    ·rintro L A W K hL hC hW ⟨V, rfl, HV, s0⟩ hK
     have e4 := HV 4 _ rfl (hW 4 rfl)
     have H := Lib.hid (show ∀ W', Ext W W' → K (fr (upd V 7 (.int .i64 (i : Nat)))) W' from fun W' he => hK _ _ ⟨_, rfl, HV.us 7 _ rfl, SrJ.ext s0 he⟩)
     have HU := Lib.hid (show (upd V 7 (.int .i64 (i : Nat))) 4 = .bool true from e4)
     clear hK hC hW hL HV s0
     rw [HFR.out, e4]
     clear e4
     go_wp2_with fail
     show K _ _; have := H.out _ (Ext.refl _); rw [HFR.out] at this
     obtain u4 := HU.out
     rw [u4] at this
     exact this
    ·rintro L A W K hL hC hW ⟨V, rfl, HV, s0⟩ hK
     have e4 := HV 4 _ rfl (hW 4 rfl)
     have e6 := HV 6 _ rfl (hW 6 rfl)
     have e7 := HV 7 _ rfl (hW 7 rfl)
     have H := Lib.hid (show ∀ W', Ext W W' → K (fr (upd V 8 (.pointer (some ⟨bb, oo + i * 8, none⟩)))) W' from fun W' he => hK _ _ ⟨_, rfl, HV.us 8 _ rfl, SrJ.ext s0 he⟩)
     have HU := Lib.hid (show (upd V 8 (.pointer (some ⟨bb, oo + i * 8, none⟩))) 4 = .bool true ∧ (upd V 8 (.pointer (some ⟨bb, oo + i * 8, none⟩))) 6 = .slice (some ⟨bb, oo, none⟩) l.length c ∧ (upd V 8 (.pointer (some ⟨bb, oo + i * 8, none⟩))) 7 = .int .i64 (i : Nat) from ⟨e4, e6, e7⟩)
     clear hK hC hW hL HV s0
     rw [HFR.out, e4, e6, e7]
     clear e4 e6 e7
     go_wp2_with fail
     show K _ _; have := H.out _ (Ext.refl _); rw [HFR.out] at this
     obtain ⟨u4, u6, u7⟩ := HU.out
     rw [u4, u6, u7] at this
     exact this
    ·rintro L A W K hL hC hW ⟨V, rfl, HV, s0⟩ hK
     have e4 := HV 4 _ rfl (hW 4 rfl)
     have e8 := HV 8 _ rfl (hW 8 rfl)
     have hB := s0
     have H := Lib.hid (show ∀ W', Ext W W' → K (fr (upd V 9 (.agg (pkc p)))) W' from fun W' he => hK _ _ ⟨_, rfl, HV.us 9 _ rfl, SrJ.ext s0 he⟩)
     have HU := Lib.hid (show (upd V 9 (.agg (pkc p))) 4 = .bool true ∧ (upd V 9 (.agg (pkc p))) 8 = .pointer (some ⟨bb, oo + i * 8, none⟩) from ⟨e4, e8⟩)
     clear hK hC hW hL HV s0
     rw [HFR.out, e4, e8]
     clear e4 e8
     have HWD := Lib.hid (fun j x hx => hB.2.cell (HR.out j x hx))
     clear hB
     refine wpList_load_pair rfl (.tmp 43) rfl bb (oo + i * 8) p rfl HWD.out ?_
     show K _ _; have := H.out _ (Ext.refl _); rw [HFR.out] at this
     obtain ⟨u4, u8⟩ := HU.out
     rw [u4, u8] at this
     exact this
    ·rintro L A W K hL hC hW ⟨V, rfl, HV, s0⟩ hK
     have e4 := HV 4 _ rfl (hW 4 rfl)
     have hB := s0
     have H := Lib.hid (show ∀ W', Ext W W' → K (fr (upd V 10 (wv n))) W' from fun W' he => hK _ _ ⟨_, rfl, HV.us 10 _ rfl, SrJ.ext s0 he⟩)
     have HU := Lib.hid (show (upd V 10 (wv n)) 4 = .bool true from e4)
     clear hK hC hW hL HV s0
     rw [HFR.out, e4]
     clear e4
     have HWD := Lib.hid (wd_range hB.1)
     clear hB
     refine wpList_load_wordIn rfl (.tmp 4) rfl w.heap.size 0 n rfl HWD.out ?_
     show K _ _; have := H.out _ (Ext.refl _); rw [HFR.out] at this
     obtain u4 := HU.out
     rw [u4] at this
     exact this
    ·rintro L A W K hL hC hW ⟨V, rfl, HV, s0⟩ hK
     have e4 := HV 4 _ rfl (hW 4 rfl)
     have e5 := HV 5 _ rfl (hW 5 rfl)
     have e9 := HV 9 _ rfl (hW 9 rfl)
     have e10 := HV 10 _ rfl (hW 10 rfl)
     have hB := s0
     have H := Lib.hid (show ∀ W', Ext W W' → K (fr (upd V 11 (.int .i64 r))) W' from fun W' he => hK _ _ ⟨_, rfl, HV.us 11 _ rfl, SrJ.ext s0 he⟩)
     have HU := Lib.hid (show (upd V 11 (.int .i64 r)) 4 = .bool true ∧ (upd V 11 (.int .i64 r)) 5 = .func (.func 129) #[] #[] ∧ (upd V 11 (.int .i64 r)) 9 = .agg (pkc p) ∧ (upd V 11 (.int .i64 r)) 10 = wv n from ⟨e4, e5, e9, e10⟩)
     clear hK hC hW hL HV s0
     rw [HFR.out, e4, e5, e9, e10]
     clear e4 e5 e9 e10
     clear hB
     go_wp2_with fail
     refine (slot1_any p n _ HP1.out hn).mono ?_
     rintro e wx ⟨rfl, he⟩
     rw [HRR.out]
     have := H.out _ he
     clear H
     go_wp2_with fail
     show K _ _
     rw [HFR.out] at this
     obtain ⟨u4, u5, u9, u10⟩ := HU.out
     rw [u4, u5, u9, u10] at this
     exact this
    ·rintro L A W K hL hC hW ⟨V, rfl, HV, s0⟩ hK
     have e4 := HV 4 _ rfl (hW 4 rfl)
     have e11 := HV 11 _ rfl (hW 11 rfl)
     have H := Lib.hid (show ∀ W', Ext W W' → K (fr (upd V 12 (.bool rb))) W' from fun W' he => hK _ _ ⟨_, rfl, HV.us 12 _ rfl, SrJ.ext s0 he⟩)
     have HU := Lib.hid (show (upd V 12 (.bool rb)) 4 = .bool true ∧ (upd V 12 (.bool rb)) 11 = .int .i64 r from ⟨e4, e11⟩)
     clear hK hC hW hL HV s0
     rw [HFR.out, e4, e11]
     clear e4 e11
     go_wp2_with fail
     show K _ _; have := H.out _ (Ext.refl _); rw [HFR.out] at this
     obtain ⟨u4, u11⟩ := HU.out
     rw [u4, u11] at this
     exact this
    ·rintro L A W K hL hC hW ⟨V, rfl, HV, s0⟩ hK
     have e4 := HV 4 _ rfl (hW 4 rfl)
     have e12 := HV 12 _ rfl (hW 12 rfl)
     have H := Lib.hid (show ∀ W', Ext W W' → K (fr (upd V 13 (.bool rb))) W' from fun W' he => hK _ _ ⟨_, rfl, HV.us 13 _ rfl, SrJ.ext s0 he⟩)
     have HU := Lib.hid (show (upd V 13 (.bool rb)) 4 = .bool true ∧ (upd V 13 (.bool rb)) 12 = .bool rb from ⟨e4, e12⟩)
     clear hK hC hW hL HV s0
     rw [HFR.out, e4, e12]
     clear e4 e12
     go_wp2_with fail
     show K _ _; have := H.out _ (Ext.refl _); rw [HFR.out] at this
     obtain ⟨u4, u12⟩ := HU.out
     rw [u4, u12] at this
     exact this
    ·rintro L A W K hL hC hW ⟨V, rfl, HV, s0⟩ hK
     have e0 := HV 0 _ rfl (hW 0 rfl)
     have H := Lib.hid (show ∀ W', Ext W W' → K (fr (upd V 14 (.int .i64 (i : Nat)))) W' from fun W' he => hK _ _ ⟨_, rfl, HV.us 14 _ rfl, SrJ.ext s0 he⟩)
     have HU := Lib.hid (show (upd V 14 (.int .i64 (i : Nat))) 0 = .int .i64 (i : Nat) from e0)
     clear hK hC hW hL HV s0
     rw [HFR.out, e0]
     clear e0
     go_wp2_with fail
     show K _ _; have := H.out _ (Ext.refl _); rw [HFR.out] at this
     obtain u0 := HU.out
     rw [u0] at this
     exact this
    ·rintro L A W K hL hC hW ⟨V, rfl, HV, s0⟩ hK
     have e13 := HV 13 _ rfl (hW 13 rfl)
     have H := Lib.hid (show ∀ W', Ext W W' → K (fr (upd V 15 (.bool rb))) W' from fun W' he => hK _ _ ⟨_, rfl, HV.us 15 _ rfl, SrJ.ext s0 he⟩)
     have HU := Lib.hid (show (upd V 15 (.bool rb)) 13 = .bool rb from e13)
     clear hK hC hW hL HV s0
     rw [HFR.out, e13]
     clear e13
     go_wp2_with fail
     show K _ _; have := H.out _ (Ext.refl _); rw [HFR.out] at this
     obtain u13 := HU.out
     rw [u13] at this
     exact this
    ·rintro L A W hL ⟨V, rfl, HV, s0⟩
     have e0 := HV 0 _ rfl (hL 0 (by simp))
     have e1 := HV 1 _ rfl (hL 1 (by simp))
     have e2 := HV 2 _ rfl (hL 2 (by simp))
     have e3 := HV 3 _ rfl (hL 3 (by simp))
     have e4 := HV 4 _ rfl (hL 4 (by simp))
     have e5 := HV 5 _ rfl (hL 5 (by simp))
     have e6 := HV 6 _ rfl (hL 6 (by simp))
     have e7 := HV 7 _ rfl (hL 7 (by simp))
     have e8 := HV 8 _ rfl (hL 8 (by simp))
     have e9 := HV 9 _ rfl (hL 9 (by simp))
     have e10 := HV 10 _ rfl (hL 10 (by simp))
     have e11 := HV 11 _ rfl (hL 11 (by simp))
     have e12 := HV 12 _ rfl (hL 12 (by simp))
     have e13 := HV 13 _ rfl (hL 13 (by simp))
     have e14 := HV 14 _ rfl (hL 14 (by simp))
     have e15 := HV 15 _ rfl (hL 15 (by simp))
     have hA := s0
     rw [HFR.out, e0, e1, e2, e3, e4, e5, e6, e7, e8, e9, e10, e11, e12, e13, e14, e15]
     clear hL HV HFR e0 e1 e2 e3 e4 e5 e6 e7 e8 e9 e10 e11 e12 e13 e14 e15 s0
     have HJA := Lib.hid hA.2
     clear hA hrb
     go_wp2_with fail
     refine bodyPost_ret (results_tmp2 rfl _ _ _) rfl ?_
     exact ⟨by rw [HI.out, HF.out]; rfl, HJA.out⟩
   ·have hd3 : decide (posK l n < l.length) = false := decide_eq_false hil
    have hd4 : decide ((posK l n : Int) < (l.length : Int)) = false := decide_eq_false (by omega)
    have HF := Lib.hid (show hasK l n = false by rw [HHK.out, hd3]; rfl)
    clear HPL HIP HHK
    go_upto_region 8 with fail
    refine wp_named fun a0 ha0 => ?_
    obtain ⟨fr, hfr⟩ : ∃ fr : (Nat → Value) → Act, ∀ V, fr V = ((((((((((((((((a0.put (some 35) (V 0)).put (some 36) (V 1)).put (some 37) (V 2)).put (some 38) (V 3)).put (some 39) (V 4)).put (some 40) (V 5)).put (some 41) (V 6)).put (some 42) (V 7)).put (some 43) (V 8)).put (some 44) (V 9)).put (some 45) (V 10)).put (some 46) (V 11)).put (some 47) (V 12)).put (some 48) (V 13)).put (some 6) (V 14)).put (some 7) (V 15)) := ⟨_, fun _ => rfl⟩
    rw [ha0] at hfr
    simp only [Act.put, List.setIfInBounds_toArray, List.set_cons_zero, List.set_cons_succ] at hfr
    have HFR := Lib.hid hfr
    clear hfr
    refine wp_region_inv (by kernel_rfl) (by kernel_rfl) (fun L A W => ∃ V : Nat → Value, A = fr V ∧ Vals (fun j => ([some (.int .i64 (posK l n : Nat)), some (.int .i64 (posK l n : Nat)), some (.int .i64 (l.length : Nat)), some (.bool false), some (.bool false), some (undef), some (undef), some (undef), some (undef), some (undef), some (undef), some (undef), some (undef), some (.bool false), some (.int .i64 (posK l n : Nat)), some (.bool false)] : List (Option Value)).getD j none) L V ∧ (SrJ w w.heap.size n W)) ?_ ⟨?_, ?_, ?_, ?_, ?_, ?_, ?_, ?_, ?_, ?_, ?_, ?_, ?_, ?_, ?_, ?_, trivial⟩ ?_
    ·refine ⟨fun j => a0.tmps.getD (([35, 36, 37, 38, 39, 40, 41, 42, 43, 44, 45, 46, 47, 48, 6, 7] : List Nat).getD j 0) undef, ?_, Vals.no _ _ _ (far_none _ _ rfl), HJ.out.ext (Ext.refl _).drew⟩
     rw [HFR.out, ha0]
     rfl
    all_goals clear ha0
    ·rintro L A W K hL hC hW ⟨V, rfl, HV, s0⟩ hK
     have H := Lib.hid (show ∀ W', Ext W W' → K (fr (upd V 0 (.int .i64 (posK l n : Nat)))) W' from fun W' he => hK _ _ ⟨_, rfl, HV.us 0 _ rfl, SrJ.ext s0 he⟩)
     clear hK hC hW hL HV s0
     rw [HFR.out]
     go_wp2_with fail
     show K _ _; have := H.out _ (Ext.refl _); rw [HFR.out] at this
     exact this
    ·rintro L A W K hL hC hW ⟨V, rfl, HV, s0⟩ hK
     have H := Lib.hid (show ∀ W', Ext W W' → K (fr (upd V 1 (.int .i64 (posK l n : Nat)))) W' from fun W' he => hK _ _ ⟨_, rfl, HV.us 1 _ rfl, SrJ.ext s0 he⟩)
     clear hK hC hW hL HV s0
     rw [HFR.out]
     go_wp2_with fail
     show K _ _; have := H.out _ (Ext.refl _); rw [HFR.out] at this
     exact this
    ·rintro L A W K hL hC hW ⟨V, rfl, HV, s0⟩ hK
     have H := Lib.hid (show ∀ W', Ext W W' → K (fr (upd V 2 (.int .i64 (l.length : Nat)))) W' from fun W' he => hK _ _ ⟨_, rfl, HV.us 2 _ rfl, SrJ.ext s0 he⟩)
     clear hK hC hW hL HV s0
     rw [HFR.out]
     go_wp2_with fail
     show K _ _; have := H.out _ (Ext.refl _); rw [HFR.out] at this
     exact this
    ·rintro L A W K hL hC hW ⟨V, rfl, HV, s0⟩ hK
     have e1 := HV 1 _ rfl (hW 1 rfl)
     have e2 := HV 2 _ rfl (hW 2 rfl)
     have H := Lib.hid (show ∀ W', Ext W W' → K (fr (upd V 3 (.bool false))) W' from fun W' he => hK _ _ ⟨_, rfl, HV.us 3 _ rfl, SrJ.ext s0 he⟩)
     have HU := Lib.hid (show (upd V 3 (.bool false)) 1 = .int .i64 (posK l n : Nat) ∧ (upd V 3 (.bool false)) 2 = .int .i64 (l.length : Nat) from ⟨e1, e2⟩)
     clear hK hC hW hL HV s0
     rw [HFR.out, e1, e2]
     clear e1 e2
     go_wp2_with fail
     show K _ _; have := H.out _ (Ext.refl _); rw [HFR.out] at this
     obtain ⟨u1, u2⟩ := HU.out
     rw [u1, u2] at this
     exact this
    ·rintro L A W K hL hC hW ⟨V, rfl, HV, s0⟩ hK
     have e3 := HV 3 _ rfl (hW 3 rfl)
     have H := Lib.hid (show ∀ W', Ext W W' → K (fr (upd V 4 (.bool false))) W' from fun W' he => hK _ _ ⟨_, rfl, HV.us 4 _ rfl, SrJ.ext s0 he⟩)
     have HU := Lib.hid (show (upd V 4 (.bool false)) 3 = .bool false from e3)
     clear hK hC hW hL HV s0
     rw [HFR.out, e3]
     clear e3
     go_wp2_with fail
     show K _ _; have := H.out _ (Ext.refl _); rw [HFR.out] at this
     obtain u3 := HU.out
     rw [u3] at this
     exact this
    ·rintro L A W K hL hC hW ⟨V, rfl, HV, s0⟩ hK
     have e4 := HV 4 _ rfl (hW 4 rfl)
     have H := Lib.hid (show ∀ W', Ext W W' → K (fr (upd V 5 (undef))) W' from fun W' he => hK _ _ ⟨_, rfl, HV.us 5 _ rfl, SrJ.ext s0 he⟩)
     have HU := Lib.hid (show (upd V 5 (undef)) 4 = .bool false from e4)
     clear hK hC hW hL HV s0
     rw [HFR.out, e4]
     clear e4
     go_wp2_with fail
     show K _ _; have := H.out _ (Ext.refl _); rw [HFR.out] at this
     obtain u4 := HU.out
     rw [u4] at this
     exact this
    ·rintro L A W K hL hC hW ⟨V, rfl, HV, s0⟩ hK
     have e4 := HV 4 _ rfl (hW 4 rfl)
     have H := Lib.hid (show ∀ W', Ext W W' → K (fr (upd V 6 (undef))) W' from fun W' he => hK _ _ ⟨_, rfl, HV.us 6 _ rfl, SrJ.ext s0 he⟩)
     have HU := Lib.hid (show (upd V 6 (undef)) 4 = .bool false from e4)
     clear hK hC hW hL HV s0
     rw [HFR.out, e4]
     clear e4
     go_wp2_with fail
     show K _ _; have := H.out _ (Ext.refl _); rw [HFR.out] at this
     obtain u4 := HU.out
     rw [u4] at this
     exact this
    ·rintro L A W K hL hC hW ⟨V, rfl, HV, s0⟩ hK
     have e4 := HV 4 _ rfl (hW 4 rfl)
     have H := Lib.hid (show ∀ W', Ext W W' → K (fr (upd V 7 (undef))) W' from fun W' he => hK _ _ ⟨_, rfl, HV.us 7 _ rfl, SrJ.ext s0 he⟩)
     have HU := Lib.hid (show (upd V 7 (undef)) 4 = .bool false from e4)
     clear hK hC hW hL HV s0
     rw [HFR.out, e4]
     clear e4
     go_wp2_with fail
     show K _ _; have := H.out _ (Ext.refl _); rw [HFR.out] at this
     obtain u4 := HU.out
     rw [u4] at this
     exact this
    ·rintro L A W K hL hC hW ⟨V, rfl, HV, s0⟩ hK
     have e4 := HV 4 _ rfl (hW 4 rfl)
     have e6 := HV 6 _ rfl (hW 6 rfl)
     have e7 := HV 7 _ rfl (hW 7 rfl)
     have H := Lib.hid (show ∀ W', Ext W W' → K (fr (upd V 8 (undef))) W' from fun W' he => hK _ _ ⟨_, rfl, HV.us 8 _ rfl, SrJ.ext s0 he⟩)
     have HU := Lib.hid (show (upd V 8 (undef)) 4 = .bool false ∧ (upd V 8 (undef)) 6 = undef ∧ (upd V 8 (undef)) 7 = undef from ⟨e4, e6, e7⟩)
     clear hK hC hW hL HV s0
     rw [HFR.out, e4, e6, e7]
     clear e4 e6 e7
     go_wp2_with fail
     show K _ _; have := H.out _ (Ext.refl _); rw [HFR.out] at this
     obtain ⟨u4, u6, u7⟩ := HU.out
     rw [u4, u6, u7] at this
     exact this
    ·rintro L A W K hL hC hW ⟨V, rfl, HV, s0⟩ hK
     have e4 := HV 4 _ rfl (hW 4 rfl)
     have e8 := HV 8 _ rfl (hW 8 rfl)
     have H := Lib.hid (show ∀ W', Ext W W' → K (fr (upd V 9 (undef))) W' from fun W' he => hK _ _ ⟨_, rfl, HV.us 9 _ rfl, SrJ.ext s0 he⟩)
     have HU := Lib.hid (show (upd V 9 (undef)) 4 = .bool false ∧ (upd V 9 (undef)) 8 = undef from ⟨e4, e8⟩)
     clear hK hC hW hL HV s0
     rw [HFR.out, e4, e8]
     clear e4 e8
     go_wp2_with fail
     show K _ _; have := H.out _ (Ext.refl _); rw [HFR.out] at this
     obtain ⟨u4, u8⟩ := HU.out
     rw [u4, u8] at this
     exact this
    ·rintro L A W K hL hC hW ⟨V, rfl, HV, s0⟩ hK
     have e4 := HV 4 _ rfl (hW 4 rfl)
     have H := Lib.hid (show ∀ W', Ext W W' → K (fr (upd V 10 (undef))) W' from fun W' he => hK _ _ ⟨_, rfl, HV.us 10 _ rfl, SrJ.ext s0 he⟩)
     have HU := Lib.hid (show (upd V 10 (undef)) 4 = .bool false from e4)
     clear hK hC hW hL HV s0
     rw [HFR.out, e4]
     clear e4
     go_wp2_with fail
     show K _ _; have := H.out _ (Ext.refl _); rw [HFR.out] at this
     obtain u4 := HU.out
     rw [u4] at this
     exact this
    ·rintro L A W K hL hC hW ⟨V, rfl, HV, s0⟩ hK
     have e4 := HV 4 _ rfl (hW 4 rfl)
     have e5 := HV 5 _ rfl (hW 5 rfl)
     have e9 := HV 9 _ rfl (hW 9 rfl)
     have e10 := HV 10 _ rfl (hW 10 rfl)
     have H := Lib.hid (show ∀ W', Ext W W' → K (fr (upd V 11 (undef))) W' from fun W' he => hK _ _ ⟨_, rfl, HV.us 11 _ rfl, SrJ.ext s0 he⟩)
     have HU := Lib.hid (show (upd V 11 (undef)) 4 = .bool false ∧ (upd V 11 (undef)) 5 = undef ∧ (upd V 11 (undef)) 9 = undef ∧ (upd V 11 (undef)) 10 = undef from ⟨e4, e5, e9, e10⟩)
     clear hK hC hW hL HV s0
     rw [HFR.out, e4, e5, e9, e10]
     clear e4 e5 e9 e10
     go_wp2_with fail
     show K _ _; have := H.out _ (Ext.refl _); rw [HFR.out] at this
     obtain ⟨u4, u5, u9, u10⟩ := HU.out
     rw [u4, u5, u9, u10] at this
     exact this
    ·rintro L A W K hL hC hW ⟨V, rfl, HV, s0⟩ hK
     have e4 := HV 4 _ rfl (hW 4 rfl)
     have e11 := HV 11 _ rfl (hW 11 rfl)
     have H := Lib.hid (show ∀ W', Ext W W' → K (fr (upd V 12 (undef))) W' from fun W' he => hK _ _ ⟨_, rfl, HV.us 12 _ rfl, SrJ.ext s0 he⟩)
     have HU := Lib.hid (show (upd V 12 (undef)) 4 = .bool false ∧ (upd V 12 (undef)) 11 = undef from ⟨e4, e11⟩)
     clear hK hC hW hL HV s0
     rw [HFR.out, e4, e11]
     clear e4 e11
     go_wp2_with fail
     show K _ _; have := H.out _ (Ext.refl _); rw [HFR.out] at this
     obtain ⟨u4, u11⟩ := HU.out
     rw [u4, u11] at this
     exact this
    ·rintro L A W K hL hC hW ⟨V, rfl, HV, s0⟩ hK
     have e4 := HV 4 _ rfl (hW 4 rfl)
     have e12 := HV 12 _ rfl (hW 12 rfl)
     have H := Lib.hid (show ∀ W', Ext W W' → K (fr (upd V 13 (.bool false))) W' from fun W' he => hK _ _ ⟨_, rfl, HV.us 13 _ rfl, SrJ.ext s0 he⟩)
     have HU := Lib.hid (show (upd V 13 (.bool false)) 4 = .bool false ∧ (upd V 13 (.bool false)) 12 = undef from ⟨e4, e12⟩)
     clear hK hC hW hL HV s0
     rw [HFR.out, e4, e12]
     clear e4 e12
     go_wp2_with fail
     show K _ _; have := H.out _ (Ext.refl _); rw [HFR.out] at this
     obtain ⟨u4, u12⟩ := HU.out
     rw [u4, u12] at this
     exact this
    ·rintro L A W K hL hC hW ⟨V, rfl, HV, s0⟩ hK
     have e0 := HV 0 _ rfl (hW 0 rfl)
     have H := Lib.hid (show ∀ W', Ext W W' → K (fr (upd V 14 (.int .i64 (posK l n : Nat)))) W' from fun W' he => hK _ _ ⟨_, rfl, HV.us 14 _ rfl, SrJ.ext s0 he⟩)
     have HU := Lib.hid (show (upd V 14 (.int .i64 (posK l n : Nat))) 0 = .int .i64 (posK l n : Nat) from e0)
     clear hK hC hW hL HV s0
     rw [HFR.out, e0]
     clear e0
     go_wp2_with fail
     show K _ _; have := H.out _ (Ext.refl _); rw [HFR.out] at this
     obtain u0 := HU.out
     rw [u0] at this
     exact this
    ·rintro L A W K hL hC hW ⟨V, rfl, HV, s0⟩ hK
     have e13 := HV 13 _ rfl (hW 13 rfl)
     have H := Lib.hid (show ∀ W', Ext W W' → K (fr (upd V 15 (.bool false))) W' from fun W' he => hK _ _ ⟨_, rfl, HV.us 15 _ rfl, SrJ.ext s0 he⟩)
     have HU := Lib.hid (show (upd V 15 (.bool false)) 13 = .bool false from e13)
     clear hK hC hW hL HV s0
     rw [HFR.out, e13]
     clear e13
     go_wp2_with fail
     show K _ _; have := H.out _ (Ext.refl _); rw [HFR.out] at this
     obtain u13 := HU.out
     rw [u13] at this
     exact this
    ·rintro L A W hL ⟨V, rfl, HV, s0⟩
     have e0 := HV 0 _ rfl (hL 0 (by simp))
     have e1 := HV 1 _ rfl (hL 1 (by simp))
     have e2 := HV 2 _ rfl (hL 2 (by simp))
     have e3 := HV 3 _ rfl (hL 3 (by simp))
     have e4 := HV 4 _ rfl (hL 4 (by simp))
     have e5 := HV 5 _ rfl (hL 5 (by simp))
     have e6 := HV 6 _ rfl (hL 6 (by simp))
     have e7 := HV 7 _ rfl (hL 7 (by simp))
     have e8 := HV 8 _ rfl (hL 8 (by simp))
     have e9 := HV 9 _ rfl (hL 9 (by simp))
     have e10 := HV 10 _ rfl (hL 10 (by simp))
     have e11 := HV 11 _ rfl (hL 11 (by simp))
     have e12 := HV 12 _ rfl (hL 12 (by simp))
     have e13 := HV 13 _ rfl (hL 13 (by simp))
     have e14 := HV 14 _ rfl (hL 14 (by simp))
     have e15 := HV 15 _ rfl (hL 15 (by simp))
     have hA := s0
     rw [HFR.out, e0, e1, e2, e3, e4, e5, e6, e7, e8, e9, e10, e11, e12, e13, e14, e15]
     clear hL HV HFR e0 e1 e2 e3 e4 e5 e6 e7 e8 e9 e10 e11 e12 e13 e14 e15 s0
     have HJA := Lib.hid hA.2
     clear hA
     go_wp2_with fail
     refine bodyPost_ret (results_tmp2 rfl _ _ _) rfl ?_
     exact ⟨by rw [HF.out]; rfl, HJA.out⟩
set_option maxRecDepth 100000 in
set_option maxHeartbeats 1000000 in
theorem slot_any (sv : Value) (l : List (Nat × Nat)) (n : Nat) (w : World) (hs : Pks w sv l) (hr : RiseK l) (hl : l.length ≤ 100000) (hn : n < M256) :
  Calls Try.prog 86 #[sv, wv n] w fun e w' => e = .returned (.tuple #[.int .i64 (posK l n : Nat), .bool (hasK l n)]) ∧ Ext w w' := by
 have HS := Lib.hid hs
 have HR := Lib.hid hr
 obtain ⟨A1, c, rfl, h1, h2⟩ := hs.len
 have HW : Hid (Wd (w.alloc (.cells (wc n) 31)) w.heap.size 31 n) := Lib.hid (Cs.new _ _ _ _ rfl)
 have HE := Lib.hid ((Ext.refl w).alloc (.cells (wc n) 31))
 clear hs hr
 unfold wv
 go_enter Try.func86, Try.ntmps86
 go_wp2_with ((with_reducible refine wpList_load_word ?_ 31 28 (.tmp 3) ?_ Try.underlying31 winfo w.heap.size n ?_ ?_ ?_); (exact rfl); (exact rfl); (exact rfl); (exact HW.out))
 refine (search_any _ l n _ (HS.out.ext HE.out) HR.out hl hn).mono ?_
 rintro e w2 ⟨rfl, he⟩
 have HE2 := Lib.hid (HE.out.trans he)
 clear he
 obtain ⟨i, hi⟩ : ∃ i, posK l n = i := ⟨_, rfl⟩
 obtain ⟨b, hb⟩ : ∃ b, hasK l n = b := ⟨_, rfl⟩
 have HI := Lib.hid hi
 have HB := Lib.hid hb
 rw [hi, hb]
 clear hi hb
 go_wp2_with fail
 refine bodyPost_ret (results_tmp2 rfl _ _ _) rfl ?_
 exact ⟨by rw [HI.out, HB.out]; rfl, HE2.out⟩
end Go.Proofs.Ytiojfpdjnblkhaa
