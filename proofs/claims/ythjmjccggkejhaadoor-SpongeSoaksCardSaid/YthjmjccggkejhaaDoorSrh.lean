/- The document's Pad. -/
import Derived.Test.YthjmjccggkejhaaDoorSpy
import Derived.Test.YthjmjccggkejhaaDoorLbe
import Derived.Test.YthjmjccggkejhaaDoorMga
namespace Go.Proofs.YthjmjccggkejhaaDoor
open Go.RowKit Go.Shelf

set_option maxRecDepth 100000 in
theorem Bs.one1 (w : World) (t : TypeId) (v : Value) (c : UInt8) (h : v = bv c) : Bs (w.alloc (.cells #[v] t)) (.slice (some ⟨w.heap.size, 0, none⟩) 1 1) [c] := by
  subst h
  refine ⟨_, 1, rfl, Nat.le_refl _, by decide, fun _ => ⟨_, 0, rfl, fun i hi => ?_⟩⟩
  obtain rfl : i = 0 := by simp at hi; omega
  exact Row.cell (l := [c]) (heap_alloc_new _ _) 0 (by simp)
/-- How long a slice is. -/
def slLen : Value → Nat
  | .slice _ n _ => n
  | _ => 0
set_option maxRecDepth 100000 in
theorem slLen_slice (A : Option Addr) (n c : Nat) : slLen (.slice A n c) = n := rfl
/-- Bytes, a 1, and k noughts. -/
def zp (b : List UInt8) (k : Nat) : List UInt8 := b ++ 1 :: List.replicate k 0
set_option maxRecDepth 100000 in
theorem zp_len (b : List UInt8) (k : Nat) : (zp b k).length = b.length + 1 + k := by simp [zp]; omega
set_option maxRecDepth 100000 in
theorem zp_next (b : List UInt8) (k : Nat) : zp b k ++ [0] = zp b (k + 1) := by simp [zp, List.replicate_succ']
set_option maxRecDepth 100000 in
theorem zp_get (b : List UInt8) (k i : Nat) : (zp b k).getD i 0 = if i < b.length then b.getD i 0 else if i = b.length then 1 else 0 := by
  unfold zp
  rw [getD_append_if]
  split
  · rfl
  · by_cases h : i = b.length
    · subst h
      simp
    · rw [if_neg h]
      obtain ⟨j, rfl⟩ : ∃ j, i = b.length + (j + 1) := ⟨i - b.length - 1, by omega⟩
      rw [Nat.add_sub_cancel_left, List.getD_cons_succ, getD_zeros]
set_option maxRecDepth 100000 in
theorem padN_of (b : List UInt8) (m : Nat) (h1 : b.length < m) (h2 : m ≤ padN b) (h3 : m % 136 = 0) : m = padN b := by
  unfold padN at *
  omega
set_option maxRecDepth 100000 in
theorem pad_done (b : List UInt8) (k q : Nat) (hk : b.length + 1 + k = q + 1) (hq : q + 1 = padN b) : (zp b k).set q (if k = 0 then 129 else 128) = padL b := by
  apply ext_getD
  · rw [List.length_set, zp_len, padL_len]
    omega
  · intro i hi
    rw [List.length_set, zp_len] at hi
    rw [getD_set_if _ _ _ _ (by rw [zp_len]; omega), padL_get b i (by omega), zp_get]
    by_cases hiq : q = i
    · subst hiq
      by_cases h0 : k = 0
      · rw [if_pos rfl, if_pos h0, if_pos (show q = padN b - 1 by omega), if_pos (show b.length = padN b - 1 by omega)]
      · rw [if_pos rfl, if_neg h0, if_pos (show q = padN b - 1 by omega), if_neg (show ¬ b.length = padN b - 1 by omega)]
    · rw [if_neg hiq, if_neg (show ¬ i = padN b - 1 by omega)]
      by_cases h1 : i < b.length
      · rw [if_pos h1, if_neg (show ¬ i = b.length by omega)]
      · rw [if_neg h1]
        by_cases h2 : i = b.length
        · rw [if_pos h2, if_pos h2]
        · rw [if_neg h2, if_neg h2, getD_past _ _ (by omega)]

set_option maxRecDepth 100000 in
set_option maxHeartbeats 1000000 in
theorem refPad_any (v : Value) (b : List UInt8) (w : World) (hb : Bs w v b) (hl : b.length ≤ 1000000000) : Calls Tryd.prog 17 #[v] w (RetP w (padL b)) := by
  have HB := Lib.hid hb
  obtain ⟨A, c, rfl, _, _, _⟩ := hb
  have hN : padN b ≤ 1000000136 := by unfold padN; omega
  have hgt := padN_gt b
  go_enter Tryd.func17, Tryd.ntmps17
  go_upto_region 2 with (at_builtin; go_loud (refine wpList_append_bytes rfl (.tmp 4) (.tmp 5) _ rfl w.heap.size 5 Tryd.underlying24 u8info _ [] rfl (own_made w w.heap.size 5 (Nat.le_refl _)) _ b rfl (HB.out.ext ((Ext.refl w).alloc _)) (by simp; omega) (by simp) ?_); intro v2 w2 ho hg _; have HO2 : Hid (Own w2 w.heap.size 5 v2 b) := Lib.hid (by simpa using ho); have HE2 := Lib.hid (((Ext.refl w).alloc _).grown hg (Nat.le_refl _)); clear ho hg)
  go_upto_region 3 with (at_builtin; go_loud (refine wpList_append_bytes rfl (.tmp 7) (.tmp 8) _ rfl w.heap.size 5 Tryd.underlying24 u8info v2 b rfl (World.ownsRow.alloc HO2.out _) _ [1] rfl (Bs.one1 _ _ _ 1 rfl) (by simp; omega) (by have := HE2.out.size; simp; omega) ?_); intro v3 w3 ho hg _; have HO3 : Hid (Own w3 w.heap.size 5 v3 (zp b 0)) := Lib.hid ho; have HE3 := Lib.hid (Ext.append (HE2.out.alloc _) (World.ownsRow.alloc HO2.out _) hg); clear ho hg)
  clear HO2 HE2
  go_loopw [3, 10, 11, 12, 13, 14, 15, 16] (fun o _ _ _ _ _ _ _ wr => ∃ k : Nat, b.length + 1 + k ≤ padN b ∧ Hid (Own wr w.heap.size 5 o (zp b k)) ∧ Hid (Ext w wr)) (fun o _ _ _ _ _ _ _ _ => padN b - slLen o)
  case atStart => exact ⟨0, by omega, HO3, HE3⟩
  case round =>
    clear HO3 HE3
    obtain ⟨k, hk, HO, HE⟩ := hrel
    have hzl := zp_len b k
    obtain ⟨g, cap, rfl, hbg, hcell, hfr, hst⟩ := HO.out.form (by omega)
    obtain ⟨m, hm⟩ : ∃ m, (zp b k).length = m := ⟨_, rfl⟩
    have hmk : b.length + 1 + k = m := by omega
    have HST := Lib.hid (hst (m - 1))
    have HCL := Lib.hid (hcell (m - 1) (by omega))
    have HFR := Lib.hid (hfr (m - 1))
    rw [hm] at HO HST ⊢
    clear hcell hfr hst hzl hm
    by_cases h0 : m % 136 = 0
    · have hq : ((m : Int) % 136 == 0) = true := by simp; omega
      have hq2 : ((m : Int) % 136 != 0) = false := by simp; omega
      obtain ⟨q, rfl⟩ : ∃ q, m = q + 1 := ⟨m - 1, by omega⟩
      have HD := Lib.hid (pad_done b k q hmk (padN_of b (q + 1) (by omega) (by omega) h0))
      rw [Nat.add_sub_cancel] at HCL HFR HST
      have HZG := Lib.hid (zp_get b k q)
      have hcl := HCL.out
      have hfr := HFR.out
      unfold bv at hcl
      have i1 : (0 : Int) ≤ (q : Int) := by omega
      have i2 : (q : Int) ≤ 1000000136 := by omega
      have hq3 : (((q : Int) + 1) % 136 != 0) = false := by simp; omega
      clear hq hq2
      clear h0
      by_cases hk0 : k = 0
      · have hy : (zp b k).getD q 0 = 1 := by rw [HZG.out, if_neg (by omega), if_pos (by omega)]
        rw [hy] at hcl
        rw [show (((1 : UInt8).toNat : Nat) : Int) = 1 from rfl] at hcl
        rw [if_pos hk0] at HD
        clear hy HZG HCL HFR hk0 hk hmk hgt hN
        go_wp2_with fail
        have hfin := HST.out 129
        rw [HD.out] at hfin
        go_ret
        exact ⟨_, rfl, hfin.1, HE.out.grown hfin.2 hbg⟩
      · have hy : (zp b k).getD q 0 = 0 := by rw [HZG.out, if_neg (by omega), if_neg (by omega)]
        rw [hy] at hcl
        rw [show (((0 : UInt8).toNat : Nat) : Int) = 0 from rfl] at hcl
        rw [if_neg hk0] at HD
        clear hy HZG HCL HFR hk0 hk hmk hgt hN
        go_wp2_with fail
        have hfin := HST.out 128
        rw [HD.out] at hfin
        go_ret
        exact ⟨_, rfl, hfin.1, HE.out.grown hfin.2 hbg⟩
    · have hq : ((m : Int) % 136 == 0) = false := by simp; omega
      have hq2 : ((m : Int) % 136 != 0) = true := by simp; omega
      have HLT := Lib.hid (show m + 1 ≤ padN b from by
        have h1 : m ≠ padN b := fun e => h0 (by rw [e]; unfold padN; omega)
        omega)
      have HZL := Lib.hid (show (zp b k).length = m by rw [zp_len]; omega)
      have HNX := Lib.hid (zp_next b k)
      have HN2 := Lib.hid hN
      have HMK := Lib.hid hmk
      clear h0 HST HCL HFR hk hmk hgt hN
      go_wp2_with (at_builtin; go_loud (refine wpList_append_bytes rfl (.tmp 14) (.tmp 15) _ rfl w.heap.size 5 Tryd.underlying24 u8info _ (zp b k) rfl (World.ownsRow.alloc HO.out _) _ [0] rfl (Bs.one1 _ _ _ 0 rfl) (by rw [HZL.out]; have := HLT.out; have := HN2.out; simp; omega) (by have := HE.out.size; simp; omega) ?_); intro v3 w3 ho hg _; rw [HNX.out] at ho; have HO3 := Lib.hid ho; have HE3 := Lib.hid (Ext.append (HE.out.alloc _) (World.ownsRow.alloc HO.out _) hg); clear ho hg)
      have hl3 : slLen v3 = m + 1 := by
        obtain ⟨A', c', e, _⟩ := HO3.out.bs
        rw [e, slLen_slice, zp_len]
        have := HMK.out
        omega
      have HL3 := Lib.hid hl3
      clear hl3
      exact ⟨⟨k + 1, by have := HLT.out; have := HMK.out; omega, HO3, HE3⟩, by rw [HL3.out]; simp only [slLen_slice]; have := HLT.out; omega⟩
end Go.Proofs.YthjmjccggkejhaaDoor
