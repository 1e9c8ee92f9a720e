/- Digests as bytes and as words; bytes put together. -/
import Derived.Test.YthjmjccggkejhaaDoorSrj
import Derived.Test.YthjmjccggkejhaaDoorMga
import Derived.Test.YthjmjccggkejhaaDoorAdg
import Derived.Test.YthjmjccggkejhaaDoorRch
import Derived.Test.YthjmjccggkejhaaDoorWrp
namespace Go.Proofs.YthjmjccggkejhaaDoor
open Go.RowKit Go.Shelf

/-! ### Digests as bytes -/
/-- The bytes of a digest. -/
def idL (f : Nat → Nat) : List UInt8 := (List.range 32).map fun i => UInt8.ofNat (f i)
set_option maxRecDepth 100000 in
theorem idL_len (f : Nat → Nat) : (idL f).length = 32 := by simp [idL]
set_option maxRecDepth 100000 in
theorem idb_bs {W : World} {g : Nat} {f : Nat → Nat} (h : Ib W g f) (hf : ∀ i, i < 32 → f i < 256) : Bs W (.slice (some ⟨g, 0, none⟩) 32 32) (idL f) := by
  refine ⟨some ⟨g, 0, none⟩, 32, by rw [idL_len], by rw [idL_len]; exact Nat.le_refl _, by decide, fun _ => ⟨g, 0, rfl, fun i hi => ?_⟩⟩
  rw [idL_len] at hi
  rw [Nat.zero_add, h.cell i hi]
  have e : (idL f).getD i 0 = UInt8.ofNat (f i) := by simp [idL, hi]
  rw [e]
  unfold bv
  have := hf i hi
  rw [UInt8.toNat_ofNat', Nat.mod_eq_of_lt (by omega)]
set_option maxRecDepth 100000 in
theorem sum_byte (b : List UInt8) (i : Nat) : sumF b i < 256 := Nat.mod_lt _ (by decide)
set_option maxRecDepth 100000 in
theorem numN_lt (l : List UInt8) : numN l < 256 ^ l.length := beN_lt l
set_option maxRecDepth 100000 in
theorem num8 (l : List UInt8) (h : 8 ≤ l.length) : num (last8 (l.take 8)) = numN (l.take 8) := by
  rw [num_last8, num_eq]
  have h1 := numN_lt (l.take 8)
  rw [List.length_take, Nat.min_eq_left h] at h1
  exact Nat.mod_eq_of_lt (by omega)
set_option maxRecDepth 100000 in
theorem four_parts (l : List UInt8) (h : l.length = 32) : l = (l.drop 0).take 8 ++ ((l.drop 8).take 8 ++ ((l.drop 16).take 8 ++ (l.drop 24).take 8)) := by
  have h1 : (l.drop 24).take 8 = l.drop 24 := List.take_of_length_le (by rw [List.length_drop]; omega)
  have h2 : (l.drop 16).take 8 ++ l.drop 24 = l.drop 16 := by rw [show l.drop 24 = (l.drop 16).drop 8 by rw [List.drop_drop], List.take_append_drop]
  have h3 : (l.drop 8).take 8 ++ l.drop 16 = l.drop 8 := by rw [show l.drop 16 = (l.drop 8).drop 8 by rw [List.drop_drop], List.take_append_drop]
  rw [h1, h2, h3, List.drop_zero, List.take_append_drop]
set_option maxRecDepth 100000 in
theorem dg_limb (l : List UInt8) (h : l.length = 32) (i : Nat) (hi : i < 4) : numN ((l.drop (8 * i)).take 8) = lb (beN l) (3 - i) := by
  have hl : ∀ k, k ≤ 24 → ((l.drop k).take 8).length = 8 := fun k hk => by rw [List.length_take, List.length_drop]; omega
  have e : beN l = numN l := rfl
  rw [e, four_parts l h, numN_append, numN_append, numN_append]
  simp only [List.length_append, hl 8 (by decide), hl 16 (by decide), hl 24 (by decide)]
  have h0 := numN_lt ((l.drop 0).take 8)
  have h1 := numN_lt ((l.drop 8).take 8)
  have h2 := numN_lt ((l.drop 16).take 8)
  have h3 := numN_lt ((l.drop 24).take 8)
  rw [hl 0 (by decide)] at h0
  rw [hl 8 (by decide)] at h1
  rw [hl 16 (by decide)] at h2
  rw [hl 24 (by decide)] at h3
  rw [← four_parts l h]
  match i, hi with
  | 0, _ => rw [lb3]; show numN ((l.drop 0).take 8) = _; omega
  | 1, _ => rw [lb2]; show numN ((l.drop 8).take 8) = _; omega
  | 2, _ => rw [lb1]; show numN ((l.drop 16).take 8) = _; omega
  | 3, _ => rw [lb0]; show numN ((l.drop 24).take 8) = _; omega
set_option maxRecDepth 100000 in
theorem beN32 (l : List UInt8) (h : l.length = 32) : beN l < M256 := by
  have := beN_lt l
  rw [h] at this
  unfold M256
  omega

/-! ### Parts put together -/
set_option maxRecDepth 100000 in
theorem flat_next (ls : List (List UInt8)) (k : Nat) (hk : k < ls.length) : (ls.take (k + 1)).flatten = (ls.take k).flatten ++ ls.getD k [] := by
  rw [List.take_succ_eq_append_getElem hk, List.flatten_append]
  simp [List.getD, hk]
set_option maxRecDepth 100000 in
theorem flat_le (ls : List (List UInt8)) (k : Nat) : (ls.take k).flatten.length ≤ ls.flatten.length := by
  have := congrArg List.length (congrArg List.flatten (List.take_append_drop k ls))
  rw [List.flatten_append, List.length_append] at this
  omega
set_option maxRecDepth 100000 in
theorem Bss.ext4 {W W' : World} {v : Value} {l : List (List UInt8)} (h : Bss W v l) (he : Ext W W') : Bss W' v l :=
  Sl.mono h (fun _ _ hc => he.cell hc) fun _ _ ⟨u, e, hb⟩ => ⟨u, e, hb.ext he⟩
set_option maxRecDepth 100000 in
set_option maxHeartbeats 1000000 in
theorem joined_any (v : Value) (ls : List (List UInt8)) (w : World) (hv : Bss w v ls) (hl : ls.flatten.length ≤ 1000000000) : Calls Tryd.prog 59 #[v] w (RetB w ls.flatten) := by
  have HV := Lib.hid hv
  have HL := Lib.hid hl
  obtain ⟨A, c, rfl, h1, h2⟩ := hv.len
  unfold maxLen at h2
  clear hv hl
  go_enter Tryd.func59, Tryd.ntmps59
  go_wp2_with fail
  go_loopw [3, 4, 7, 8, 9, 10, 11, 12, 13, 14, 15, 16] (fun o _ u _ _ _ _ _ _ _ _ _ wr => ∃ k : Nat, k ≤ ls.length ∧ u = .int .i64 k ∧ Hid (Own wr w.heap.size 5 o ((ls.take k).flatten)) ∧ Hid (Ext w wr)) (fun _ _ u _ _ _ _ _ _ _ _ _ _ => ls.length - (intOf u).toNat)
  case atStart => exact ⟨0, by omega, rfl, Lib.hid (own_nil _ _ _), Lib.hid (Ext.refl w)⟩
  case round =>
    obtain ⟨k, hk, rfl, HO, HE⟩ := hrel
    by_cases hlt : k < ls.length
    · have hdk : decide (k < ls.length) = true := decide_eq_true hlt
      obtain ⟨b, o, u, rfl, hc, hu⟩ := (HV.out.ext4 HE.out).at k hlt
      have HU := Lib.hid hu
      have HFN := Lib.hid (flat_next ls k hlt)
      have HFL := Lib.hid (flat_le ls (k + 1))
      generalize ls.getD k [] = x at *
      clear hu
      go_wp2_with (at_builtin; go_loud (refine wpList_append_bytes rfl (.tmp 10) (.tmp 14) _ rfl w.heap.size 5 Tryd.underlying24 u8info _ _ rfl HO.out u x rfl HU.out (by have := HFL.out; rw [HFN.out, List.length_append] at this; have := HL.out; omega) HE.out.size ?_); intro v3 w3 ho hg _; rw [← HFN.out] at ho; have HO3 := Lib.hid ho; have HE3 := Lib.hid (Ext.append HE.out HO.out hg); clear ho hg)
      exact ⟨⟨k + 1, by omega, by go_num, HO3, HE3⟩, by simp [intOf]; omega⟩
    · obtain rfl : k = ls.length := by omega
      have HO2 := Lib.hid (show Own wr w.heap.size 5 _ ls.flatten by have := HO.out; rwa [List.take_length] at this)
      go_wp2_with fail
      go_ret
      exact ⟨_, rfl, HO2.out, HE.out⟩

/-! ### Digests as words -/
/-- The word of a digest. -/
def dgW (b : List UInt8) : Nat := beN (idL (sumF b))
set_option maxRecDepth 100000 in
theorem dgW_lt (b : List UInt8) : dgW b < M256 := beN32 _ (idL_len _)
set_option maxRecDepth 100000 in
theorem rd_dg (b : List UInt8) : readV (idL (sumF b)) = .tuple #[wv (dgW b), .int .i64 0] := by unfold readV; rw [if_pos (by rw [idL_len]; decide)]; rfl

set_option maxRecDepth 100000 in
set_option maxHeartbeats 1000000 in
theorem adrDigest_any (v : Value) (b : List UInt8) (w : World) (hb : Bs w v b) (hl : b.length ≤ 1000000000) (ht : Tb w) : Calls Tryd.prog 43 #[v] w fun e w' => e = .returned (wv (dgW b)) ∧ Ext w w' := by
  have HB := Lib.hid hb
  have HT := Lib.hid ht
  have HRD := Lib.hid (rd_dg b)
  have HBY := Lib.hid (fun i (_ : i < 32) => sum_byte b i)
  clear hb ht
  have HZ : Hid (Cs (w.alloc (.cells #[.int .u64 0, .int .u64 0, .int .u64 0, .int .u64 0] 64)) w.heap.size 64 (wc 0)) := Cs.new w _ _ _ rfl
  have HE : Hid (Ext w (w.alloc (.cells #[.int .u64 0, .int .u64 0, .int .u64 0, .int .u64 0] 64))) := (Ext.refl w).alloc _
  go_enter Tryd.func43, Tryd.ntmps43
  go_wp2_with fail
  refine (sum_any v b _ (HB.out.ext HE.out) hl (HT.out.ext HE.out)).mono ?_
  rintro e w1 ⟨rfl, he⟩
  have HZ := Lib.hid (HZ.out.ext he)
  have HE := Lib.hid (HE.out.trans he)
  clear he
  generalize sumF b = p at *
  obtain ⟨d, hd⟩ : ∃ d, dgW b = d := ⟨_, rfl⟩
  rw [hd] at HRD
  have HD := Lib.hid hd
  clear hd
  go_wp2_with ((with_reducible refine wpList_store_id ?_ ?_ (.tmp 3) (.tmp 7) ?_ w1.heap.size (ic fun _ => 0) p ?_ ?_ ?_ ?_ ?_); (exact rfl); (exact rfl); (exact rfl); (exact rfl); (exact rfl); (exact Cs.new _ _ _ _ rfl); (exact ic_size _); intro w2 k2 g2; have K2 := Lib.hid k2; have HZ2 := Lib.hid ((HZ.out.alloc _).kept g2 (some_ne (by have := HZ.out.lt; omega))); have HE2 := Lib.hid ((HE.out.alloc _).grown g2 HE.out.size); clear k2 g2)
  refine (read_any _ (idL p) _ (idb_bs K2.out HBY.out)).mono ?_
  rintro e w3 ⟨rfl, he⟩
  rw [HRD.out]
  have HZ3 := Lib.hid (HZ2.out.ext he)
  have HE3 := Lib.hid (HE2.out.trans he)
  clear he HZ2 HE2 K2 HRD
  go_wp2_with (first
    | ((with_reducible refine wpList_store_word rfl rfl 64 (.tmp 4) (.tmp 11) rfl winfo w3.heap.size (wc 0) d ?_ ?_ ?_ ?_ ?_); (exact rfl); (exact rfl); (exact Cs.new _ _ _ _ rfl); (exact rfl); intro w4 k4 g4; have K4 := Lib.hid k4; have HZ4 := Lib.hid ((HZ3.out.alloc _).kept g4 (some_ne (by have := HZ3.out.lt; omega))); have HE4 := Lib.hid ((HE3.out.alloc _).grown g4 HE3.out.size); clear k4 g4)
    | ((with_reducible refine wpList_load_word rfl 64 33 (.tmp 4) rfl Tryd.underlying64 winfo w3.heap.size d ?_ ?_ ?_); (exact rfl); (exact K4.out))
    | ((with_reducible refine wpList_store_word rfl rfl 64 (.tmp 2) (.tmp 13) rfl winfo w.heap.size (wc 0) d ?_ ?_ ?_ ?_ ?_); (exact rfl); (exact rfl); (exact HZ4.out); (exact rfl); intro w5 k5 g5; have K5 := Lib.hid k5; have HE5 := Lib.hid (HE4.out.grown g5 (Nat.le_refl _)); clear k5 g5))
  exact bodyPost_ret (results_word Tryd.results43 _ _ w.heap.size _ rfl K5.out Tryd.underlying64 winfo) rfl ⟨by rw [HD.out], HE5.out⟩

set_option maxRecDepth 100000 in
theorem id_slice (g i : Nat) (hi : i < 4) (W : World) : (Instr.sliceAt 27 (.pointer (some ⟨g, 0, none⟩)) (some (.int .i64 (8 * (i : Int)))) (some (.int .i64 (8 * (i : Int) + 8))) none).run Tryd.prog W = .ok (.slice (some ⟨g, 8 * i, none⟩) 8 (32 - 8 * i)) W := by
  match i, hi with
  | 0, _ => rfl
  | 1, _ => rfl
  | 2, _ => rfl
  | 3, _ => rfl
/-- The highest k limbs, the others nought. -/
def hiF (d k : Nat) : Nat → Nat := fun j => if 3 < j + k then lb d j else 0
set_option maxRecDepth 100000 in
theorem hiF_next (d k m : Nat) (hm : m + k = 3) : nc 4 (fun j => if j = m then lb d m else hiF d k j) = nc 4 (hiF d (k + 1)) := by
  unfold nc
  congr 1
  apply List.map_congr_left
  intro j hj
  have hj4 : j < 4 := by simpa using hj
  congr 1
  show (if j = m then lb d m else hiF d k j) = hiF d (k + 1) j
  unfold hiF
  by_cases h : j = m
  · subst h
    rw [if_pos rfl, if_pos (by omega)]
  · rw [if_neg h]
    by_cases h2 : 3 < j + k
    · rw [if_pos h2, if_pos (by omega)]
    · rw [if_neg h2, if_neg (by omega)]
set_option maxRecDepth 100000 in
theorem hiF_all (d : Nat) : nc 4 (hiF d 4) = wc d := by
  show nc 4 (hiF d 4) = #[lv (lb d 0), lv (lb d 1), lv (lb d 2), lv (lb d 3)]
  rfl
def DgL (w : World) (g3 g4 d k : Nat) (p : Nat → Nat) (W : World) : Prop := Ib W g3 p ∧ Cs W g4 64 (nc 4 (hiF d k)) ∧ Cs W w.heap.size 64 (wc 0) ∧ Ext w W
set_option maxRecDepth 100000 in
theorem DgL.ext {w : World} {g3 g4 d k : Nat} {p : Nat → Nat} {W W' : World} (h : DgL w g3 g4 d k p W) (he : Ext W W') : DgL w g3 g4 d k p W' := ⟨Cs.ext h.1 he, h.2.1.ext he, h.2.2.1.ext he, h.2.2.2.trans he⟩
set_option maxRecDepth 100000 in
theorem DgL.put {w : World} {g3 g4 d k : Nat} {p : Nat → Nat} {W : World} (h : DgL w g3 g4 d k p W) (hg : w.heap.size < g4) (h3 : g3 ≠ g4) (m v : Nat) (hm : m + k = 3) (hv : v = lb d m) : DgL w g3 g4 d (k + 1) p (W.setCell ⟨g4, m, none⟩ (.int .u64 (v : Nat))) := by
  subst hv
  refine ⟨Cs.kept h.1 (grown_set _ _ _ _) (some_ne h3), ?_, h.2.2.1.kept (grown_set _ _ _ _) (some_ne (by omega)), h.2.2.2.grown (grown_set _ _ _ _) (by omega)⟩
  have := h.2.1.set m (lv (lb d m))
  rw [nc_set, hiF_next d k m hm] at this
  exact this

set_option maxRecDepth 100000 in
set_option maxHeartbeats 1000000 in
theorem refAdrDigest_any (v : Value) (b : List UInt8) (w : World) (hb : Bs w v b) (hl : b.length ≤ 1000000000) : Calls Tryd.prog 44 #[v] w fun e w' => e = .returned (wv (dgW b)) ∧ Ext w w' := by
  have HB := Lib.hid hb
  have HBY := Lib.hid (fun i (_ : i < 32) => sum_byte b i)
  have HLB := Lib.hid (fun i (hi : i < 4) => dg_limb (idL (sumF b)) (idL_len _) i hi)
  have HDW := Lib.hid (show dgW b = beN (idL (sumF b)) from rfl)
  clear hb
  have HZ : Hid (Cs (w.alloc (.cells #[.int .u64 0, .int .u64 0, .int .u64 0, .int .u64 0] 64)) w.heap.size 64 (wc 0)) := Cs.new w _ _ _ rfl
  have HE : Hid (Ext w (w.alloc (.cells #[.int .u64 0, .int .u64 0, .int .u64 0, .int .u64 0] 64))) := (Ext.refl w).alloc _
  go_enter Tryd.func44, Tryd.ntmps44
  go_wp2_with fail
  refine (refSum3_any v b _ (HB.out.ext HE.out) hl).mono ?_
  rintro e w1 ⟨rfl, he⟩
  have HZ := Lib.hid (HZ.out.ext he)
  have HE := Lib.hid (HE.out.trans he)
  clear he
  generalize sumF b = p at *
  obtain ⟨d, hd⟩ : ∃ d, dgW b = d := ⟨_, rfl⟩
  have HDW2 := Lib.hid (show beN (idL p) = d by rw [← HDW.out, hd])
  rw [HDW2.out] at HLB
  have HD := Lib.hid hd
  clear hd HDW
  go_upto_region 2 with ((with_reducible refine wpList_store_id ?_ ?_ (.tmp 3) (.tmp 7) ?_ w1.heap.size (ic fun _ => 0) p ?_ ?_ ?_ ?_ ?_); (exact rfl); (exact rfl); (exact rfl); (exact rfl); (exact rfl); (exact Cs.new _ _ _ _ rfl); (exact ic_size _); intro w2 k2 g2; have K2 := Lib.hid k2; have HZ2 := Lib.hid ((HZ.out.alloc _).kept g2 (some_ne (by have := HZ.out.lt; omega))); have HE2 := Lib.hid ((HE.out.alloc _).grown g2 HE.out.size); clear k2 g2)
  have HG3 := Lib.hid (Cs.lt K2.out)
  have HJ0 : Hid (DgL w w1.heap.size w2.heap.size d 0 p (w2.alloc (.cells #[.int .u64 0, .int .u64 0, .int .u64 0, .int .u64 0] 64))) := Lib.hid ⟨Cs.alloc K2.out _, Cs.new _ _ _ _ rfl, HZ2.out.alloc _, HE2.out.alloc _⟩
  have HG4 := Lib.hid (HZ2.out.lt)
  go_upto_region 3 with fail
  clear HZ HE HZ2 HE2 K2
  generalize w2.alloc (.cells #[.int .u64 0, .int .u64 0, .int .u64 0, .int .u64 0] 64) = w3 at *
  generalize w1.heap.size = g3 at *
  generalize w2.heap.size = g4 at *
  go_wp2_with fail
  go_loopw [5, 8, 9, 10, 11, 12, 13, 14, 15, 16, 17, 18, 19, 20, 21] (fun u _ _ _ _ _ _ _ _ _ _ _ _ _ _ wr => ∃ k : Nat, k ≤ 4 ∧ u = .int .i64 k ∧ Hid (DgL w g3 g4 d k p wr)) (fun u _ _ _ _ _ _ _ _ _ _ _ _ _ _ _ => 4 - (intOf u).toNat)
  case atStart => exact ⟨0, by omega, rfl, HJ0⟩
  case round =>
    clear HJ0
    obtain ⟨k, hk, rfl, HJ⟩ := hrel
    by_cases hlt : k < 4
    · have hdk : decide ((k : Int) < 4) = true := decide_eq_true (by omega)
      have hsl := id_slice g3 k hlt wr
      obtain ⟨m, hm⟩ : ∃ m : Nat, m + k = 3 := ⟨3 - k, by omega⟩
      have hmi : (3 : Int) - (k : Int) = (m : Int) := by omega
      have hm0 : (0 : Int) ≤ (m : Int) := by omega
      have hm4 : (m : Int) < 4 := by omega
      have hl8 : (((idL p).drop (8 * k)).take 8).length = 8 := by rw [List.length_take, List.length_drop, idL_len]; omega
      have HRD := Lib.hid (refAdrRead_any (.slice (some ⟨g3, 8 * k, none⟩) 8 (32 - 8 * k)) (((idL p).drop (8 * k)).take 8) wr (slice_bs (idb_bs HJ.out.1 HBY.out) (8 * k) 8 (by rw [idL_len]; omega) (by omega)) (by omega))
      rw [num8 _ (by omega), List.take_of_length_le (by omega), HLB.out k hlt, show 3 - k = m by omega] at HRD
      have a1 : (0 : Int) ≤ 8 * (k : Int) := by omega
      have a2 : 8 * (k : Int) + 8 ≤ 32 := by omega
      have a3 : (0 : Int) ≤ (k : Int) := by omega
      have a4 : (k : Int) ≤ 3 := by omega
      have HM := Lib.hid hm
      clear hl8 hm
      go_wp2_with fail
      refine HRD.out.mono ?_
      rintro e w4 ⟨rfl, he⟩
      have HJ4 := Lib.hid (HJ.out.ext he)
      clear he HRD HJ hsl
      have hcz := Cs.cell HJ4.out.2.1 m _ (nc_get 4 _ m (by omega))
      unfold lv at hcz
      have hfz := Cs.frozen HJ4.out.2.1 m
      have HP := Lib.hid (HJ4.out.put HG4.out (by have := HG3.out; omega) m (lb d m) HM.out rfl)
      generalize lb d m = z at *
      go_wp2_with fail
      exact ⟨⟨k + 1, by omega, by go_num, HP⟩, by simp [intOf]; omega⟩
    · obtain rfl : k = 4 := by omega
      have HW4 := Lib.hid (show Wd wr g4 64 d from by have := HJ.out.2.1; rwa [hiF_all] at this)
      go_wp2_with (first
        | ((with_reducible refine wpList_load_word rfl 64 33 (.tmp 4) rfl Tryd.underlying64 winfo g4 d ?_ ?_ ?_); (exact rfl); (exact HW4.out))
        | ((with_reducible refine wpList_store_word rfl rfl 64 (.tmp 2) (.tmp 22) rfl winfo w.heap.size (wc 0) d ?_ ?_ ?_ ?_ ?_); (exact rfl); (exact rfl); (exact HJ.out.2.2.1); (exact rfl); intro w5 k5 g5; have K5 := Lib.hid k5; have HE5 := Lib.hid (HJ.out.2.2.2.grown g5 (Nat.le_refl _)); clear k5 g5))
      exact bodyPost_ret (results_word Tryd.results44 _ _ w.heap.size _ rfl K5.out Tryd.underlying64 winfo) rfl ⟨by rw [HD.out], HE5.out⟩
end Go.Proofs.YthjmjccggkejhaaDoor
