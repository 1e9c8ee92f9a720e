/- Contracts of Round and Permute of lanes. -/
import Derived.Test.YthjmjccggkejhaaDoorSpd
import Derived.Deep.Cut
namespace Go.Proofs.YthjmjccggkejhaaDoor
open Go.RowKit Go.Shelf

/-- The rounds' numbers. -/
def rnN (n : Nat) : Nat := ([1, 32898, 9223372036854808714, 9223372039002292224, 32907, 2147483649, 9223372039002292353, 9223372036854808585, 138, 136, 2147516425, 2147483658, 2147516555, 9223372036854775947, 9223372036854808713, 9223372036854808579, 9223372036854808578, 9223372036854775936, 32778, 9223372039002259466, 9223372039002292353, 9223372036854808704, 2147483649, 9223372039002292232] : List Nat).getD n 0
set_option maxRecDepth 100000 in
theorem rnN_lt (n : Nat) (h : n < 24) : rnN n < 18446744073709551616 := by
  have h' : ∀ j : Fin 24, rnN j.val < 18446744073709551616 := by decide
  exact h' ⟨n, h⟩
/-- The table of the rounds' numbers lies there. -/
def TbR (W : World) : Prop := Tk W 1 (nc 24 rnN)
set_option maxRecDepth 100000 in
theorem TbR.ext {W W' : World} (h : TbR W) (he : Ext W W') : TbR W' := Tk.ext h he
/-- Both tables. -/
def Tb (W : World) : Prop := TbT W ∧ TbR W
set_option maxRecDepth 100000 in
theorem Tb.ext {W W' : World} (h : Tb W) (he : Ext W W') : Tb W' := ⟨h.1.ext he, h.2.ext he⟩
/-- Lanes behind a round. -/
def rndF (f : Nat → Nat) (n : Nat) : Nat → Nat := fun i => if i = 0 then rowF (mixF f) 0 ^^^ rnN n else rowF (mixF f) i
set_option maxRecDepth 100000 in
theorem rndF_lt (f : Nat → Nat) (n : Nat) (hf : Lok f) (hn : n < 24) : Lok (rndF f n) := by
  intro i hi
  unfold rndF
  have h := rowF_lt (mixF f) (mixF_lt f hf)
  split
  · exact xor_lt64 _ _ (h 0 (by omega)) (rnN_lt n hn)
  · exact h i hi
set_option maxRecDepth 100000 in
theorem results_lanes_tmp {fn : Func} {p q : Tmp} (h : fn.results = #[.cell p 35, .tmp q]) (tmps : Array Value) (w : World) (g : Nat) (f : Nat → Nat) (hp : tmps.getD p undef = .pointer (some ⟨g, 0, none⟩)) (hg : Ln w g f) : (results fn tmps).run Tryd.prog w = .ok (.tuple #[lnv f, tmps.getD q undef]) w := by
  have hp' : tmps[p]?.getD undef = .pointer (some ⟨g, 0, none⟩) := by simpa using hp
  simp [results, h, hp', asAddr, run_loadVar_row w g 35 35 (lc f) (0, 0) _ hg Tryd.underlying35 rfl linfo, lnv]
/-- What Round answers. -/
def rndV (f : Nat → Nat) (n : Int) : Value := if 0 ≤ n ∧ n < 24 then .tuple #[lnv (rndF f n.toNat), .int .i64 0] else .tuple #[lnv (fun _ => 0), .int .i64 2]

set_option maxRecDepth 100000 in
set_option maxHeartbeats 4000000 in
theorem round_any (f : Nat → Nat) (n : Int) (w : World) (hf : Lok f) (ht : Tb w) : Calls Tryd.prog 24 #[lnv f, .int .i64 n] w fun e w' => e = .returned (rndV f n) ∧ Ext w w' := by
  have HF := Lib.hid hf
  have HT := Lib.hid ht
  clear hf ht
  have HK : Hid (Ln ((w.alloc (.cells (lc f) 35)).alloc (.cells (lc fun _ => 0) 35)) w.heap.size f) := (Cs.new _ _ _ _ rfl).alloc _
  have HZ : Hid (Ln ((w.alloc (.cells (lc f) 35)).alloc (.cells (lc fun _ => 0) 35)) (w.heap.size + 1) (fun _ => 0)) := Cs.new _ _ _ _ (by simp)
  have HE : Hid (Ext w ((w.alloc (.cells (lc f) 35)).alloc (.cells (lc fun _ => 0) 35))) := ((Ext.refl w).alloc _).alloc _
  rw [lc_zero] at HK HZ HE
  unfold lnv
  by_cases h0 : n < 0
  · have HV := Lib.hid (show rndV f n = .tuple #[lnv (fun _ => 0), .int .i64 2] by unfold rndV; rw [if_neg (by omega)])
    have hd : decide (n < 0) = true := by simpa using h0
    go_enter Tryd.func24, Tryd.ntmps24
    go_wp2_with ((with_reducible refine wpList_store_lanes ?_ ?_ (.tmp 4) (.tmp 13) ?_ (w.heap.size + 1) (lc fun _ => 0) (fun _ => 0) ?_ ?_ ?_ ?_ ?_); (exact rfl); (exact rfl); (exact rfl); (exact rfl); (exact rfl); (exact HZ.out); (exact lc_size _); intro w4 k4 g4; have K4 := Lib.hid k4; have HE4 := Lib.hid (HE.out.grown g4 (by omega)); clear k4 g4)
    exact bodyPost_ret (results_lanes_tmp Tryd.results24 _ _ (w.heap.size + 1) _ rfl K4.out) rfl ⟨by rw [HV.out]; rfl, HE4.out⟩
  · have hd : decide (n < 0) = false := by simpa using h0
    by_cases h24 : 24 ≤ n
    · have HV := Lib.hid (show rndV f n = .tuple #[lnv (fun _ => 0), .int .i64 2] by unfold rndV; rw [if_neg (by omega)])
      have hd2 : decide (24 ≤ n) = true := by simpa using h24
      go_enter Tryd.func24, Tryd.ntmps24
      go_wp2_with ((with_reducible refine wpList_store_lanes ?_ ?_ (.tmp 4) (.tmp 13) ?_ (w.heap.size + 1) (lc fun _ => 0) (fun _ => 0) ?_ ?_ ?_ ?_ ?_); (exact rfl); (exact rfl); (exact rfl); (exact rfl); (exact rfl); (exact HZ.out); (exact lc_size _); intro w4 k4 g4; have K4 := Lib.hid k4; have HE4 := Lib.hid (HE.out.grown g4 (by omega)); clear k4 g4)
      exact bodyPost_ret (results_lanes_tmp Tryd.results24 _ _ (w.heap.size + 1) _ rfl K4.out) rfl ⟨by rw [HV.out]; rfl, HE4.out⟩
    · have hd2 : decide (24 ≤ n) = false := by simpa using h24
      obtain ⟨m, rfl⟩ : ∃ m : Nat, n = m := ⟨n.toNat, by omega⟩
      have hm : m < 24 := by omega
      have HV := Lib.hid (show rndV f (m : Int) = .tuple #[lnv (rndF f m), .int .i64 0] by unfold rndV; rw [if_pos ⟨by omega, by omega⟩]; rfl)
      clear h0 h24
      go_enter Tryd.func24, Tryd.ntmps24
      go_wp2_with ((with_reducible refine wpList_load_lanes ?_ (.tmp 2) ?_ w.heap.size f ?_ ?_ ?_); (exact rfl); (exact rfl); (exact rfl); (exact HK.out))
      refine (mix_any f _ HF.out ((HT.out.ext HE.out).1)).mono ?_
      rintro e w3 ⟨rfl, he3⟩
      have HZ := Lib.hid (HZ.out.ext he3)
      have HE := Lib.hid (HE.out.trans he3)
      clear he3 HK
      go_wp2_with fail
      refine (rows_any (mixF f) _ (mixF_lt f HF.out)).mono ?_
      rintro e w4 ⟨rfl, he4⟩
      have HZ := Lib.hid (HZ.out.ext he4)
      have HE := Lib.hid (HE.out.trans he4)
      clear he4
      have HB := Lib.hid (rowF_lt (mixF f) (mixF_lt f HF.out) 0 (by decide))
      have HRN := Lib.hid (rnN_lt m hm)
      have HS := Lib.hid (show (fun i => if i = 0 then rowF (mixF f) 0 ^^^ rnN m else rowF (mixF f) i) = rndF f m from rfl)
      generalize rowF (mixF f) = r at *
      go_upto_region 4 with ((with_reducible refine wpList_store_lanes ?_ ?_ (.tmp 6) (.tmp 16) ?_ w4.heap.size (lc fun _ => 0) r ?_ ?_ ?_ ?_ ?_); (exact rfl); (exact rfl); (exact rfl); (exact rfl); (exact rfl); (exact heap_alloc_new _ _); (exact lc_size _); intro w5 k5 g5; have K5 := Lib.hid k5; have HZ5 := Lib.hid ((Cs.alloc HZ.out _).kept g5 (some_ne (by have := Cs.lt HZ.out; omega))); have HE5 := Lib.hid ((HE.out.alloc _).grown g5 HE.out.size); clear k5 g5)
      have c0 := K5.out.cell 0 (by omega)
      have f0 := Cs.frozen K5.out 0
      have c1 : w5.cell? ⟨1, m, none⟩ = some (.int .u64 (rnN m : Nat)) := Tk.cell (HT.out.ext HE5.out).2 m _ (nc_get 24 rnN m hm)
      have hxor := u64_xor_nat (r 0) (rnN m) HB.out HRN.out
      have KP := Lib.hid (show Ln (w5.setCell ⟨w4.heap.size, 0, none⟩ (.int .u64 ((r 0 ^^^ rnN m : Nat) : Int))).drew w4.heap.size (fun i => if i = 0 then r 0 ^^^ rnN m else r i) from K5.out.set 0 _)
      have HZ6 := Lib.hid (Cs.kept HZ5.out (grown_drew (grown_set w5 w4.heap.size 0 (.int .u64 ((r 0 ^^^ rnN m : Nat) : Int)))) (some_ne (by have := Cs.lt HZ.out; omega)))
      have HE6 := Lib.hid (HE5.out.grown (grown_drew (grown_set w5 w4.heap.size 0 (.int .u64 ((r 0 ^^^ rnN m : Nat) : Int)))) (by have := HE.out.size; omega))
      rw [HS.out] at KP
      have a1 : (0 : Int) ≤ (m : Int) := by omega
      have a2 : (m : Int) < 24 := by omega
      clear HS HZ5 HE5 K5
      go_region
      generalize (w5.setCell ⟨w4.heap.size, 0, none⟩ (.int .u64 ((r 0 ^^^ rnN m : Nat) : Int))).drew = w6 at *
      clear hxor c0 f0 c1 HZ HE
      go_wp2_with (first
        | ((with_reducible refine wpList_load_lanes ?_ (.tmp 6) ?_ w4.heap.size (rndF f m) ?_ ?_ ?_); (exact rfl); (exact rfl); (exact rfl); (exact KP.out))
        | ((with_reducible refine wpList_store_lanes ?_ ?_ (.tmp 4) (.tmp 24) ?_ (w.heap.size + 1) (lc fun _ => 0) (rndF f m) ?_ ?_ ?_ ?_ ?_); (exact rfl); (exact rfl); (exact rfl); (exact rfl); (exact rfl); (exact HZ6.out); (exact lc_size _); intro w7 k7 g7; have K7 := Lib.hid k7; have HE7 := Lib.hid (HE6.out.grown g7 (by omega)); clear k7 g7))
      exact bodyPost_ret (results_lanes_tmp Tryd.results24 _ _ (w.heap.size + 1) _ rfl K7.out) rfl ⟨by rw [HV.out]; rfl, HE7.out⟩

/-- Lanes behind k rounds. -/
def prmF (f : Nat → Nat) : Nat → Nat → Nat
  | 0 => f
  | k + 1 => rndF (prmF f k) k
set_option maxRecDepth 100000 in
theorem prmF_lt (f : Nat → Nat) (hf : Lok f) (k : Nat) (hk : k ≤ 24) : Lok (prmF f k) := by
  induction k with
  | zero => exact hf
  | succ k ih => exact rndF_lt _ _ (ih (by omega)) (by omega)
set_option maxRecDepth 100000 in
theorem rndV_in (f : Nat → Nat) (k : Nat) (hk : k < 24) : rndV f (k : Int) = .tuple #[lnv (rndF f k), .int .i64 0] := by unfold rndV; rw [if_pos ⟨by omega, by omega⟩]; rfl

set_option maxRecDepth 100000 in
set_option maxHeartbeats 4000000 in
theorem permute_any (f : Nat → Nat) (w : World) (hf : Lok f) (ht : Tb w) : Calls Tryd.prog 22 #[lnv f] w fun e w' => e = .returned (lnv (prmF f 24)) ∧ Ext w w' := by
  have HF := Lib.hid hf
  have HT := Lib.hid ht
  clear hf ht
  have HK : Hid (Ln ((w.alloc (.cells (lc f) 35)).alloc (.cells (lc fun _ => 0) 35)) w.heap.size f) := (Cs.new _ _ _ _ rfl).alloc _
  have HZ : Hid (Ln ((w.alloc (.cells (lc f) 35)).alloc (.cells (lc fun _ => 0) 35)) (w.heap.size + 1) (fun _ => 0)) := Cs.new _ _ _ _ (by simp)
  have HE : Hid (Ext w ((w.alloc (.cells (lc f) 35)).alloc (.cells (lc fun _ => 0) 35))) := ((Ext.refl w).alloc _).alloc _
  rw [lc_zero] at HK HZ HE
  unfold lnv
  go_enter Tryd.func22, Tryd.ntmps22
  go_wp2_with fail
  go_loopw [3, 4, 5, 6, 7, 8, 9, 10, 11, 12, 13] (fun _ i _ _ _ _ _ _ _ _ _ wr => ∃ k : Nat, k ≤ 24 ∧ i = .int .i64 k ∧ Hid (Ln wr w.heap.size (prmF f k)) ∧ Hid (Ln wr (w.heap.size + 1) (fun _ => 0)) ∧ Hid (Ext w wr)) (fun _ i _ _ _ _ _ _ _ _ _ _ => 24 - (intOf i).toNat)
  case atStart => exact ⟨0, by omega, rfl, HK, HZ, HE⟩
  case round =>
    clear HK HZ HE
    obtain ⟨k, hk, rfl, HK, HZ, HE⟩ := hrel
    by_cases hlt : k < 24
    · have hd : decide ((k : Int) < 24) = true := by simp; omega
      have HL := Lib.hid (prmF_lt f HF.out k (by omega))
      have HP := Lib.hid (show rndF (prmF f k) k = prmF f (k + 1) from rfl)
      generalize prmF f k = p at *
      go_wp2_with ((with_reducible refine wpList_load_lanes ?_ (.tmp 1) ?_ w.heap.size p ?_ ?_ ?_); (exact rfl); (exact rfl); (exact rfl); (exact HK.out))
      refine (round_any p k _ HL.out (HT.out.ext HE.out)).mono ?_
      rw [rndV_in p k hlt, HP.out]
      rintro e w4 ⟨rfl, he4⟩
      have HK := Lib.hid (HK.out.ext he4)
      have HZ := Lib.hid (HZ.out.ext he4)
      have HE := Lib.hid (HE.out.trans he4)
      clear he4 HP
      go_wp2_with ((with_reducible refine wpList_store_lanes ?_ ?_ (.tmp 1) (.tmp 11) ?_ w.heap.size (lc p) (prmF f (k + 1)) ?_ ?_ ?_ ?_ ?_); (exact rfl); (exact rfl); (exact rfl); (exact rfl); (exact rfl); (exact HK.out); (exact lc_size _); intro w7 k7 g7; have K7 := Lib.hid k7; have HZ7 := Lib.hid (HZ.out.kept g7 (some_ne (by omega))); have HE7 := Lib.hid (HE.out.grown g7 (by omega)); clear k7 g7)
      go_roundw
      case rel => exact ⟨k + 1, by omega, by go_num, K7, HZ7, HE7⟩
      case measure => simp [intOf]; omega
    · obtain rfl : k = 24 := by omega
      generalize hp : prmF f 24 = p at *
      have HP := Lib.hid hp
      clear hp
      go_wp2_with (first
        | ((with_reducible refine wpList_load_lanes ?_ (.tmp 1) ?_ w.heap.size p ?_ ?_ ?_); (exact rfl); (exact rfl); (exact rfl); (exact HK.out))
        | ((with_reducible refine wpList_store_lanes ?_ ?_ (.tmp 2) (.tmp 14) ?_ (w.heap.size + 1) (lc fun _ => 0) p ?_ ?_ ?_ ?_ ?_); (exact rfl); (exact rfl); (exact rfl); (exact rfl); (exact rfl); (exact HZ.out); (exact lc_size _); intro w7 k7 g7; have K7 := Lib.hid k7; have HE7 := Lib.hid (HE.out.grown g7 (by omega)); clear k7 g7))
      exact bodyPost_ret (results_lanes Tryd.results22 _ _ (w.heap.size + 1) _ rfl K7.out) rfl ⟨by rw [HP.out]; rfl, HE7.out⟩
end Go.Proofs.YthjmjccggkejhaaDoor
