/- Contract of Parse of digests. -/
import Derived.Test.YthjmjccggkejhaaDoorSpj
namespace Go.Proofs.YthjmjccggkejhaaDoor
open Go.RowKit Go.Shelf

set_option maxRecDepth 100000 in
theorem Ib.ext {W W' : World} {g : Nat} {f : Nat → Nat} (h : Ib W g f) (he : Ext W W') : Ib W' g f := Cs.ext h he
set_option maxRecDepth 100000 in
theorem size_toList (s : ByteArray) : s.toList.length = s.size := by rw [ByteArray.toList_eq]; simp
set_option maxRecDepth 100000 in
theorem get_toList (s : ByteArray) (k : Nat) (h : k < s.size) : s[k].toNat = (s.toList.getD k 0).toNat := by
  rw [ByteArray.toList_eq]
  have h' : k < s.data.toList.length := by simpa using h
  simp only [List.getD, List.getElem?_eq_getElem h', Option.getD_some]
  rfl
/-- The digit at place j. -/
def dS (s : ByteArray) (j : Nat) : Nat := dgN (s.toList.getD j 0).toNat
/-- The bytes of the first k digits. -/
def psC (d : Nat → Nat) (k : Nat) : Nat → Nat := fun i => if 2 * i + 2 ≤ k then 16 * d (2 * i) + d (2 * i + 1) else if 2 * i + 1 ≤ k then d (2 * i) else 0
/-- The bytes of digits. -/
def idP (d : Nat → Nat) : Nat → Nat := fun i => 16 * d (2 * i) + d (2 * i + 1)
set_option maxRecDepth 100000 in
theorem psC_zero (d : Nat → Nat) : psC d 0 = fun _ => 0 := by
  funext i
  unfold psC
  rw [if_neg (by omega), if_neg (by omega)]
set_option maxRecDepth 100000 in
theorem psC_all (d : Nat → Nat) : ic (psC d 64) = ic (idP d) := ic_congr fun i hi => by unfold psC; rw [if_pos (by omega)]; rfl
set_option maxRecDepth 100000 in
theorem psC_lt (d : Nat → Nat) (k : Nat) (hd : ∀ j, j < k → d j < 16) (i : Nat) : psC d k i < 256 := by
  unfold psC
  split
  · have h1 := hd (2 * i) (by omega)
    have h2 := hd (2 * i + 1) (by omega)
    omega
  · split
    · have h1 := hd (2 * i) (by omega)
      omega
    · omega
set_option maxRecDepth 100000 in
theorem psC_step (d : Nat → Nat) (k : Nat) (hd : ∀ j, j < k + 1 → d j < 16) : (fun i => if i = k / 2 then (psC d k (k / 2) * 16 % 256 ||| d k) else psC d k i) = psC d (k + 1) := by
  funext i
  have hk := hd k (by omega)
  by_cases h : i = k / 2
  · rw [if_pos h]
    subst h
    unfold psC
    rcases Nat.mod_two_eq_zero_or_one k with h2 | h2
    · obtain ⟨m, rfl⟩ : ∃ m, k = 2 * m := ⟨k / 2, by omega⟩
      rw [show 2 * m / 2 = m by omega, if_neg (by omega), if_neg (by omega), if_neg (by omega), if_pos (by omega)]
      simp
    · obtain ⟨m, rfl⟩ : ∃ m, k = 2 * m + 1 := ⟨k / 2, by omega⟩
      have hm := hd (2 * m) (by omega)
      rw [show (2 * m + 1) / 2 = m by omega, if_neg (by omega), if_pos (by omega), if_pos (by omega), Nat.mod_eq_of_lt (by omega)]
      have h3 := Nat.two_pow_add_eq_or_of_lt (i := 4) (b := d (2 * m + 1)) (by omega) (d (2 * m))
      rw [show (2 : Nat) ^ 4 = 16 from rfl] at h3
      rw [Nat.mul_comm, ← h3]
  · rw [if_neg h]
    unfold psC
    by_cases h2 : 2 * i + 2 ≤ k
    · rw [if_pos h2, if_pos (by omega)]
    · rw [if_neg h2, if_neg (by omega), if_neg (by omega), if_neg (by omega)]
/-- Are these the digits of a digest? -/
def okS (s : ByteArray) : Bool := decide (s.size = 64) && (List.range 64).all fun j => decide (dS s j < 16)
set_option maxRecDepth 100000 in
theorem okS_yes (s : ByteArray) (h : s.size = 64) (hd : ∀ j, j < 64 → dS s j < 16) : okS s = true := by
  unfold okS
  rw [decide_eq_true h, Bool.true_and, List.all_eq_true]
  intro j hj
  exact decide_eq_true (hd j (by simpa using hj))
set_option maxRecDepth 100000 in
theorem okS_size (s : ByteArray) (h : s.size ≠ 64) : okS s = false := by
  unfold okS
  rw [decide_eq_false h, Bool.false_and]
set_option maxRecDepth 100000 in
theorem okS_no (s : ByteArray) (j : Nat) (h : j < 64) (hd : ¬ dS s j < 16) : okS s = false := by
  unfold okS
  rw [Bool.and_eq_false_iff]
  right
  rw [List.all_eq_false]
  exact ⟨j, by simpa using h, by simpa using hd⟩
/-- What Parse answers. -/
def prsV (s : ByteArray) : Value := if okS s = true then .tuple #[idv (idP (dS s)), .int .i64 0] else .tuple #[idv (fun _ => 0), .int .i64 130]
set_option maxRecDepth 100000 in
theorem results_id_tmp {fn : Func} {p q : Tmp} (h : fn.results = #[.cell p 27, .tmp q]) (tmps : Array Value) (w : World) (g : Nat) (f : Nat → Nat) (hp : tmps.getD p undef = .pointer (some ⟨g, 0, none⟩)) (hg : Ib w g f) : (results fn tmps).run Tryd.prog w = .ok (.tuple #[idv f, tmps.getD q undef]) w := by
  have hp' : tmps[p]?.getD undef = .pointer (some ⟨g, 0, none⟩) := by simpa using hp
  simp [results, h, hp', asAddr, run_loadVar_row w g 27 27 (ic f) (0, 0) _ hg Tryd.underlying27 rfl iinfo, idv]

set_option maxRecDepth 100000 in
set_option maxHeartbeats 2000000 in
theorem parse_any (s : ByteArray) (w : World) :
    Calls Tryd.prog 30 #[.string s] w fun e w' => e = .returned (prsV s) ∧ Ext w w' := by
  have HZ : Hid (Ib ((w.alloc (.cells (ic fun _ => 0) 27)).alloc (.cells (ic fun _ => 0) 27)) w.heap.size (fun _ => 0)) := (Cs.new _ _ _ _ rfl).alloc _
  have HB : Hid (Ib ((w.alloc (.cells (ic fun _ => 0) 27)).alloc (.cells (ic fun _ => 0) 27)) (w.heap.size + 1) (psC (dS s) 0)) := by
    rw [psC_zero]
    exact Cs.new _ _ _ _ (by simp)
  have HE : Hid (Ext w ((w.alloc (.cells (ic fun _ => 0) 27)).alloc (.cells (ic fun _ => 0) 27))) := ((Ext.refl w).alloc _).alloc _
  by_cases h64 : s.size = 64
  · have hd0 : ((s.size : Int) != 64) = false := by rw [h64]; rfl
    have HSZ := Lib.hid h64
    clear h64
    go_enter Tryd.func30, Tryd.ntmps30
    go_wp2_with fail
    go_loopw [5, 6, 7, 14, 15, 16, 17, 18, 19, 20, 21, 22, 23, 24, 25, 27, 28, 29, 30, 31, 32, 33, 34, 35, 36, 37] (fun _ _ _ u _ _ _ _ _ _ _ _ _ _ _ _ _ _ _ _ _ _ _ _ _ _ wr => ∃ k : Nat, k ≤ s.size ∧ u = .int .i64 k ∧ Hid (∀ j, j < k → dS s j < 16) ∧ Hid (Ib wr w.heap.size (fun _ => 0)) ∧ Hid (Ib wr (w.heap.size + 1) (psC (dS s) k)) ∧ Hid (Ext w wr)) (fun _ _ _ u _ _ _ _ _ _ _ _ _ _ _ _ _ _ _ _ _ _ _ _ _ _ _ => s.size - (intOf u).toNat)
    case atStart => exact ⟨0, by omega, rfl, Lib.hid (fun j hj => absurd hj (by omega)), HZ, HB, HE⟩
    case round =>
      clear HZ HB HE
      obtain ⟨k, hk, rfl, HD, HZ, HB, HE⟩ := hrel
      by_cases hlt : k < s.size
      · have hk64 : k < 64 := by have := HSZ.out; omega
        have hdk : dgN s[k].toNat = dS s k := by rw [get_toList s k hlt]; rfl
        have HDK := Lib.hid hdk
        clear hdk
        have hcb := (s[k]).toNat_lt
        go_wp2_with fail
        refine (digit_any _ _ hcb).mono ?_
        rw [HDK.out]
        rintro e w2 ⟨rfl, he2⟩
        have HZ := Lib.hid (HZ.out.ext he2)
        have HB := Lib.hid (HB.out.ext he2)
        have HE := Lib.hid (HE.out.trans he2)
        clear he2
        by_cases hok : dS s k < 16
        · have hdv : digV (dS s k) = .tuple #[.int .u8 (dS s k : Int), .bool true] := by unfold digV; rw [if_pos hok]
          rw [hdv]
          clear hdv
          have HD2 := Lib.hid (show ∀ j, j < k + 1 → dS s j < 16 from fun j hj => if h : j < k then HD.out j h else by rw [show j = k by omega]; exact hok)
          have HST := Lib.hid (psC_step (dS s) k HD2.out)
          have hxl := psC_lt (dS s) k HD.out (k / 2)
          have hc := HB.out.cell (k / 2) (by omega)
          have hf := Cs.frozen HB.out (k / 2)
          have a1 : (0 : Int) ≤ (k : Int) / 2 := by omega
          have a2 : (k : Int) / 2 < 32 := by omega
          clear HDK hcb
          generalize dS s k = dk at *
          generalize psC (dS s) k = x at *
          go_wp2_with fail
          have hbit : bits BinOp.or IntKind.u8 ((x (k / 2) : Int) * 16 % 256) (dk : Int) = ((x (k / 2) * 16 % 256 ||| dk : Nat) : Int) := by
            rw [show ((x (k / 2) : Int) * 16 % 256) = ((x (k / 2) * 16 % 256 : Nat) : Int) by omega]
            exact u8_or_nat _ _ (by omega) (by omega)
          rw [hbit]
          refine ⟨⟨k + 1, by omega, by go_num, HD2, ?_, ?_, ?_⟩, by simp [intOf]; omega⟩
          · exact Lib.hid (Cs.kept HZ.out (grown_set w2 _ _ _) (some_ne (by omega)))
          · have h7 := HB.out.set (k / 2) (x (k / 2) * 16 % 256 ||| dk)
            rw [HST.out] at h7
            exact Lib.hid h7
          · exact Lib.hid (HE.out.grown (grown_set w2 _ _ _) (by omega))
        · have HV := Lib.hid (show prsV s = .tuple #[idv (fun _ => 0), .int .i64 130] by unfold prsV; rw [okS_no s k hk64 hok]; rfl)
          have hdv : digV (dS s k) = .tuple #[.int .u8 0, .bool false] := by unfold digV; rw [if_neg hok]
          rw [hdv]
          clear hdv HDK hcb
          go_wp2_with ((with_reducible refine wpList_store_id ?_ ?_ (.tmp 2) (.tmp 26) ?_ w.heap.size (ic fun _ => 0) (fun _ => 0) ?_ ?_ ?_ ?_ ?_); (exact rfl); (exact rfl); (exact rfl); (exact rfl); (exact rfl); (exact HZ.out); (exact ic_size _); intro w7 k7 g7; have K7 := Lib.hid k7; have HE7 := Lib.hid (HE.out.grown g7 (by omega)); clear k7 g7)
          exact bodyPost_ret (results_id_tmp Tryd.results30 _ _ w.heap.size _ rfl K7.out) rfl ⟨by rw [HV.out]; rfl, HE7.out⟩
      · obtain rfl : k = s.size := by omega
        have HV := Lib.hid (show prsV s = .tuple #[idv (idP (dS s)), .int .i64 0] by unfold prsV; rw [okS_yes s HSZ.out (by rw [← HSZ.out]; exact HD.out)]; rfl)
        have HI : Hid (idv (psC (dS s) s.size) = idv (idP (dS s))) := by
          rw [HSZ.out]
          unfold idv
          rw [psC_all]
          rfl
        go_wp2_with (first
          | ((with_reducible refine wpList_load_id ?_ (.tmp 4) ?_ (w.heap.size + 1) (psC (dS s) s.size) ?_ ?_ ?_); (exact rfl); (exact rfl); (exact rfl); (exact HB.out))
          | ((with_reducible refine wpList_store_id ?_ ?_ (.tmp 2) (.tmp 38) ?_ w.heap.size (ic fun _ => 0) (psC (dS s) s.size) ?_ ?_ ?_ ?_ ?_); (exact rfl); (exact rfl); (exact rfl); (exact rfl); (exact rfl); (exact HZ.out); (exact ic_size _); intro w7 k7 g7; have K7 := Lib.hid k7; have HE7 := Lib.hid (HE.out.grown g7 (by omega)); clear k7 g7))
        rw [← HI.out] at HV
        exact bodyPost_ret (results_id_tmp Tryd.results30 _ _ w.heap.size _ rfl K7.out) rfl ⟨by rw [HV.out]; rfl, HE7.out⟩
  · have hd0 : ((s.size : Int) != 64) = true := by simp; omega
    have HV := Lib.hid (show prsV s = .tuple #[idv (fun _ => 0), .int .i64 130] by unfold prsV; rw [okS_size s h64]; rfl)
    clear h64
    go_enter Tryd.func30, Tryd.ntmps30
    go_wp2_with ((with_reducible refine wpList_store_id ?_ ?_ (.tmp 2) (.tmp 11) ?_ w.heap.size (ic fun _ => 0) (fun _ => 0) ?_ ?_ ?_ ?_ ?_); (exact rfl); (exact rfl); (exact rfl); (exact rfl); (exact rfl); (exact HZ.out); (exact ic_size _); intro w7 k7 g7; have K7 := Lib.hid k7; have HE7 := Lib.hid (HE.out.grown g7 (by omega)); clear k7 g7)
    exact bodyPost_ret (results_id_tmp Tryd.results30 _ _ w.heap.size _ rfl K7.out) rfl ⟨by rw [HV.out]; rfl, HE7.out⟩
end Go.Proofs.YthjmjccggkejhaaDoor
