/- Package nonce: where a key stands. -/
import Derived.Test.YtepggbhibpjkpaaNoc
namespace Go.Proofs.Ytepggbhibpjkpaa
open Go.ChangeShapes Go.WideShapes Go.ChangeAt Go.RowKit Go.Shelf

/-- The nonces rise. -/
def RiseN (l : List Nn) : Prop := ∀ i j, i < j → j < l.length → (l.getD i nz0).cod < (l.getD j nz0).cod
/-- How many stand ahead of that one; whether it is there. -/
def posN (l : List Nn) (k : Nat) : Nat := (l.filter fun p => decide (p.cod < k)).length
def hasN (l : List Nn) (k : Nat) : Bool := decide (posN l k < l.length) && decide ((l.getD (posN l k) nz0).cod = k)
/-- What find answers of a key: its nonce, or one that says 0. -/
def rowN (l : List Nn) (a k : Nat) : Nn := if hasN l (cdN a k) then l.getD (posN l (cdN a k)) nz0 else ⟨a, k, 0⟩
set_option maxRecDepth 100000 in
theorem posN_le (l : List Nn) (k : Nat) : posN l k ≤ l.length := List.length_filter_le _ _
set_option maxRecDepth 100000 in
theorem posN_lt : ∀ (l : List Nn) (k : Nat), RiseN l → ∀ i, i < l.length → ((l.getD i nz0).cod < k ↔ i < posN l k)
  | [], k, _, i, hi => by simp at hi
  | p :: l, k, hr, i, hi => by
    have hr' : RiseN l := fun a b hab hb => by
      have := hr (a + 1) (b + 1) (by omega) (by simp; omega)
      simpa using this
    have ih := posN_lt l k hr'
    by_cases hp : p.cod < k
    · have e : posN (p :: l) k = posN l k + 1 := by unfold posN; simp [hp]
      rw [e]
      cases i with
      | zero => simpa using hp
      | succ i =>
        have := ih i (by simpa using hi)
        simp only [List.getD_cons_succ]
        omega
    · have e : posN (p :: l) k = posN l k := by unfold posN; simp [hp]
      have h0 : posN l k = 0 := by
        rcases Nat.eq_zero_or_pos (posN l k) with h | h
        · exact h
        · have hl : 0 < l.length := Nat.lt_of_lt_of_le h (posN_le l k)
          have h1 := (ih 0 hl).2 h
          have h2 := hr 0 1 (by omega) (by simp; omega)
          simp at h2
          simp [List.getD] at h1 h2 ⊢
          omega
      rw [e, h0]
      cases i with
      | zero => simp [hp]
      | succ i =>
        have h2 := hr 0 (i + 1) (by omega) hi
        simp only [List.getD_cons_zero, List.getD_cons_succ] at h2 ⊢
        omega
set_option maxRecDepth 100000 in
theorem rgN_iff {l : List Nn} {i : Nat} : rgN l i = true ↔ (l.getD i nz0).mayB = true ∧ (0 < i → (l.getD (i - 1) nz0).cod < (l.getD i nz0).cod) := by
  unfold rgN
  rw [Bool.and_eq_true, Bool.or_eq_true, beq_iff_eq, decide_eq_true_eq]
  constructor
  · rintro ⟨h1, h2⟩
    refine ⟨h1, fun h => ?_⟩
    rcases h2 with h2 | h2
    · omega
    · exact h2
  · rintro ⟨h1, h2⟩
    refine ⟨h1, ?_⟩
    rcases Nat.eq_zero_or_pos i with h | h
    · exact .inl h
    · exact .inr (h2 h)
set_option maxRecDepth 100000 in
theorem right_len {l : List Nn} (h : rightN l = true) : l.length ≤ 48 := by
  unfold rightN at h
  rw [Bool.and_eq_true, decide_eq_true_eq] at h
  exact h.1
set_option maxRecDepth 100000 in
theorem right_row {l : List Nn} (h : rightN l = true) (i : Nat) (hi : i < l.length) : rgN l i = true := by
  unfold rightN at h
  rw [Bool.and_eq_true, List.all_eq_true] at h
  exact h.2 i (List.mem_range.2 hi)
set_option maxRecDepth 100000 in
theorem right_rise {l : List Nn} (h : rightN l = true) : RiseN l := by
  intro i j hij hj
  induction j with
  | zero => omega
  | succ j ih =>
    have h1 := (rgN_iff.1 (right_row h (j + 1) hj)).2 (by omega)
    rw [Nat.add_sub_cancel] at h1
    rcases Nat.lt_or_ge i j with hlt | hge
    · exact Nat.lt_trans (ih hlt (by omega)) h1
    · obtain rfl : i = j := by omega
      exact h1
set_option maxRecDepth 100000 in
theorem hasN_lt {l : List Nn} {k : Nat} (h : hasN l k = true) : posN l k < l.length := by
  unfold hasN at h
  simp only [Bool.and_eq_true, decide_eq_true_eq] at h
  exact h.1
def FnJ (w : World) (gs gk : Nat) (v : Value) (a k : Nat) (W : World) : Prop := Cs W gs 22 #[v] ∧ Kb W gk a k ∧ Ext w W
set_option maxRecDepth 100000 in
theorem FnJ.ext {w : World} {gs gk : Nat} {v : Value} {a k : Nat} {W W' : World} (h : FnJ w gs gk v a k W) (he : Ext W W') : FnJ w gs gk v a k W' := ⟨Cs.ext h.1 he, h.2.1.ext he, h.2.2.trans he⟩
set_option maxRecDepth 100000 in
set_option maxHeartbeats 4000000 in
theorem find1N_any (gs gk i a k : Nat) (sv : Value) (l : List Nn) (w : World) (hgs : Cs w gs 22 #[sv]) (hga : Kb w gk a k) (hk : k < M256) (hs : Nns w sv l) (hi : i < l.length) (_hl : l.length ≤ 100000) :
    Calls Try.prog 91 #[.int .i64 (i : Nat), .pointer (some ⟨gs, 0, none⟩), .pointer (some ⟨gk, 0, none⟩)] w fun e w' => e = .returned (.bool (decide (cdN a k ≤ (l.getD i nz0).cod))) ∧ Ext w w' := by
  obtain ⟨A1, c, rfl, h1, h2⟩ := hs.len
  obtain ⟨bb, oo, rfl, hrg, hpo⟩ := hs.at i hi
  have HR := Lib.hid hrg
  have HPK := Lib.hid hpo.2.1
  have HK := Lib.hid hk
  have HJ : Hid (FnJ w gs gk (.slice (some ⟨bb, oo, none⟩) l.length c) a k w) := Lib.hid ⟨hgs, hga, Ext.refl _⟩
  clear hrg hgs hga hs hpo hk
  generalize l.getD i nz0 = p at *
  have HGE : Hid (decide (0 ≤ cmpN p.cod (cdN a k)) = decide (cdN a k ≤ p.cod)) := Lib.hid (by
    unfold cmpN
    by_cases hx : p.cod < cdN a k
    · rw [if_pos hx, decide_eq_false (show ¬ cdN a k ≤ p.cod by omega)]; rfl
    · rw [if_neg hx, decide_eq_true (show cdN a k ≤ p.cod by omega)]; split <;> rfl)
  have hd3 : decide (i < l.length) = true := decide_eq_true hi
  unfold maxLen at h2
  go_enter Try.func91, Try.ntmps91
  go_upto_region 1 with fail
  refine wp_named fun a0 ha0 => ?_
  obtain ⟨fr, hfr⟩ : ∃ fr : (Nat → Value) → Act, ∀ V, fr V = (((((((((a0.put (some 5) (V 0)).put (some 6) (V 1)).put (some 7) (V 2)).put (some 8) (V 3)).put (some 9) (V 4)).put (some 10) (V 5)).put (some 11) (V 6)).put (some 12) (V 7)).put (some 4) (V 8)) := ⟨fun V => (((((((((a0.put (some 5) (V 0)).put (some 6) (V 1)).put (some 7) (V 2)).put (some 8) (V 3)).put (some 9) (V 4)).put (some 10) (V 5)).put (some 11) (V 6)).put (some 12) (V 7)).put (some 4) (V 8)), fun _ => rfl⟩
  rw [ha0] at hfr
  simp only [Act.put, List.setIfInBounds_toArray, List.set_cons_zero, List.set_cons_succ] at hfr
  have HFR := Lib.hid hfr
  clear hfr
  refine wp_region_inv (by kernel_rfl) (by kernel_rfl) (fun L A W => ∃ V : Nat → Value, A = fr V ∧ Vals (fun j => ([some (.slice (some ⟨bb, oo, none⟩) l.length c), some (.int .i64 (i : Nat)), some (.pointer (some ⟨bb, oo + i * 6, none⟩)), some (.agg (nnc p)), some (.agg (okc p.addr p.key)), some (.agg (okc a k)), some (.int .i64 (cmpN p.cod (cdN a k))), some (.bool (decide (cdN a k ≤ p.cod))), some (.bool (decide (cdN a k ≤ p.cod)))] : List (Option Value)).getD j none) L V ∧ (FnJ w gs gk (.slice (some ⟨bb, oo, none⟩) l.length c) a k W)) ?_ ⟨?_, ?_, ?_, ?_, ?_, ?_, ?_, ?_, ?_, trivial⟩ ?_
  · refine ⟨fun j => a0.tmps.getD (([5, 6, 7, 8, 9, 10, 11, 12, 4] : List Nat).getD j 0) undef, ?_, Vals.no _ _ _ (far_none _ _ rfl), HJ.out.ext ((Ext.refl _).drew)⟩
    rw [HFR.out, ha0]
    rfl
  all_goals clear ha0
  · rintro L A W K hL hC hW ⟨V, rfl, HV, s0⟩ hK
    have hB := s0
    have H := Lib.hid (show ∀ W', Ext W W' → K (fr (upd V 0 (.slice (some ⟨bb, oo, none⟩) l.length c))) W' from fun W' he => hK _ _ ⟨upd V 0 (.slice (some ⟨bb, oo, none⟩) l.length c), rfl, HV.up 0 _ (fun x hx => Option.some.inj hx), FnJ.ext s0 he⟩)
    clear hK hC hW hL HV s0
    rw [HFR.out]
    have qq := hB.1.cell 0 _ rfl
    clear hB
    go_wp2_with fail
    show K _ _
    have := H.out _ (Ext.refl _)
    rw [HFR.out] at this
    exact this
  · rintro L A W K hL hC hW ⟨V, rfl, HV, s0⟩ hK
    have H := Lib.hid (show ∀ W', Ext W W' → K (fr (upd V 1 (.int .i64 (i : Nat)))) W' from fun W' he => hK _ _ ⟨upd V 1 (.int .i64 (i : Nat)), rfl, HV.up 1 _ (fun x hx => Option.some.inj hx), FnJ.ext s0 he⟩)
    clear hK hC hW hL HV s0
    rw [HFR.out]
    go_wp2_with fail
    show K _ _
    have := H.out _ (Ext.refl _)
    rw [HFR.out] at this
    exact this
  · rintro L A W K hL hC hW ⟨V, rfl, HV, s0⟩ hK
    have e0 : V 0 = .slice (some ⟨bb, oo, none⟩) l.length c := HV 0 _ rfl (hW 0 rfl)
    have e1 : V 1 = .int .i64 (i : Nat) := HV 1 _ rfl (hW 1 rfl)
    have H := Lib.hid (show ∀ W', Ext W W' → K (fr (upd V 2 (.pointer (some ⟨bb, oo + i * 6, none⟩)))) W' from fun W' he => hK _ _ ⟨upd V 2 (.pointer (some ⟨bb, oo + i * 6, none⟩)), rfl, HV.up 2 _ (fun x hx => Option.some.inj hx), FnJ.ext s0 he⟩)
    have HU := Lib.hid (show (upd V 2 (.pointer (some ⟨bb, oo + i * 6, none⟩))) 0 = .slice (some ⟨bb, oo, none⟩) l.length c ∧ (upd V 2 (.pointer (some ⟨bb, oo + i * 6, none⟩))) 1 = .int .i64 (i : Nat) from ⟨e0, e1⟩)
    clear hK hC hW hL HV s0
    rw [HFR.out]
    rw [e0, e1]
    clear e0 e1
    go_wp2_with fail
    show K _ _
    have := H.out _ (Ext.refl _)
    rw [HFR.out] at this
    obtain ⟨u0, u1⟩ := HU.out
    rw [u0, u1] at this
    exact this
  · rintro L A W K hL hC hW ⟨V, rfl, HV, s0⟩ hK
    have e2 : V 2 = .pointer (some ⟨bb, oo + i * 6, none⟩) := HV 2 _ rfl (hW 2 rfl)
    have hB := s0
    have H := Lib.hid (show ∀ W', Ext W W' → K (fr (upd V 3 (.agg (nnc p)))) W' from fun W' he => hK _ _ ⟨upd V 3 (.agg (nnc p)), rfl, HV.up 3 _ (fun x hx => Option.some.inj hx), FnJ.ext s0 he⟩)
    have HU := Lib.hid (show (upd V 3 (.agg (nnc p))) 2 = .pointer (some ⟨bb, oo + i * 6, none⟩) from e2)
    clear hK hC hW hL HV s0
    rw [HFR.out]
    rw [e2]
    clear e2
    have HWW := Lib.hid (fun (y : Nat) (x : Value) (hx : (nnc p).toList[y]? = some x) => hB.2.2.cell (HR.out y x hx))
    clear hB
    refine wpList_load_nn rfl (.tmp 7) rfl bb (oo + i * 6) p rfl HWW.out ?_
    show K _ _
    have := H.out _ (Ext.refl _)
    rw [HFR.out] at this
    obtain u2 := HU.out
    rw [u2] at this
    exact this
  · rintro L A W K hL hC hW ⟨V, rfl, HV, s0⟩ hK
    have e3 : V 3 = .agg (nnc p) := HV 3 _ rfl (hW 3 rfl)
    have hB := s0
    have H := Lib.hid (show ∀ W', Ext W W' → K (fr (upd V 4 (.agg (okc p.addr p.key)))) W' from fun W' he => hK _ _ ⟨upd V 4 (.agg (okc p.addr p.key)), rfl, HV.up 4 _ (fun x hx => Option.some.inj hx), FnJ.ext s0 he⟩)
    have HU := Lib.hid (show (upd V 4 (.agg (okc p.addr p.key))) 3 = .agg (nnc p) from e3)
    clear hK hC hW hL HV s0
    rw [HFR.out]
    rw [e3]
    clear e3
    clear hB
    go_wp2_with fail
    refine (keyOf_any p _).mono ?_
    rintro e wx ⟨rfl, he⟩
    have := H.out _ he
    clear H
    go_wp2_with fail
    show K _ _
    rw [HFR.out] at this
    obtain u3 := HU.out
    rw [u3] at this
    exact this
  · rintro L A W K hL hC hW ⟨V, rfl, HV, s0⟩ hK
    have hB := s0
    have H := Lib.hid (show ∀ W', Ext W W' → K (fr (upd V 5 (.agg (okc a k)))) W' from fun W' he => hK _ _ ⟨upd V 5 (.agg (okc a k)), rfl, HV.up 5 _ (fun x hx => Option.some.inj hx), FnJ.ext s0 he⟩)
    clear hK hC hW hL HV s0
    rw [HFR.out]
    have HWW := Lib.hid (Cs.rg hB.2.1)
    clear hB
    refine wpList_load_ok rfl (.tmp 2) rfl gk 0 a k rfl HWW.out ?_
    show K _ _
    have := H.out _ (Ext.refl _)
    rw [HFR.out] at this
    exact this
  · rintro L A W K hL hC hW ⟨V, rfl, HV, s0⟩ hK
    have e4 : V 4 = .agg (okc p.addr p.key) := HV 4 _ rfl (hW 4 rfl)
    have e5 : V 5 = .agg (okc a k) := HV 5 _ rfl (hW 5 rfl)
    have hB := s0
    have H := Lib.hid (show ∀ W', Ext W W' → K (fr (upd V 6 (.int .i64 (cmpN p.cod (cdN a k))))) W' from fun W' he => hK _ _ ⟨upd V 6 (.int .i64 (cmpN p.cod (cdN a k))), rfl, HV.up 6 _ (fun x hx => Option.some.inj hx), FnJ.ext s0 he⟩)
    have HU := Lib.hid (show (upd V 6 (.int .i64 (cmpN p.cod (cdN a k)))) 4 = .agg (okc p.addr p.key) ∧ (upd V 6 (.int .i64 (cmpN p.cod (cdN a k)))) 5 = .agg (okc a k) from ⟨e4, e5⟩)
    clear hK hC hW hL HV s0
    rw [HFR.out]
    rw [e4, e5]
    clear e4 e5
    clear hB
    go_wp2_with fail
    refine (compareK_any p.addr p.key a k _ HPK.out HK.out).mono ?_
    rintro e wx ⟨rfl, he⟩
    have := H.out _ he
    clear H
    go_wp2_with fail
    show K _ _
    rw [HFR.out] at this
    obtain ⟨u4, u5⟩ := HU.out
    rw [u4, u5] at this
    exact this
  · rintro L A W K hL hC hW ⟨V, rfl, HV, s0⟩ hK
    have e6 : V 6 = .int .i64 (cmpN p.cod (cdN a k)) := HV 6 _ rfl (hW 6 rfl)
    have H := Lib.hid (show ∀ W', Ext W W' → K (fr (upd V 7 (.bool (decide (cdN a k ≤ p.cod))))) W' from fun W' he => hK _ _ ⟨upd V 7 (.bool (decide (cdN a k ≤ p.cod))), rfl, HV.up 7 _ (fun x hx => Option.some.inj hx), FnJ.ext s0 he⟩)
    have HU := Lib.hid (show (upd V 7 (.bool (decide (cdN a k ≤ p.cod)))) 6 = .int .i64 (cmpN p.cod (cdN a k)) from e6)
    clear hK hC hW hL HV s0
    rw [HFR.out]
    rw [e6]
    clear e6
    go_wp2_with fail
    rw [HGE.out]
    show K _ _
    have := H.out _ (Ext.refl _)
    rw [HFR.out] at this
    obtain u6 := HU.out
    rw [u6] at this
    exact this
  · rintro L A W K hL hC hW ⟨V, rfl, HV, s0⟩ hK
    have e7 : V 7 = .bool (decide (cdN a k ≤ p.cod)) := HV 7 _ rfl (hW 7 rfl)
    have H := Lib.hid (show ∀ W', Ext W W' → K (fr (upd V 8 (.bool (decide (cdN a k ≤ p.cod))))) W' from fun W' he => hK _ _ ⟨upd V 8 (.bool (decide (cdN a k ≤ p.cod))), rfl, HV.up 8 _ (fun x hx => Option.some.inj hx), FnJ.ext s0 he⟩)
    have HU := Lib.hid (show (upd V 8 (.bool (decide (cdN a k ≤ p.cod)))) 7 = .bool (decide (cdN a k ≤ p.cod)) from e7)
    clear hK hC hW hL HV s0
    rw [HFR.out]
    rw [e7]
    clear e7
    go_wp2_with fail
    show K _ _
    have := H.out _ (Ext.refl _)
    rw [HFR.out] at this
    obtain u7 := HU.out
    rw [u7] at this
    exact this
  · rintro L A W hL ⟨V, rfl, HV, s0⟩
    have e0 : V 0 = .slice (some ⟨bb, oo, none⟩) l.length c := HV 0 _ rfl (hL 0 (by simp))
    have e1 : V 1 = .int .i64 (i : Nat) := HV 1 _ rfl (hL 1 (by simp))
    have e2 : V 2 = .pointer (some ⟨bb, oo + i * 6, none⟩) := HV 2 _ rfl (hL 2 (by simp))
    have e3 : V 3 = .agg (nnc p) := HV 3 _ rfl (hL 3 (by simp))
    have e4 : V 4 = .agg (okc p.addr p.key) := HV 4 _ rfl (hL 4 (by simp))
    have e5 : V 5 = .agg (okc a k) := HV 5 _ rfl (hL 5 (by simp))
    have e6 : V 6 = .int .i64 (cmpN p.cod (cdN a k)) := HV 6 _ rfl (hL 6 (by simp))
    have e7 : V 7 = .bool (decide (cdN a k ≤ p.cod)) := HV 7 _ rfl (hL 7 (by simp))
    have e8 : V 8 = .bool (decide (cdN a k ≤ p.cod)) := HV 8 _ rfl (hL 8 (by simp))
    have hA := s0
    rw [HFR.out]
    rw [e0, e1, e2, e3, e4, e5, e6, e7, e8]
    clear hL HV HFR e0 e1 e2 e3 e4 e5 e6 e7 e8 s0
    go_wp2_with fail
    refine bodyPost_ret (results_tmp rfl _ _ _) rfl ?_
    exact ⟨rfl, hA.2.2⟩
set_option maxRecDepth 100000 in
set_option maxHeartbeats 4000000 in
theorem searchN_any (gs gk a k : Nat) (sv : Value) (l : List Nn) (w : World) (hgs : Cs w gs 22 #[sv]) (hga : Kb w gk a k) (hk : k < M256) (hs : Nns w sv l) (hr : RiseN l) (hl : l.length ≤ 100000) :
    Calls Try.prog 90 #[.int .i64 (l.length : Nat), .func (.func 91) #[] #[.pointer (some ⟨gs, 0, none⟩), .pointer (some ⟨gk, 0, none⟩)]] w fun e w' => e = .returned (.int .i64 (posN l (cdN a k) : Nat)) ∧ Ext w w' := by
  have HGS := Lib.hid hgs
  have HGA := Lib.hid hga
  have HK := Lib.hid hk
  have HS := Lib.hid hs
  have HPL := Lib.hid (posN_lt l (cdN a k) hr)
  have HPO := Lib.hid (posN_le l (cdN a k))
  clear hgs hga hs hr hk
  go_enter Try.func90, Try.ntmps90
  go_wp2_with fail
  go_loopw [5, 6] (fun iv jv wr => ∃ i j : Nat, i ≤ posN l (cdN a k) ∧ posN l (cdN a k) ≤ j ∧ j ≤ l.length ∧ iv = .int .i64 i ∧ jv = .int .i64 j ∧ Hid (Ext w wr)) (fun iv jv _ => (intOf jv).toNat - (intOf iv).toNat)
  case atStart => exact ⟨0, l.length, Nat.zero_le _, HPO.out, Nat.le_refl _, rfl, rfl, Lib.hid (Ext.refl _)⟩
  case round =>
    obtain ⟨i, j, hi, hj, hjl, rfl, rfl, HE⟩ := hrel
    by_cases hlt : i < j
    · have hd : decide (i < j) = true := decide_eq_true hlt
      have hd2 : decide ((i : Int) < (j : Int)) = true := decide_eq_true (by omega)
      obtain ⟨h, hh⟩ : ∃ h, (i + j) / 2 = h := ⟨_, rfl⟩
      have hhl : h < l.length := by omega
      have HH := Lib.hid (show i ≤ h ∧ h < j ∧ (((i : Int) + (j : Int)) / 2 = ((h : Nat) : Int)) by omega)
      have HPH := Lib.hid (HPL.out h hhl)
      clear hh
      go_upto_region 4 with fail
      rw [HH.out.2.2]
      go_wp2_with fail
      refine (find1N_any gs gk h a k sv l _ (Cs.ext HGS.out HE.out) (HGA.out.ext HE.out) HK.out (HS.out.ext HE.out) hhl hl).mono ?_
      rintro e w2 ⟨rfl, he⟩
      have HE2 := Lib.hid (HE.out.trans he)
      clear he
      by_cases hx : h < posN l (cdN a k)
      · have e1 : decide (cdN a k ≤ (l.getD h nz0).cod) = false := decide_eq_false (by have := HPH.out.2 hx; omega)
        rw [e1]
        clear e1
        go_wp2_with fail
        refine ⟨⟨h + 1, j, by omega, hj, hjl, by go_num, rfl, HE2⟩, by simp [intOf]; have := HH.out; omega⟩
      · have e1 : decide (cdN a k ≤ (l.getD h nz0).cod) = true := decide_eq_true (by rcases Nat.lt_or_ge (l.getD h nz0).cod (cdN a k) with hq | hq; exact absurd (HPH.out.1 hq) hx; exact hq)
        rw [e1]
        clear e1
        go_wp2_with fail
        refine ⟨⟨i, h, hi, by omega, by omega, rfl, by go_num, HE2⟩, by simp [intOf]; have := HH.out; omega⟩
    · obtain rfl : i = posN l (cdN a k) := by omega
      have hd : decide (posN l (cdN a k) < j) = false := decide_eq_false hlt
      have hd2 : decide ((posN l (cdN a k) : Int) < (j : Int)) = false := decide_eq_false (by omega)
      go_wp2_with fail
      refine bodyPost_ret (results_tmp rfl _ _ _) rfl ?_
      exact ⟨rfl, HE.out⟩
set_option maxRecDepth 100000 in
theorem results_nn3 {fn : Func} {q r s : Tmp} (h : fn.results = #[.cell q 38, .tmp r, .tmp s]) (tmps : Array Value) (w : World) (g : Nat) (p : Nn) (hp : tmps.getD q undef = .pointer (some ⟨g, 0, none⟩)) (hg : Nb6 w g p) : (results fn tmps).run Try.prog w = .ok (.tuple #[.agg (nnc p), tmps.getD r undef, tmps.getD s undef]) w := by
  have hp' : tmps[q]?.getD undef = .pointer (some ⟨g, 0, none⟩) := by simpa using hp
  simp [results, h, hp', asAddr, run_loadVar_row w g 38 38 (nnc p) (0, 0) _ hg Try.underlying38 rfl nninfo]
/-- find's answer. -/
def fnV (l : List Nn) (a k : Nat) : Value := .tuple #[.agg (nnc (rowN l a k)), .int .i64 (posN l (cdN a k) : Nat), .bool (hasN l (cdN a k))]
set_option maxRecDepth 100000 in
set_option maxHeartbeats 4000000 in
theorem findN_any (sv : Value) (l : List Nn) (a k : Nat) (w : World) (hs : Nns w sv l) (hr : RiseN l) (hl : l.length ≤ 100000) (hk : k < M256) :
    Calls Try.prog 44 #[sv, .agg (okc a k)] w fun e w' => e = .returned (fnV l a k) ∧ Ext w w' := by
  have HS := Lib.hid hs
  have HRI := Lib.hid hr
  have HK := Lib.hid hk
  obtain ⟨A1, c, rfl, h1, h2⟩ := hs.len
  have HPO := Lib.hid (posN_le l (cdN a k))
  obtain ⟨w1, hw1⟩ : ∃ w1, ((w.alloc (.cells #[.slice A1 l.length c] 22)).alloc (.cells (okc a k) 102)).alloc (.cells (nnc nz0) 38) = w1 := ⟨_, rfl⟩
  have HW1 := Lib.hid hw1
  have HG2 : Hid (Cs w1 w.heap.size 22 #[.slice A1 l.length c]) := Lib.hid (by rw [← hw1]; exact Cs.alloc (Cs.alloc (Cs.new _ _ _ _ rfl) _) _)
  have HG3 : Hid (Kb w1 (w.heap.size + 1) a k) := Lib.hid (by rw [← hw1]; exact Cs.alloc (Cs.new _ _ _ _ (by rw [World.size_alloc])) _)
  have HG4 : Hid (Nb6 w1 (w.heap.size + 1 + 1) nz0) := Lib.hid (by rw [← hw1]; exact Cs.new _ _ _ _ (by simp))
  have HE : Hid (Ext w w1) := Lib.hid (by rw [← hw1]; exact (((Ext.refl w).alloc _).alloc _).alloc _)
  obtain ⟨oc, hoc⟩ : ∃ oc, okc a k = oc := ⟨_, rfl⟩
  rw [hoc] at HW1
  rw [hoc]
  clear hs hr hw1 hoc hk
  unfold maxLen at h2
  go_enter Try.func44, Try.ntmps44
  go_upto_region 1 with fail
  rw [show ((w.alloc (.cells #[.slice A1 l.length c] 22)).alloc (.cells oc 102)).alloc (.cells #[.int .u64 0, .int .u64 0, .int .u64 0, .int .u64 0, .int .u64 0, .int .u64 0] 38) = w1 from HW1.out]
  clear HW1
  obtain ⟨g4, hg4⟩ : ∃ g4, w.heap.size + 1 + 1 = g4 := ⟨_, rfl⟩
  have HLO := Lib.hid (show w.heap.size ≤ g4 by omega)
  rw [hg4] at HG4 ⊢
  clear hg4
  obtain ⟨g3, hg3⟩ : ∃ g3, w.heap.size + 1 = g3 := ⟨_, rfl⟩
  rw [hg3] at HG3 ⊢
  clear hg3
  obtain ⟨g2, hg2⟩ : ∃ g2, w.heap.size = g2 := ⟨_, rfl⟩
  rw [hg2] at HG2 ⊢
  clear hg2
  have q2 := HG2.out.cell 0 _ rfl
  go_wp2_with fail
  refine (searchN_any g2 g3 a k _ l _ HG2.out HG3.out HK.out (HS.out.ext HE.out) HRI.out hl).mono ?_
  rintro e wb ⟨rfl, he⟩
  have HEB := Lib.hid (HE.out.trans he)
  have HJ : Hid (FnJ wb g2 g3 (.slice A1 l.length c) a k wb) := Lib.hid ⟨Cs.ext HG2.out he, HG3.out.ext he, Ext.refl _⟩
  have HZB := Lib.hid (HG4.out.ext he)
  have HHK : Hid (hasN l (cdN a k) = (decide (posN l (cdN a k) < l.length) && decide ((l.getD (posN l (cdN a k)) nz0).cod = cdN a k))) := Lib.hid rfl
  have HRW : Hid (rowN l a k = if hasN l (cdN a k) then l.getD (posN l (cdN a k)) nz0 else ⟨a, k, 0⟩) := Lib.hid rfl
  have HFN : Hid (fnV l a k = .tuple #[.agg (nnc (rowN l a k)), .int .i64 (posN l (cdN a k) : Nat), .bool (hasN l (cdN a k))]) := Lib.hid rfl
  clear he HG2 HG3 HE HG4 q2
  obtain ⟨i, hi⟩ : ∃ i, posN l (cdN a k) = i := ⟨_, rfl⟩
  rw [hi] at HHK HPO HRW HFN ⊢
  clear hi
  have HMISS0 := Lib.hid (fun (hh : hasN l (cdN a k) = false) => show fnV l a k = .tuple #[.agg (nnc ⟨a, k, 0⟩), .int .i64 (i : Nat), .bool false] by rw [HFN.out, HRW.out, hh]; rfl)
  have HHIT0 := Lib.hid (fun (hh : hasN l (cdN a k) = true) => show fnV l a k = .tuple #[.agg (nnc (l.getD i nz0)), .int .i64 (i : Nat), .bool true] by rw [HFN.out, HRW.out, hh]; rfl)
  clear HFN HRW
  go_upto_region 2 with fail
  by_cases hlt : i < l.length
  · have hd : decide (i < l.length) = true := decide_eq_true hlt
    have hd2 : decide ((i : Int) < (l.length : Int)) = true := decide_eq_true (by omega)
    obtain ⟨bb, oo, rfl, hrg, hpo⟩ := (HS.out.ext HEB.out).at i hlt
    have HR := Lib.hid hrg
    have HPK := Lib.hid hpo.2.1
    clear hrg hpo
    generalize l.getD i nz0 = p at *
    have HSAM := Lib.hid (show (p.addr == a && p.key == k) = hasN l (cdN a k) by
      rw [HHK.out, hd, Bool.true_and, Bool.eq_iff_iff, Bool.and_eq_true, beq_iff_eq, beq_iff_eq, decide_eq_true_eq]
      constructor
      · rintro ⟨rfl, rfl⟩; rfl
      · intro h; exact cdN_inj HPK.out HK.out h)
    refine wp_named fun a0 ha0 => ?_
    obtain ⟨fr, hfr⟩ : ∃ fr : (Nat → Value) → Act, ∀ V, fr V = (((((((((((((a0.put (some 12) (V 0)).put (some 13) (V 1)).put (some 14) (V 2)).put (some 15) (V 3)).put (some 16) (V 4)).put (some 17) (V 5)).put (some 18) (V 6)).put (some 19) (V 7)).put (some 20) (V 8)).put (some 21) (V 9)).put (some 22) (V 10)).put (some 23) (V 11)).put (some 24) (V 12)) := ⟨fun V => (((((((((((((a0.put (some 12) (V 0)).put (some 13) (V 1)).put (some 14) (V 2)).put (some 15) (V 3)).put (some 16) (V 4)).put (some 17) (V 5)).put (some 18) (V 6)).put (some 19) (V 7)).put (some 20) (V 8)).put (some 21) (V 9)).put (some 22) (V 10)).put (some 23) (V 11)).put (some 24) (V 12)), fun _ => rfl⟩
    rw [ha0] at hfr
    simp only [Act.put, List.setIfInBounds_toArray, List.set_cons_zero, List.set_cons_succ] at hfr
    have HFR := Lib.hid hfr
    clear hfr
    refine wp_region_inv (by kernel_rfl) (by kernel_rfl) (fun L A W => ∃ V : Nat → Value, A = fr V ∧ Vals (fun j => ([some (.int .i64 (i : Nat)), some (.slice (some ⟨bb, oo, none⟩) l.length c), some (.int .i64 (l.length : Nat)), some (.bool true), some (.bool true), some (.slice (some ⟨bb, oo, none⟩) l.length c), some (.int .i64 (i : Nat)), some (.pointer (some ⟨bb, oo + i * 6, none⟩)), some (.agg (nnc p)), some (.agg (okc p.addr p.key)), some (.agg (okc a k)), some (.bool (p.addr == a && p.key == k)), some (.bool (p.addr == a && p.key == k))] : List (Option Value)).getD j none) L V ∧ (FnJ wb g2 g3 (.slice (some ⟨bb, oo, none⟩) l.length c) a k W)) ?_ ⟨?_, ?_, ?_, ?_, ?_, ?_, ?_, ?_, ?_, ?_, ?_, ?_, ?_, trivial⟩ ?_
    · refine ⟨fun j => a0.tmps.getD (([12, 13, 14, 15, 16, 17, 18, 19, 20, 21, 22, 23, 24] : List Nat).getD j 0) undef, ?_, Vals.no _ _ _ (far_none _ _ rfl), HJ.out.ext ((Ext.refl _).drew)⟩
      rw [HFR.out, ha0]
      rfl
    all_goals clear ha0
    · rintro L A W K hL hC hW ⟨V, rfl, HV, s0⟩ hK
      have H := Lib.hid (show ∀ W', Ext W W' → K (fr (upd V 0 (.int .i64 (i : Nat)))) W' from fun W' he => hK _ _ ⟨upd V 0 (.int .i64 (i : Nat)), rfl, HV.up 0 _ (fun x hx => Option.some.inj hx), FnJ.ext s0 he⟩)
      clear hK hC hW hL HV s0
      rw [HFR.out]
      go_wp2_with fail
      show K _ _
      have := H.out _ (Ext.refl _)
      rw [HFR.out] at this
      exact this
    · rintro L A W K hL hC hW ⟨V, rfl, HV, s0⟩ hK
      have hB := s0
      have H := Lib.hid (show ∀ W', Ext W W' → K (fr (upd V 1 (.slice (some ⟨bb, oo, none⟩) l.length c))) W' from fun W' he => hK _ _ ⟨upd V 1 (.slice (some ⟨bb, oo, none⟩) l.length c), rfl, HV.up 1 _ (fun x hx => Option.some.inj hx), FnJ.ext s0 he⟩)
      clear hK hC hW hL HV s0
      rw [HFR.out]
      have qq := hB.1.cell 0 _ rfl
      clear hB
      go_wp2_with fail
      show K _ _
      have := H.out _ (Ext.refl _)
      rw [HFR.out] at this
      exact this
    · rintro L A W K hL hC hW ⟨V, rfl, HV, s0⟩ hK
      have e1 : V 1 = .slice (some ⟨bb, oo, none⟩) l.length c := HV 1 _ rfl (hW 1 rfl)
      have H := Lib.hid (show ∀ W', Ext W W' → K (fr (upd V 2 (.int .i64 (l.length : Nat)))) W' from fun W' he => hK _ _ ⟨upd V 2 (.int .i64 (l.length : Nat)), rfl, HV.up 2 _ (fun x hx => Option.some.inj hx), FnJ.ext s0 he⟩)
      have HU := Lib.hid (show (upd V 2 (.int .i64 (l.length : Nat))) 1 = .slice (some ⟨bb, oo, none⟩) l.length c from e1)
      clear hK hC hW hL HV s0
      rw [HFR.out]
      rw [e1]
      clear e1
      go_wp2_with fail
      show K _ _
      have := H.out _ (Ext.refl _)
      rw [HFR.out] at this
      obtain u1 := HU.out
      rw [u1] at this
      exact this
    · rintro L A W K hL hC hW ⟨V, rfl, HV, s0⟩ hK
      have e0 : V 0 = .int .i64 (i : Nat) := HV 0 _ rfl (hW 0 rfl)
      have e2 : V 2 = .int .i64 (l.length : Nat) := HV 2 _ rfl (hW 2 rfl)
      have H := Lib.hid (show ∀ W', Ext W W' → K (fr (upd V 3 (.bool true))) W' from fun W' he => hK _ _ ⟨upd V 3 (.bool true), rfl, HV.up 3 _ (fun x hx => Option.some.inj hx), FnJ.ext s0 he⟩)
      have HU := Lib.hid (show (upd V 3 (.bool true)) 0 = .int .i64 (i : Nat) ∧ (upd V 3 (.bool true)) 2 = .int .i64 (l.length : Nat) from ⟨e0, e2⟩)
      clear hK hC hW hL HV s0
      rw [HFR.out]
      rw [e0, e2]
      clear e0 e2
      go_wp2_with fail
      show K _ _
      have := H.out _ (Ext.refl _)
      rw [HFR.out] at this
      obtain ⟨u0, u2⟩ := HU.out
      rw [u0, u2] at this
      exact this
    · rintro L A W K hL hC hW ⟨V, rfl, HV, s0⟩ hK
      have e3 : V 3 = .bool true := HV 3 _ rfl (hW 3 rfl)
      have H := Lib.hid (show ∀ W', Ext W W' → K (fr (upd V 4 (.bool true))) W' from fun W' he => hK _ _ ⟨upd V 4 (.bool true), rfl, HV.up 4 _ (fun x hx => Option.some.inj hx), FnJ.ext s0 he⟩)
      have HU := Lib.hid (show (upd V 4 (.bool true)) 3 = .bool true from e3)
      clear hK hC hW hL HV s0
      rw [HFR.out]
      rw [e3]
      clear e3
      go_wp2_with fail
      show K _ _
      have := H.out _ (Ext.refl _)
      rw [HFR.out] at this
      obtain u3 := HU.out
      rw [u3] at this
      exact this
    · rintro L A W K hL hC hW ⟨V, rfl, HV, s0⟩ hK
      have e4 : V 4 = .bool true := HV 4 _ rfl (hW 4 rfl)
      have hB := s0
      have H := Lib.hid (show ∀ W', Ext W W' → K (fr (upd V 5 (.slice (some ⟨bb, oo, none⟩) l.length c))) W' from fun W' he => hK _ _ ⟨upd V 5 (.slice (some ⟨bb, oo, none⟩) l.length c), rfl, HV.up 5 _ (fun x hx => Option.some.inj hx), FnJ.ext s0 he⟩)
      have HU := Lib.hid (show (upd V 5 (.slice (some ⟨bb, oo, none⟩) l.length c)) 4 = .bool true from e4)
      clear hK hC hW hL HV s0
      rw [HFR.out]
      rw [e4]
      clear e4
      have qq := hB.1.cell 0 _ rfl
      clear hB
      go_wp2_with fail
      show K _ _
      have := H.out _ (Ext.refl _)
      rw [HFR.out] at this
      obtain u4 := HU.out
      rw [u4] at this
      exact this
    · rintro L A W K hL hC hW ⟨V, rfl, HV, s0⟩ hK
      have e4 : V 4 = .bool true := HV 4 _ rfl (hW 4 rfl)
      have H := Lib.hid (show ∀ W', Ext W W' → K (fr (upd V 6 (.int .i64 (i : Nat)))) W' from fun W' he => hK _ _ ⟨upd V 6 (.int .i64 (i : Nat)), rfl, HV.up 6 _ (fun x hx => Option.some.inj hx), FnJ.ext s0 he⟩)
      have HU := Lib.hid (show (upd V 6 (.int .i64 (i : Nat))) 4 = .bool true from e4)
      clear hK hC hW hL HV s0
      rw [HFR.out]
      rw [e4]
      clear e4
      go_wp2_with fail
      show K _ _
      have := H.out _ (Ext.refl _)
      rw [HFR.out] at this
      obtain u4 := HU.out
      rw [u4] at this
      exact this
    · rintro L A W K hL hC hW ⟨V, rfl, HV, s0⟩ hK
      have e4 : V 4 = .bool true := HV 4 _ rfl (hW 4 rfl)
      have e5 : V 5 = .slice (some ⟨bb, oo, none⟩) l.length c := HV 5 _ rfl (hW 5 rfl)
      have e6 : V 6 = .int .i64 (i : Nat) := HV 6 _ rfl (hW 6 rfl)
      have H := Lib.hid (show ∀ W', Ext W W' → K (fr (upd V 7 (.pointer (some ⟨bb, oo + i * 6, none⟩)))) W' from fun W' he => hK _ _ ⟨upd V 7 (.pointer (some ⟨bb, oo + i * 6, none⟩)), rfl, HV.up 7 _ (fun x hx => Option.some.inj hx), FnJ.ext s0 he⟩)
      have HU := Lib.hid (show (upd V 7 (.pointer (some ⟨bb, oo + i * 6, none⟩))) 4 = .bool true ∧ (upd V 7 (.pointer (some ⟨bb, oo + i * 6, none⟩))) 5 = .slice (some ⟨bb, oo, none⟩) l.length c ∧ (upd V 7 (.pointer (some ⟨bb, oo + i * 6, none⟩))) 6 = .int .i64 (i : Nat) from ⟨e4, e5, e6⟩)
      clear hK hC hW hL HV s0
      rw [HFR.out]
      rw [e4, e5, e6]
      clear e4 e5 e6
      go_wp2_with fail
      show K _ _
      have := H.out _ (Ext.refl _)
      rw [HFR.out] at this
      obtain ⟨u4, u5, u6⟩ := HU.out
      rw [u4, u5, u6] at this
      exact this
    · rintro L A W K hL hC hW ⟨V, rfl, HV, s0⟩ hK
      have e4 : V 4 = .bool true := HV 4 _ rfl (hW 4 rfl)
      have e7 : V 7 = .pointer (some ⟨bb, oo + i * 6, none⟩) := HV 7 _ rfl (hW 7 rfl)
      have hB := s0
      have H := Lib.hid (show ∀ W', Ext W W' → K (fr (upd V 8 (.agg (nnc p)))) W' from fun W' he => hK _ _ ⟨upd V 8 (.agg (nnc p)), rfl, HV.up 8 _ (fun x hx => Option.some.inj hx), FnJ.ext s0 he⟩)
      have HU := Lib.hid (show (upd V 8 (.agg (nnc p))) 4 = .bool true ∧ (upd V 8 (.agg (nnc p))) 7 = .pointer (some ⟨bb, oo + i * 6, none⟩) from ⟨e4, e7⟩)
      clear hK hC hW hL HV s0
      rw [HFR.out]
      rw [e4, e7]
      clear e4 e7
      have HWW := Lib.hid (fun (y : Nat) (x : Value) (hx : (nnc p).toList[y]? = some x) => hB.2.2.cell (HR.out y x hx))
      clear hB
      refine wpList_load_nn rfl (.tmp 19) rfl bb (oo + i * 6) p rfl HWW.out ?_
      show K _ _
      have := H.out _ (Ext.refl _)
      rw [HFR.out] at this
      obtain ⟨u4, u7⟩ := HU.out
      rw [u4, u7] at this
      exact this
    · rintro L A W K hL hC hW ⟨V, rfl, HV, s0⟩ hK
      have e4 : V 4 = .bool true := HV 4 _ rfl (hW 4 rfl)
      have e8 : V 8 = .agg (nnc p) := HV 8 _ rfl (hW 8 rfl)
      have hB := s0
      have H := Lib.hid (show ∀ W', Ext W W' → K (fr (upd V 9 (.agg (okc p.addr p.key)))) W' from fun W' he => hK _ _ ⟨upd V 9 (.agg (okc p.addr p.key)), rfl, HV.up 9 _ (fun x hx => Option.some.inj hx), FnJ.ext s0 he⟩)
      have HU := Lib.hid (show (upd V 9 (.agg (okc p.addr p.key))) 4 = .bool true ∧ (upd V 9 (.agg (okc p.addr p.key))) 8 = .agg (nnc p) from ⟨e4, e8⟩)
      clear hK hC hW hL HV s0
      rw [HFR.out]
      rw [e4, e8]
      clear e4 e8
      clear hB
      go_wp2_with fail
      refine (keyOf_any p _).mono ?_
      rintro e wx ⟨rfl, he⟩
      have := H.out _ he
      clear H
      go_wp2_with fail
      show K _ _
      rw [HFR.out] at this
      obtain ⟨u4, u8⟩ := HU.out
      rw [u4, u8] at this
      exact this
    · rintro L A W K hL hC hW ⟨V, rfl, HV, s0⟩ hK
      have e4 : V 4 = .bool true := HV 4 _ rfl (hW 4 rfl)
      have hB := s0
      have H := Lib.hid (show ∀ W', Ext W W' → K (fr (upd V 10 (.agg (okc a k)))) W' from fun W' he => hK _ _ ⟨upd V 10 (.agg (okc a k)), rfl, HV.up 10 _ (fun x hx => Option.some.inj hx), FnJ.ext s0 he⟩)
      have HU := Lib.hid (show (upd V 10 (.agg (okc a k))) 4 = .bool true from e4)
      clear hK hC hW hL HV s0
      rw [HFR.out]
      rw [e4]
      clear e4
      have HWW := Lib.hid (Cs.rg hB.2.1)
      clear hB
      refine wpList_load_ok rfl (.tmp 3) rfl g3 0 a k rfl HWW.out ?_
      show K _ _
      have := H.out _ (Ext.refl _)
      rw [HFR.out] at this
      obtain u4 := HU.out
      rw [u4] at this
      exact this
    · rintro L A W K hL hC hW ⟨V, rfl, HV, s0⟩ hK
      have e4 : V 4 = .bool true := HV 4 _ rfl (hW 4 rfl)
      have e9 : V 9 = .agg (okc p.addr p.key) := HV 9 _ rfl (hW 9 rfl)
      have e10 : V 10 = .agg (okc a k) := HV 10 _ rfl (hW 10 rfl)
      have hB := s0
      have H := Lib.hid (show ∀ W', Ext W W' → K (fr (upd V 11 (.bool (p.addr == a && p.key == k)))) W' from fun W' he => hK _ _ ⟨upd V 11 (.bool (p.addr == a && p.key == k)), rfl, HV.up 11 _ (fun x hx => Option.some.inj hx), FnJ.ext s0 he⟩)
      have HU := Lib.hid (show (upd V 11 (.bool (p.addr == a && p.key == k))) 4 = .bool true ∧ (upd V 11 (.bool (p.addr == a && p.key == k))) 9 = .agg (okc p.addr p.key) ∧ (upd V 11 (.bool (p.addr == a && p.key == k))) 10 = .agg (okc a k) from ⟨e4, e9, e10⟩)
      clear hK hC hW hL HV s0
      rw [HFR.out]
      rw [e4, e9, e10]
      clear e4 e9 e10
      clear hB
      refine wpList_eql_ok rfl (.tmp 21) (.tmp 22) rfl p.addr p.key a k HPK.out HK.out rfl rfl ?_
      show K _ _
      have := H.out _ (Ext.refl _)
      rw [HFR.out] at this
      obtain ⟨u4, u9, u10⟩ := HU.out
      rw [u4, u9, u10] at this
      exact this
    · rintro L A W K hL hC hW ⟨V, rfl, HV, s0⟩ hK
      have e4 : V 4 = .bool true := HV 4 _ rfl (hW 4 rfl)
      have e11 : V 11 = .bool (p.addr == a && p.key == k) := HV 11 _ rfl (hW 11 rfl)
      have H := Lib.hid (show ∀ W', Ext W W' → K (fr (upd V 12 (.bool (p.addr == a && p.key == k)))) W' from fun W' he => hK _ _ ⟨upd V 12 (.bool (p.addr == a && p.key == k)), rfl, HV.up 12 _ (fun x hx => Option.some.inj hx), FnJ.ext s0 he⟩)
      have HU := Lib.hid (show (upd V 12 (.bool (p.addr == a && p.key == k))) 4 = .bool true ∧ (upd V 12 (.bool (p.addr == a && p.key == k))) 11 = .bool (p.addr == a && p.key == k) from ⟨e4, e11⟩)
      clear hK hC hW hL HV s0
      rw [HFR.out]
      rw [e4, e11]
      clear e4 e11
      go_wp2_with fail
      show K _ _
      have := H.out _ (Ext.refl _)
      rw [HFR.out] at this
      obtain ⟨u4, u11⟩ := HU.out
      rw [u4, u11] at this
      exact this
    · rintro L A W hL ⟨V, rfl, HV, s0⟩
      have e0 : V 0 = .int .i64 (i : Nat) := HV 0 _ rfl (hL 0 (by simp))
      have e1 : V 1 = .slice (some ⟨bb, oo, none⟩) l.length c := HV 1 _ rfl (hL 1 (by simp))
      have e2 : V 2 = .int .i64 (l.length : Nat) := HV 2 _ rfl (hL 2 (by simp))
      have e3 : V 3 = .bool true := HV 3 _ rfl (hL 3 (by simp))
      have e4 : V 4 = .bool true := HV 4 _ rfl (hL 4 (by simp))
      have e5 : V 5 = .slice (some ⟨bb, oo, none⟩) l.length c := HV 5 _ rfl (hL 5 (by simp))
      have e6 : V 6 = .int .i64 (i : Nat) := HV 6 _ rfl (hL 6 (by simp))
      have e7 : V 7 = .pointer (some ⟨bb, oo + i * 6, none⟩) := HV 7 _ rfl (hL 7 (by simp))
      have e8 : V 8 = .agg (nnc p) := HV 8 _ rfl (hL 8 (by simp))
      have e9 : V 9 = .agg (okc p.addr p.key) := HV 9 _ rfl (hL 9 (by simp))
      have e10 : V 10 = .agg (okc a k) := HV 10 _ rfl (hL 10 (by simp))
      have e11 : V 11 = .bool (p.addr == a && p.key == k) := HV 11 _ rfl (hL 11 (by simp))
      have e12 : V 12 = .bool (p.addr == a && p.key == k) := HV 12 _ rfl (hL 12 (by simp))
      have hA := s0
      rw [HFR.out]
      rw [e0, e1, e2, e3, e4, e5, e6, e7, e8, e9, e10, e11, e12]
      clear hL HV HFR e0 e1 e2 e3 e4 e5 e6 e7 e8 e9 e10 e11 e12 s0
      have HRH := Lib.hid (fun (y : Nat) (x : Value) (hx : (nnc p).toList[y]? = some x) => hA.2.2.cell (HR.out y x hx))
      have HXW := Lib.hid (HEB.out.trans hA.2.2)
      have HZ4 := Lib.hid (HZB.out.ext hA.2.2)
      have HKW := Lib.hid hA.2.1.key
      have q31 := hA.2.1.addr
      have q25 := hA.1.cell 0 _ rfl
      clear hA
      cases hh : (p.addr == a && p.key == k) with
      | false =>
        have HMISS := Lib.hid (HMISS0.out (by rw [← HSAM.out]; exact hh))
        clear hh
        go_wp2_with (first
          | ((with_reducible refine wpList_load_wordIn ?_ (.tmp 32) ?_ g3 1 k ?_ ?_ ?_); (exact rfl); (exact rfl); (exact rfl); (exact HKW.out); (unfold wv wc))
          | ((with_reducible refine wpList_store_nn ?_ ?_ (.tmp 4) (.tmp 34) ?_ g4 nz0 ⟨a, k, 0⟩ ?_ ?_ ?_ ?_); (exact rfl); (exact rfl); (exact rfl); (exact rfl); (exact rfl); (exact HZ4.out); intro w9 k9 g9; have K9 := Lib.hid k9; have G9 := Lib.hid g9; clear k9 g9))
        refine bodyPost_ret (results_nn3 Try.results44 _ _ g4 ⟨a, k, 0⟩ rfl K9.out) rfl ?_
        exact ⟨by rw [HMISS.out]; rfl, HXW.out.grown G9.out HLO.out⟩
      | true =>
        have HHIT := Lib.hid (HHIT0.out (by rw [← HSAM.out]; exact hh))
        clear hh
        go_wp2_with (first
          | ((with_reducible refine wpList_load_nn ?_ (.tmp 27) ?_ bb (oo + i * 6) p ?_ ?_ ?_); (exact rfl); (exact rfl); (exact rfl); (exact HRH.out))
          | ((with_reducible refine wpList_store_nn ?_ ?_ (.tmp 4) (.tmp 28) ?_ g4 nz0 p ?_ ?_ ?_ ?_); (exact rfl); (exact rfl); (exact rfl); (exact rfl); (exact rfl); (exact HZ4.out); intro w9 k9 g9; have K9 := Lib.hid k9; have G9 := Lib.hid g9; clear k9 g9))
        refine bodyPost_ret (results_nn3 Try.results44 _ _ g4 p rfl K9.out) rfl ?_
        exact ⟨by rw [HHIT.out]; rfl, HXW.out.grown G9.out HLO.out⟩
  · have hd : decide (i < l.length) = false := decide_eq_false hlt
    have hd2 : decide ((i : Int) < (l.length : Int)) = false := decide_eq_false (by omega)
    have HMISS := Lib.hid (HMISS0.out (by rw [HHK.out, hd]; rfl))
    refine wp_named fun a0 ha0 => ?_
    obtain ⟨fr, hfr⟩ : ∃ fr : (Nat → Value) → Act, ∀ V, fr V = (((((((((((((a0.put (some 12) (V 0)).put (some 13) (V 1)).put (some 14) (V 2)).put (some 15) (V 3)).put (some 16) (V 4)).put (some 17) (V 5)).put (some 18) (V 6)).put (some 19) (V 7)).put (some 20) (V 8)).put (some 21) (V 9)).put (some 22) (V 10)).put (some 23) (V 11)).put (some 24) (V 12)) := ⟨fun V => (((((((((((((a0.put (some 12) (V 0)).put (some 13) (V 1)).put (some 14) (V 2)).put (some 15) (V 3)).put (some 16) (V 4)).put (some 17) (V 5)).put (some 18) (V 6)).put (some 19) (V 7)).put (some 20) (V 8)).put (some 21) (V 9)).put (some 22) (V 10)).put (some 23) (V 11)).put (some 24) (V 12)), fun _ => rfl⟩
    rw [ha0] at hfr
    simp only [Act.put, List.setIfInBounds_toArray, List.set_cons_zero, List.set_cons_succ] at hfr
    have HFR := Lib.hid hfr
    clear hfr
    refine wp_region_inv (by kernel_rfl) (by kernel_rfl) (fun L A W => ∃ V : Nat → Value, A = fr V ∧ Vals (fun j => ([some (.int .i64 (i : Nat)), some (.slice A1 l.length c), some (.int .i64 (l.length : Nat)), some (.bool false), some (.bool false), some (undef), some (undef), some (undef), some (undef), some (undef), some (undef), some (undef), some (.bool false)] : List (Option Value)).getD j none) L V ∧ (FnJ wb g2 g3 (.slice A1 l.length c) a k W)) ?_ ⟨?_, ?_, ?_, ?_, ?_, ?_, ?_, ?_, ?_, ?_, ?_, ?_, ?_, trivial⟩ ?_
    · refine ⟨fun j => a0.tmps.getD (([12, 13, 14, 15, 16, 17, 18, 19, 20, 21, 22, 23, 24] : List Nat).getD j 0) undef, ?_, Vals.no _ _ _ (far_none _ _ rfl), HJ.out.ext ((Ext.refl _).drew)⟩
      rw [HFR.out, ha0]
      rfl
    all_goals clear ha0
    · rintro L A W K hL hC hW ⟨V, rfl, HV, s0⟩ hK
      have H := Lib.hid (show ∀ W', Ext W W' → K (fr (upd V 0 (.int .i64 (i : Nat)))) W' from fun W' he => hK _ _ ⟨upd V 0 (.int .i64 (i : Nat)), rfl, HV.up 0 _ (fun x hx => Option.some.inj hx), FnJ.ext s0 he⟩)
      clear hK hC hW hL HV s0
      rw [HFR.out]
      go_wp2_with fail
      show K _ _
      have := H.out _ (Ext.refl _)
      rw [HFR.out] at this
      exact this
    · rintro L A W K hL hC hW ⟨V, rfl, HV, s0⟩ hK
      have hB := s0
      have H := Lib.hid (show ∀ W', Ext W W' → K (fr (upd V 1 (.slice A1 l.length c))) W' from fun W' he => hK _ _ ⟨upd V 1 (.slice A1 l.length c), rfl, HV.up 1 _ (fun x hx => Option.some.inj hx), FnJ.ext s0 he⟩)
      clear hK hC hW hL HV s0
      rw [HFR.out]
      have qq := hB.1.cell 0 _ rfl
      clear hB
      go_wp2_with fail
      show K _ _
      have := H.out _ (Ext.refl _)
      rw [HFR.out] at this
      exact this
    · rintro L A W K hL hC hW ⟨V, rfl, HV, s0⟩ hK
      have e1 : V 1 = .slice A1 l.length c := HV 1 _ rfl (hW 1 rfl)
      have H := Lib.hid (show ∀ W', Ext W W' → K (fr (upd V 2 (.int .i64 (l.length : Nat)))) W' from fun W' he => hK _ _ ⟨upd V 2 (.int .i64 (l.length : Nat)), rfl, HV.up 2 _ (fun x hx => Option.some.inj hx), FnJ.ext s0 he⟩)
      have HU := Lib.hid (show (upd V 2 (.int .i64 (l.length : Nat))) 1 = .slice A1 l.length c from e1)
      clear hK hC hW hL HV s0
      rw [HFR.out]
      rw [e1]
      clear e1
      go_wp2_with fail
      show K _ _
      have := H.out _ (Ext.refl _)
      rw [HFR.out] at this
      obtain u1 := HU.out
      rw [u1] at this
      exact this
    · rintro L A W K hL hC hW ⟨V, rfl, HV, s0⟩ hK
      have e0 : V 0 = .int .i64 (i : Nat) := HV 0 _ rfl (hW 0 rfl)
      have e2 : V 2 = .int .i64 (l.length : Nat) := HV 2 _ rfl (hW 2 rfl)
      have H := Lib.hid (show ∀ W', Ext W W' → K (fr (upd V 3 (.bool false))) W' from fun W' he => hK _ _ ⟨upd V 3 (.bool false), rfl, HV.up 3 _ (fun x hx => Option.some.inj hx), FnJ.ext s0 he⟩)
      have HU := Lib.hid (show (upd V 3 (.bool false)) 0 = .int .i64 (i : Nat) ∧ (upd V 3 (.bool false)) 2 = .int .i64 (l.length : Nat) from ⟨e0, e2⟩)
      clear hK hC hW hL HV s0
      rw [HFR.out]
      rw [e0, e2]
      clear e0 e2
      go_wp2_with fail
      show K _ _
      have := H.out _ (Ext.refl _)
      rw [HFR.out] at this
      obtain ⟨u0, u2⟩ := HU.out
      rw [u0, u2] at this
      exact this
    · rintro L A W K hL hC hW ⟨V, rfl, HV, s0⟩ hK
      have e3 : V 3 = .bool false := HV 3 _ rfl (hW 3 rfl)
      have H := Lib.hid (show ∀ W', Ext W W' → K (fr (upd V 4 (.bool false))) W' from fun W' he => hK _ _ ⟨upd V 4 (.bool false), rfl, HV.up 4 _ (fun x hx => Option.some.inj hx), FnJ.ext s0 he⟩)
      have HU := Lib.hid (show (upd V 4 (.bool false)) 3 = .bool false from e3)
      clear hK hC hW hL HV s0
      rw [HFR.out]
      rw [e3]
      clear e3
      go_wp2_with fail
      show K _ _
      have := H.out _ (Ext.refl _)
      rw [HFR.out] at this
      obtain u3 := HU.out
      rw [u3] at this
      exact this
    · rintro L A W K hL hC hW ⟨V, rfl, HV, s0⟩ hK
      have e4 : V 4 = .bool false := HV 4 _ rfl (hW 4 rfl)
      have H := Lib.hid (show ∀ W', Ext W W' → K (fr (upd V 5 (undef))) W' from fun W' he => hK _ _ ⟨upd V 5 (undef), rfl, HV.up 5 _ (fun x hx => Option.some.inj hx), FnJ.ext s0 he⟩)
      have HU := Lib.hid (show (upd V 5 (undef)) 4 = .bool false from e4)
      clear hK hC hW hL HV s0
      rw [HFR.out]
      rw [e4]
      clear e4
      go_wp2_with fail
      show K _ _
      have := H.out _ (Ext.refl _)
      rw [HFR.out] at this
      obtain u4 := HU.out
      rw [u4] at this
      exact this
    · rintro L A W K hL hC hW ⟨V, rfl, HV, s0⟩ hK
      have e4 : V 4 = .bool false := HV 4 _ rfl (hW 4 rfl)
      have H := Lib.hid (show ∀ W', Ext W W' → K (fr (upd V 6 (undef))) W' from fun W' he => hK _ _ ⟨upd V 6 (undef), rfl, HV.up 6 _ (fun x hx => Option.some.inj hx), FnJ.ext s0 he⟩)
      have HU := Lib.hid (show (upd V 6 (undef)) 4 = .bool false from e4)
      clear hK hC hW hL HV s0
      rw [HFR.out]
      rw [e4]
      clear e4
      go_wp2_with fail
      show K _ _
      have := H.out _ (Ext.refl _)
      rw [HFR.out] at this
      obtain u4 := HU.out
      rw [u4] at this
      exact this
    · rintro L A W K hL hC hW ⟨V, rfl, HV, s0⟩ hK
      have e4 : V 4 = .bool false := HV 4 _ rfl (hW 4 rfl)
      have e5 : V 5 = undef := HV 5 _ rfl (hW 5 rfl)
      have e6 : V 6 = undef := HV 6 _ rfl (hW 6 rfl)
      have H := Lib.hid (show ∀ W', Ext W W' → K (fr (upd V 7 (undef))) W' from fun W' he => hK _ _ ⟨upd V 7 (undef), rfl, HV.up 7 _ (fun x hx => Option.some.inj hx), FnJ.ext s0 he⟩)
      have HU := Lib.hid (show (upd V 7 (undef)) 4 = .bool false ∧ (upd V 7 (undef)) 5 = undef ∧ (upd V 7 (undef)) 6 = undef from ⟨e4, e5, e6⟩)
      clear hK hC hW hL HV s0
      rw [HFR.out]
      rw [e4, e5, e6]
      clear e4 e5 e6
      go_wp2_with fail
      show K _ _
      have := H.out _ (Ext.refl _)
      rw [HFR.out] at this
      obtain ⟨u4, u5, u6⟩ := HU.out
      rw [u4, u5, u6] at this
      exact this
    · rintro L A W K hL hC hW ⟨V, rfl, HV, s0⟩ hK
      have e4 : V 4 = .bool false := HV 4 _ rfl (hW 4 rfl)
      have e7 : V 7 = undef := HV 7 _ rfl (hW 7 rfl)
      have H := Lib.hid (show ∀ W', Ext W W' → K (fr (upd V 8 (undef))) W' from fun W' he => hK _ _ ⟨upd V 8 (undef), rfl, HV.up 8 _ (fun x hx => Option.some.inj hx), FnJ.ext s0 he⟩)
      have HU := Lib.hid (show (upd V 8 (undef)) 4 = .bool false ∧ (upd V 8 (undef)) 7 = undef from ⟨e4, e7⟩)
      clear hK hC hW hL HV s0
      rw [HFR.out]
      rw [e4, e7]
      clear e4 e7
      go_wp2_with fail
      show K _ _
      have := H.out _ (Ext.refl _)
      rw [HFR.out] at this
      obtain ⟨u4, u7⟩ := HU.out
      rw [u4, u7] at this
      exact this
    · rintro L A W K hL hC hW ⟨V, rfl, HV, s0⟩ hK
      have e4 : V 4 = .bool false := HV 4 _ rfl (hW 4 rfl)
      have e8 : V 8 = undef := HV 8 _ rfl (hW 8 rfl)
      have H := Lib.hid (show ∀ W', Ext W W' → K (fr (upd V 9 (undef))) W' from fun W' he => hK _ _ ⟨upd V 9 (undef), rfl, HV.up 9 _ (fun x hx => Option.some.inj hx), FnJ.ext s0 he⟩)
      have HU := Lib.hid (show (upd V 9 (undef)) 4 = .bool false ∧ (upd V 9 (undef)) 8 = undef from ⟨e4, e8⟩)
      clear hK hC hW hL HV s0
      rw [HFR.out]
      rw [e4, e8]
      clear e4 e8
      go_wp2_with fail
      show K _ _
      have := H.out _ (Ext.refl _)
      rw [HFR.out] at this
      obtain ⟨u4, u8⟩ := HU.out
      rw [u4, u8] at this
      exact this
    · rintro L A W K hL hC hW ⟨V, rfl, HV, s0⟩ hK
      have e4 : V 4 = .bool false := HV 4 _ rfl (hW 4 rfl)
      have H := Lib.hid (show ∀ W', Ext W W' → K (fr (upd V 10 (undef))) W' from fun W' he => hK _ _ ⟨upd V 10 (undef), rfl, HV.up 10 _ (fun x hx => Option.some.inj hx), FnJ.ext s0 he⟩)
      have HU := Lib.hid (show (upd V 10 (undef)) 4 = .bool false from e4)
      clear hK hC hW hL HV s0
      rw [HFR.out]
      rw [e4]
      clear e4
      go_wp2_with fail
      show K _ _
      have := H.out _ (Ext.refl _)
      rw [HFR.out] at this
      obtain u4 := HU.out
      rw [u4] at this
      exact this
    · rintro L A W K hL hC hW ⟨V, rfl, HV, s0⟩ hK
      have e4 : V 4 = .bool false := HV 4 _ rfl (hW 4 rfl)
      have e9 : V 9 = undef := HV 9 _ rfl (hW 9 rfl)
      have e10 : V 10 = undef := HV 10 _ rfl (hW 10 rfl)
      have H := Lib.hid (show ∀ W', Ext W W' → K (fr (upd V 11 (undef))) W' from fun W' he => hK _ _ ⟨upd V 11 (undef), rfl, HV.up 11 _ (fun x hx => Option.some.inj hx), FnJ.ext s0 he⟩)
      have HU := Lib.hid (show (upd V 11 (undef)) 4 = .bool false ∧ (upd V 11 (undef)) 9 = undef ∧ (upd V 11 (undef)) 10 = undef from ⟨e4, e9, e10⟩)
      clear hK hC hW hL HV s0
      rw [HFR.out]
      rw [e4, e9, e10]
      clear e4 e9 e10
      go_wp2_with fail
      show K _ _
      have := H.out _ (Ext.refl _)
      rw [HFR.out] at this
      obtain ⟨u4, u9, u10⟩ := HU.out
      rw [u4, u9, u10] at this
      exact this
    · rintro L A W K hL hC hW ⟨V, rfl, HV, s0⟩ hK
      have e4 : V 4 = .bool false := HV 4 _ rfl (hW 4 rfl)
      have e11 : V 11 = undef := HV 11 _ rfl (hW 11 rfl)
      have H := Lib.hid (show ∀ W', Ext W W' → K (fr (upd V 12 (.bool false))) W' from fun W' he => hK _ _ ⟨upd V 12 (.bool false), rfl, HV.up 12 _ (fun x hx => Option.some.inj hx), FnJ.ext s0 he⟩)
      have HU := Lib.hid (show (upd V 12 (.bool false)) 4 = .bool false ∧ (upd V 12 (.bool false)) 11 = undef from ⟨e4, e11⟩)
      clear hK hC hW hL HV s0
      rw [HFR.out]
      rw [e4, e11]
      clear e4 e11
      go_wp2_with fail
      show K _ _
      have := H.out _ (Ext.refl _)
      rw [HFR.out] at this
      obtain ⟨u4, u11⟩ := HU.out
      rw [u4, u11] at this
      exact this
    · rintro L A W hL ⟨V, rfl, HV, s0⟩
      have e0 : V 0 = .int .i64 (i : Nat) := HV 0 _ rfl (hL 0 (by simp))
      have e1 : V 1 = .slice A1 l.length c := HV 1 _ rfl (hL 1 (by simp))
      have e2 : V 2 = .int .i64 (l.length : Nat) := HV 2 _ rfl (hL 2 (by simp))
      have e3 : V 3 = .bool false := HV 3 _ rfl (hL 3 (by simp))
      have e4 : V 4 = .bool false := HV 4 _ rfl (hL 4 (by simp))
      have e5 : V 5 = undef := HV 5 _ rfl (hL 5 (by simp))
      have e6 : V 6 = undef := HV 6 _ rfl (hL 6 (by simp))
      have e7 : V 7 = undef := HV 7 _ rfl (hL 7 (by simp))
      have e8 : V 8 = undef := HV 8 _ rfl (hL 8 (by simp))
      have e9 : V 9 = undef := HV 9 _ rfl (hL 9 (by simp))
      have e10 : V 10 = undef := HV 10 _ rfl (hL 10 (by simp))
      have e11 : V 11 = undef := HV 11 _ rfl (hL 11 (by simp))
      have e12 : V 12 = .bool false := HV 12 _ rfl (hL 12 (by simp))
      have hA := s0
      rw [HFR.out]
      rw [e0, e1, e2, e3, e4, e5, e6, e7, e8, e9, e10, e11, e12]
      clear hL HV HFR e0 e1 e2 e3 e4 e5 e6 e7 e8 e9 e10 e11 e12 s0
      have HXW := Lib.hid (HEB.out.trans hA.2.2)
      have HZ4 := Lib.hid (HZB.out.ext hA.2.2)
      have HKW := Lib.hid hA.2.1.key
      have q31 := hA.2.1.addr
      have q25 := hA.1.cell 0 _ rfl
      clear hA
      go_wp2_with (first
        | ((with_reducible refine wpList_load_wordIn ?_ (.tmp 32) ?_ g3 1 k ?_ ?_ ?_); (exact rfl); (exact rfl); (exact rfl); (exact HKW.out); (unfold wv wc))
        | ((with_reducible refine wpList_store_nn ?_ ?_ (.tmp 4) (.tmp 34) ?_ g4 nz0 ⟨a, k, 0⟩ ?_ ?_ ?_ ?_); (exact rfl); (exact rfl); (exact rfl); (exact rfl); (exact rfl); (exact HZ4.out); intro w9 k9 g9; have K9 := Lib.hid k9; have G9 := Lib.hid g9; clear k9 g9))
      refine bodyPost_ret (results_nn3 Try.results44 _ _ g4 ⟨a, k, 0⟩ rfl K9.out) rfl ?_
      exact ⟨by rw [HMISS.out]; rfl, HXW.out.grown G9.out HLO.out⟩
end Go.Proofs.Ytepggbhibpjkpaa
