/- Package state: Load. -/
import Derived.Test.YtmojbekihbmdfaaStp
namespace Go.Proofs.Ytmojbekihbmdfaa
open Go.ChangeShapes Go.WideShapes Go.ChangeAt Go.RowKit Go.Shelf

set_option maxRecDepth 100000 in
theorem right_rise {a : Ac} (h : a.rightB = true) : RiseK a.store ∧ a.store.length ≤ 24 ∧ a.code.length ≤ 200 ∧ ∀ i, i < a.store.length → (a.store.getD i (0, 0)).2 ≠ 0 := by
  unfold Ac.rightB at h
  simp only [Bool.and_eq_true, List.all_eq_true, List.mem_range, decide_eq_true_eq] at h
  obtain ⟨_, h2, h3, h4⟩ := h
  have hs : ∀ j, j + 1 < a.store.length → (a.store.getD j (0, 0)).1 < (a.store.getD (j + 1) (0, 0)).1 := fun j hj => by
    have := h4 (j + 1) hj
    unfold slB at this
    simp only [Bool.and_eq_true, Bool.or_eq_true, decide_eq_true_eq, Nat.add_sub_cancel] at this
    rcases this.2 with h | h
    · omega
    · exact h
  refine ⟨fun i j hij hj => ?_, h3, h2, fun i hi => ?_⟩
  · obtain ⟨k, rfl⟩ : ∃ k, j = i + k + 1 := ⟨j - i - 1, by omega⟩
    clear hij
    induction k with
    | zero => exact hs i hj
    | succ k ih => exact Nat.lt_trans (ih (by omega)) (hs (i + k + 1) hj)
  · have := h4 i hi
    unfold slB at this
    simp only [Bool.and_eq_true, decide_eq_true_eq] at this
    exact this.1
set_option maxRecDepth 100000 in
theorem chS_right {s : Option (Nat × Nat)} {p : Ac} {r : Nat × Nat} (h : chS s p = some r) : p.rightB = true ∧ p.emptyB = false ∧ ∃ f t, s = some (f, t) ∧ t < p.addr ∧ r.2 = p.addr := by
  unfold chS at h
  cases s with
  | none => cases h
  | some s =>
    obtain ⟨f, t⟩ := s
    dsimp only at h
    split at h
    · cases h
    · split at h
      · cases h
      · split at h
        · cases h
        · rename_i h1 h2 h3
          refine ⟨by simpa using h3, by simpa using h2, f, t, rfl, by omega, ?_⟩
          split at h
          · cases h; rfl
          · split at h
            · cases h
            · cases h; rfl
set_option maxRecDepth 100000 in
theorem chL_right : ∀ (l : List Ac) (s : Option (Nat × Nat)) (r : Nat × Nat), l.foldl chS s = some r → ∀ p ∈ l, p.rightB = true ∧ p.emptyB = false
  | [], _, _, _, p, hp => nomatch hp
  | q :: l, s, r, h, p, hp => by
    rw [List.foldl_cons] at h
    cases hc : chS s q with
    | none => rw [hc, chS_none] at h; cases h
    | some s' =>
      rcases List.mem_cons.1 hp with rfl | hp
      · exact ⟨(chS_right hc).1, (chS_right hc).2.1⟩
      · exact chL_right l _ r h p hp
set_option maxRecDepth 100000 in
theorem rightL_all {l : List Ac} (h : rightL l = true) : ∀ p ∈ l, p.rightB = true ∧ p.emptyB = false := by
  unfold rightL at h
  simp only [Bool.and_eq_true] at h
  obtain ⟨r, hr⟩ := Option.isSome_iff_exists.1 h.1
  exact chL_right l _ r hr
set_option maxRecDepth 100000 in
theorem accF_right {l : List Ac} (h : rightL l = true) (a : Nat) : RiseK (accF l a).1.store ∧ (accF l a).1.store.length ≤ 24 ∧ (accF l a).1.code.length ≤ 200 := by
  unfold accF
  cases hf : l.find? (fun p => p.addr == a) with
  | some p =>
    have := right_rise ((rightL_all h) p (List.mem_of_find?_eq_some hf)).1
    exact ⟨this.1, this.2.1, this.2.2.1⟩
  | none => exact ⟨fun i j _ hj => by simp at hj, by simp, by simp⟩
/-- What a slot holds. -/
def ldN (st : List (Nat × Nat)) (k : Nat) : Nat := if hasK st k then (st.getD (posK st k) (0, 0)).2 else 0
def loadN (l : List Ac) (a k : Nat) : Nat := if rightL l then ldN (accF l a).1.store k else 0
def LdJ (w : World) (g3 g5 g6 : Nat) (sv : Value) (n : Nat) (W : World) : Prop := Cs W g3 24 #[sv] ∧ Wd W g5 31 n ∧ Cs W g6 31 (wc 0) ∧ Ext w W
set_option maxRecDepth 100000 in
theorem LdJ.ext {w : World} {g3 g5 g6 : Nat} {sv : Value} {n : Nat} {W W' : World} (h : LdJ w g3 g5 g6 sv n W) (he : Ext W W') : LdJ w g3 g5 g6 sv n W' := ⟨Cs.ext h.1 he, Cs.ext h.2.1 he, Cs.ext h.2.2.1 he, h.2.2.2.trans he⟩
set_option maxRecDepth 100000 in
set_option maxHeartbeats 4000000 in
theorem stateLoad_any (sv : Value) (l : List Ac) (a n : Nat) (w : World) (hs : Acs w sv l) (ha : a < 18446744073709551616) (hl : l.length ≤ 10000) (hn : n < M256) :
    Calls Try.prog 24 #[.agg #[sv], .int .u64 (a : Nat), wv n] w fun e w' => e = .returned (wv (loadN l a n)) ∧ Ext w w' := by
  have HS := Lib.hid hs
  obtain ⟨A0, c0, rfl, h1, h2⟩ := hs.len
  obtain ⟨w0, hw0⟩ : ∃ w0, (((w.alloc (.cells #[.slice A0 l.length c0] 24)).alloc (.cells (wc n) 31)).alloc (.cells #[.int .u64 0, .int .u64 0, .int .u64 0, .int .u64 0] 31)) = w0 := ⟨_, rfl⟩
  have HWC : Hid ((wc 0) = #[.int .u64 0, .int .u64 0, .int .u64 0, .int .u64 0]) := Lib.hid (by simp [wc, lv, lb])
  have HJ0 : Hid (LdJ w w.heap.size (w.heap.size + 1) (w.heap.size + 1 + 1) (.slice A0 l.length c0) n w0) := by
    rw [← hw0]
    exact Lib.hid ⟨Cs.alloc (Cs.alloc (Cs.new _ _ _ _ rfl) _) _, Cs.alloc (Cs.new _ _ _ _ (by simp)) _, by rw [HWC.out]; exact Cs.new _ _ _ _ (by simp), (((Ext.refl w).alloc _).alloc _).alloc _⟩
  have q0 : (((w.alloc (.cells #[.slice A0 l.length c0] 24)).alloc (.cells (wc n) 31)).alloc (.cells #[.int .u64 0, .int .u64 0, .int .u64 0, .int .u64 0] 31)).cell? ⟨w.heap.size, 0, none⟩ = some (.slice A0 l.length c0) := by rw [hw0]; exact HJ0.out.1.cell 0 _ rfl
  have HW0 := Lib.hid hw0
  have HDEF : Hid (loadN l a n = if rightL l then ldN (accF l a).1.store n else 0) := Lib.hid rfl
  have HCE : Hid (chkE l = if rightL l then 0 else 160) := Lib.hid rfl
  clear hs hw0
  unfold wv
  go_enter Try.func24, Try.ntmps24
  go_wp2_with fail
  rw [HW0.out]
  refine (stateCheck_any _ l _ (HS.out.ext HJ0.out.2.2.2) (by omega)).mono ?_
  rintro e w1 ⟨rfl, he⟩
  have HJ1 := Lib.hid (HJ0.out.ext he)
  have q1 : w1.cell? ⟨w.heap.size, 0, none⟩ = some (.slice A0 l.length c0) := HJ1.out.1.cell 0 _ rfl
  clear he HJ0 q0 HW0 HWC
  rw [HCE.out]
  cases hr : rightL l with
  | false =>
    rw [hr] at HDEF
    have HF := Lib.hid (show loadN l a n = 0 by rw [HDEF.out]; rfl)
    clear hr HDEF
    go_wp2_with ((with_reducible refine wpList_store_word ?_ ?_ 31 (.tmp 6) (.tmp 14) ?_ winfo (w.heap.size + 1 + 1) (wc 0) 0 ?_ ?_ ?_ ?_ ?_); (exact rfl); (exact rfl); (exact rfl); (exact rfl); (exact rfl); (exact HJ1.out.2.2.1); (exact rfl); intro w2 k2 g2; have K2 := Lib.hid k2; have HE2 := Lib.hid (HJ1.out.2.2.2.grown g2 (by omega)); clear k2 g2)
    refine bodyPost_ret (results_word Try.results24 _ _ (w.heap.size + 1 + 1) 0 rfl K2.out Try.underlying31 winfo) rfl ?_
    exact ⟨by rw [HF.out]; rfl, HE2.out⟩
  | true =>
    rw [hr] at HDEF
    have HAR := Lib.hid (accF_right hr a)
    clear hr
    go_wp2_with fail
    refine (account_any _ l a _ (HS.out.ext HJ1.out.2.2.2) ha).mono ?_
    rintro e w2 ⟨u, v, rfl, hu, hv, he⟩
    have HJ2 := Lib.hid (HJ1.out.ext he)
    have HU := Lib.hid (bs_one hu)
    have HV := Lib.hid hv
    clear hu he HJ1 q1
    obtain ⟨⟨p, b⟩, hpb⟩ : ∃ pb, accF l a = pb := ⟨_, rfl⟩
    rw [hpb] at HDEF HAR HV hv ⊢
    dsimp only at HDEF HAR HV hv ⊢
    clear hpb
    obtain ⟨A1, c1, rfl, z1, z2⟩ := hv.len
    unfold maxLen at z2
    clear hv
    have HST : Hid (ldN p.store n = if hasK p.store n then (p.store.getD (posK p.store n) (0, 0)).2 else 0) := Lib.hid rfl
    have HHK : Hid (hasK p.store n = true → posK p.store n < p.store.length) := Lib.hid (fun h => by
      unfold hasK at h
      simp only [Bool.and_eq_true, decide_eq_true_eq] at h
      exact h.1)
    go_wp2_with (first
      | ((with_reducible refine wpList_store_ac ?_ ?_ (.tmp 7) (.tmp 19) ?_ w2.heap.size az0 p u (.slice A1 p.store.length c1) ?_ ?_ ?_ ?_ ?_ ?_ ?_); (exact rfl); (exact rfl); (exact rfl); (exact HU.out); (exact rfl); (exact rfl); (exact rfl); (exact Cs.new _ _ _ _ rfl); (exact rfl); intro w3 k3 g3; have K3 := Lib.hid k3; have HX3 := Lib.hid (((Ext.refl w2).alloc _).grown g3 (Nat.le_refl _)); have HJ3 := Lib.hid (HJ2.out.ext HX3.out); have c7 := K3.out.store; clear k3 g3)
      | ((with_reducible refine wpList_load_word ?_ 31 28 (.tmp 5) ?_ Try.underlying31 winfo (w.heap.size + 1) n ?_ ?_ ?_); (exact rfl); (exact rfl); (exact rfl); (exact HJ3.out.2.1)))
    refine (slot_any _ p.store n _ (HV.out.ext HX3.out) HAR.out.1 (by have := HAR.out.2.1; omega) hn).mono ?_
    rintro e w4 ⟨rfl, he⟩
    have HJ4 := Lib.hid (HJ3.out.ext he)
    have K4 := Lib.hid (K3.out.ext he)
    have HV4 := Lib.hid (HV.out.ext (HX3.out.trans he))
    have c7' := K4.out.store
    clear he HJ2 HJ3 HX3 K3 HV c7
    obtain ⟨i, hi⟩ : ∃ i, posK p.store n = i := ⟨_, rfl⟩
    obtain ⟨hb, hhb⟩ : ∃ hb, hasK p.store n = hb := ⟨_, rfl⟩
    rw [hi, hhb] at HST HHK ⊢
    clear hi hhb
    cases hb with
    | true =>
      have hil : i < p.store.length := HHK.out rfl
      obtain ⟨bb, oo, rfl, hrg, hp1, hp2⟩ := HV4.out.at i hil
      have HR := Lib.hid (pk_val hrg)
      have HP2 := Lib.hid hp2
      have HF := Lib.hid (show loadN l a n = (p.store.getD i (0, 0)).2 by rw [HDEF.out]; simp [HST.out])
      clear hrg hp1 hp2 HST HHK HDEF HV4 HAR
      generalize (p.store.getD i (0, 0)).2 = m at *
      go_wp2_with (first
        | ((with_reducible refine wpList_load_wordIn ?_ (.tmp 33) ?_ bb (oo + i * 8 + 4) m ?_ ?_ ?_); (exact rfl); (exact rfl); (exact rfl); (exact HR.out))
        | ((with_reducible refine wpList_store_word ?_ ?_ 31 (.tmp 6) (.tmp 34) ?_ winfo (w.heap.size + 1 + 1) (wc 0) m ?_ ?_ ?_ ?_ ?_); (exact rfl); (exact rfl); (exact rfl); (exact rfl); (exact rfl); (exact HJ4.out.2.2.1); (exact rfl); intro w5 k5 g5; have K5 := Lib.hid k5; have HE5 := Lib.hid (HJ4.out.2.2.2.grown g5 (by omega)); clear k5 g5))
      refine bodyPost_ret (results_word Try.results24 _ _ (w.heap.size + 1 + 1) m rfl K5.out Try.underlying31 winfo) rfl ?_
      exact ⟨by rw [HF.out]; rfl, HE5.out⟩
    | false =>
      have HF := Lib.hid (show loadN l a n = 0 by rw [HDEF.out]; simp [HST.out])
      clear HST HHK HDEF HV4 HAR
      go_wp2_with ((with_reducible refine wpList_store_word ?_ ?_ 31 (.tmp 6) (.tmp 35) ?_ winfo (w.heap.size + 1 + 1) (wc 0) 0 ?_ ?_ ?_ ?_ ?_); (exact rfl); (exact rfl); (exact rfl); (exact rfl); (exact rfl); (exact HJ4.out.2.2.1); (exact rfl); intro w5 k5 g5; have K5 := Lib.hid k5; have HE5 := Lib.hid (HJ4.out.2.2.2.grown g5 (by omega)); clear k5 g5)
      refine bodyPost_ret (results_word Try.results24 _ _ (w.heap.size + 1 + 1) 0 rfl K5.out Try.underlying31 winfo) rfl ?_
      exact ⟨by rw [HF.out]; rfl, HE5.out⟩
end Go.Proofs.Ytmojbekihbmdfaa
