/- Contract of the document's Parse of digests. -/
import Derived.Test.YthjmjccggkejhaaDoorSpk
import Derived.Deep.QuietTactic
import Derived.BigQuiet
namespace Go.Proofs.YthjmjccggkejhaaDoor
open Go.RowKit Go.Shelf

/-- What Digit of the document answers, as a number. -/
def rdI (n : Nat) : Int := if n < 16 then (n : Int) else -1
set_option maxRecDepth 100000 in
theorem rdI_cases (n : Nat) : (n < 16 ∧ rdI n = (n : Int)) ∨ (¬ n < 16 ∧ rdI n = -1) := by
  unfold rdI
  by_cases h : n < 16
  · rw [if_pos h]; exact .inl ⟨h, rfl⟩
  · rw [if_neg h]; exact .inr ⟨h, rfl⟩
set_option maxRecDepth 100000 in
theorem rdigV_eq (n : Nat) : rdigV n = .int .i64 (rdI n) := by
  unfold rdigV rdI
  split <;> rfl
/-- What Parse of the document answers. -/
def rprsV (s : ByteArray) : Value := if okS s = true then .tuple #[idv (idP (dS s)), .bool true] else .tuple #[idv (fun _ => 0), .bool false]
set_option maxRecDepth 100000 in
theorem Ext.drewNS {a w : World} (h : Ext a w) (n : Nat) : Ext a (w.drewN n) := ⟨h.os, h.tape, h.output, h.size, fun i hi => Below.block h i hi⟩
set_option maxRecDepth 100000 in
theorem Ib.drewN {w : World} {g : Nat} {f : Nat → Nat} (h : Ib w g f) (k : Nat) : Ib (w.drewN k) g f := h
set_option maxRecDepth 100000 in
theorem quiet_leftS {P : Program} {f : FuncId} {args : Array Value} {w : World} {n : Nat} {v : Value}
    (h : Calls P f args (w.drewN n) fun e w' => e = .returned v ∧ w.drewN n = w') : Calls P f args (w.drewN n) fun e w'' => e = .returned v ∧ ∃ m, w'' = w.drewN m :=
  h.mono fun _ _ ⟨he, hm⟩ => ⟨he, n, hm.symm⟩
set_option maxRecDepth 100000 in
theorem idx_s (s : ByteArray) (k : Nat) (h : k < s.size) (i : Int) (hi : i = (k : Int)) : ∃ c : Nat, (∀ u, (Instr.index 9 (.string s) (.int .i64 i)).run Tryd.prog u = .ok (.int .u8 (c : Int)) u) ∧ c < 256 ∧ dgN c = dS s k := by
  subst hi
  refine ⟨s[k].toNat, fun u => ?_, s[k].toNat_lt, by rw [get_toList s k h]; rfl⟩
  simp [go_sem, Tryd.underlying9, h]
set_option maxRecDepth 100000 in
theorem psC_two (d : Nat → Nat) (k : Nat) : (fun i => if i = k then 16 * d (2 * k) + d (2 * k + 1) else psC d (2 * k) i) = psC d (2 * (k + 1)) := by
  funext i
  unfold psC
  by_cases h : i = k
  · subst h
    rw [if_pos rfl, if_pos (by omega)]
  · rw [if_neg h]
    by_cases h2 : 2 * i + 2 ≤ 2 * k
    · rw [if_pos h2, if_pos (by omega)]
    · rw [if_neg h2, if_neg (by omega), if_neg (by omega), if_neg (by omega)]

set_option maxRecDepth 100000 in
set_option maxHeartbeats 2000000 in
theorem refParse_any (s : ByteArray) (w : World) :
    Calls Tryd.prog 31 #[.string s] w fun e w' => e = .returned (rprsV s) ∧ Ext w w' := by
  have HZ : Hid (Ib ((w.alloc (.cells (ic fun _ => 0) 27)).alloc (.cells (ic fun _ => 0) 27)) w.heap.size (fun _ => 0)) := (Cs.new _ _ _ _ rfl).alloc _
  have HB : Hid (Ib ((w.alloc (.cells (ic fun _ => 0) 27)).alloc (.cells (ic fun _ => 0) 27)) (w.heap.size + 1) (psC (dS s) (2 * 0))) := by
    rw [Nat.mul_zero, psC_zero]
    exact Cs.new _ _ _ _ (by simp)
  have HE : Hid (Ext w ((w.alloc (.cells (ic fun _ => 0) 27)).alloc (.cells (ic fun _ => 0) 27))) := ((Ext.refl w).alloc _).alloc _
  by_cases h64 : s.size = 64
  · have hd0 : ((s.size : Int) != 64) = false := by rw [h64]; rfl
    have HSZ := Lib.hid h64
    clear h64
    go_enter Tryd.func31, Tryd.ntmps31
    go_wp2_with fail
    go_loopw [5, 6, 7, 12, 13, 14, 15, 16, 17, 18, 19, 20, 21, 22, 23, 24, 25, 26, 27, 28, 29, 30, 31, 33, 34, 35, 36, 37, 38, 39, 40] (fun _ _ _ u _ _ _ _ _ _ _ _ _ _ _ _ _ _ _ _ _ _ _ _ _ _ _ _ _ _ _ wr => ∃ k : Nat, k ≤ 32 ∧ u = .int .i64 k ∧ Hid (∀ j, j < 2 * k → dS s j < 16) ∧ Hid (Ib wr w.heap.size (fun _ => 0)) ∧ Hid (Ib wr (w.heap.size + 1) (psC (dS s) (2 * k))) ∧ Hid (Ext w wr)) (fun _ _ _ u _ _ _ _ _ _ _ _ _ _ _ _ _ _ _ _ _ _ _ _ _ _ _ _ _ _ _ _ => 32 - (intOf u).toNat)
    case atStart => exact ⟨0, by omega, rfl, Lib.hid (fun j hj => absurd hj (by omega)), HZ, HB, HE⟩
    case round =>
      clear HZ HB HE
      obtain ⟨k, hk, rfl, HD, HZ, HB, HE⟩ := hrel
      by_cases hlt : k < 32
      · have hs1 : 2 * k < s.size := by have := HSZ.out; omega
        have hs2 : 2 * k + 1 < s.size := by have := HSZ.out; omega
        have a1 : (0 : Int) ≤ (k : Int) := by omega
        have a2 : (k : Int) < 32 := by omega
        have b1 : IntKind.i64.wrap (2 * (k : Int)) = 2 * (k : Int) := IntWalk.i64_in _ (by omega)
        have b2 : IntKind.i64.wrap (2 * (k : Int) + 1) = 2 * (k : Int) + 1 := IntWalk.i64_in _ (by omega)
        obtain ⟨ca, hia, hca, hda⟩ := idx_s s (2 * k) hs1 (2 * (k : Int)) (by omega)
        obtain ⟨cb, hib, hcb, hdb⟩ := idx_s s (2 * k + 1) hs2 (2 * (k : Int) + 1) (by omega)
        have HCA := Lib.hid (show ∀ w, Calls Tryd.prog 54 #[.int .u8 (ca : Int)] w fun e w' => e = .returned (.int .i64 (rdI (dS s (2 * k)))) ∧ w = w' from fun w => by
          have h := refDigit_any ca w hca
          rwa [rdigV_eq, hda] at h)
        have HCB := Lib.hid (show ∀ w, Calls Tryd.prog 54 #[.int .u8 (cb : Int)] w fun e w' => e = .returned (.int .i64 (rdI (dS s (2 * k + 1)))) ∧ w = w' from fun w => by
          have h := refDigit_any cb w hcb
          rwa [rdigV_eq, hdb] at h)
        clear hda hdb hs1 hs2
        have HCa := Lib.hid (rdI_cases (dS s (2 * k)))
        have HCb := Lib.hid (rdI_cases (dS s (2 * k + 1)))
        generalize rdI (dS s (2 * k)) = A at *
        generalize rdI (dS s (2 * k + 1)) = B at *
        rcases HCa.out with ⟨ha, rfl⟩ | ⟨ha, rfl⟩
        · rcases HCb.out with ⟨hb, rfl⟩ | ⟨hb, rfl⟩
          · have HD2 := Lib.hid (show ∀ j, j < 2 * (k + 1) → dS s j < 16 from fun j hj => if h : j < 2 * k then HD.out j h else if h2 : j = 2 * k then by rw [h2]; exact ha else by rw [show j = 2 * k + 1 by omega]; exact hb)
            have HST := Lib.hid (psC_two (dS s) k)
            have hc := HB.out.cell k hlt
            have hf := Cs.frozen HB.out k
            clear HCa HCb
            generalize dS s (2 * k) = da at *
            generalize dS s (2 * k + 1) = db at *
            have c1 : decide ((da : Int) < 0) = false := by simp
            have c2 : decide ((db : Int) < 0) = false := by simp
            generalize psC (dS s) (2 * k) = x at *
            go_wp2_with fail
            go_quiet (first | (go_at_call 54; first | (with_reducible exact quiet_leftS (HCA.out _)) | (with_reducible exact quiet_leftS (HCB.out _))))
            go_wp2_with fail
            rw [show (16 * (da : Int) + (db : Int)) = ((16 * da + db : Nat) : Int) by omega]
            refine ⟨⟨k + 1, by omega, by go_num, HD2, ?_, ?_, ?_⟩, by simp [intOf]; omega⟩
            · exact Lib.hid (Cs.kept (HZ.out.drewN nq) (grown_set _ _ _ _) (some_ne (by omega)))
            · have h7 := (HB.out.drewN nq).set k (16 * da + db)
              rw [HST.out] at h7
              exact Lib.hid h7
            · exact Lib.hid ((HE.out.drewNS nq).grown (grown_set _ _ _ _) (by omega))
          · have HV := Lib.hid (show rprsV s = .tuple #[idv (fun _ => 0), .bool false] by unfold rprsV; rw [okS_no s (2 * k + 1) (by omega) hb]; rfl)
            clear HCa HCb
            generalize dS s (2 * k) = da at *
            have c1 : decide ((da : Int) < 0) = false := by simp
            go_wp2_with fail
            go_quiet (first | (go_at_call 54; first | (with_reducible exact quiet_leftS (HCA.out _)) | (with_reducible exact quiet_leftS (HCB.out _))))
            have HZ := Lib.hid (HZ.out.drewN nq)
            have HE := Lib.hid (HE.out.drewNS nq)
            go_wp2_with ((with_reducible refine wpList_store_id ?_ ?_ (.tmp 2) (.tmp 32) ?_ w.heap.size (ic fun _ => 0) (fun _ => 0) ?_ ?_ ?_ ?_ ?_); (exact rfl); (exact rfl); (exact rfl); (exact rfl); (exact rfl); (exact HZ.out); (exact ic_size _); intro w7 k7 g7; have K7 := Lib.hid k7; have HE7 := Lib.hid (HE.out.grown g7 (by omega)); clear k7 g7)
            exact bodyPost_ret (results_id_tmp Tryd.results31 _ _ w.heap.size _ rfl K7.out) rfl ⟨by rw [HV.out]; rfl, HE7.out⟩
        · have HV := Lib.hid (show rprsV s = .tuple #[idv (fun _ => 0), .bool false] by unfold rprsV; rw [okS_no s (2 * k) (by omega) ha]; rfl)
          clear HCa HCb
          go_wp2_with fail
          go_quiet (first | (go_at_call 54; first | (with_reducible exact quiet_leftS (HCA.out _)) | (with_reducible exact quiet_leftS (HCB.out _))))
          have HZ := Lib.hid (HZ.out.drewN nq)
          have HE := Lib.hid (HE.out.drewNS nq)
          go_wp2_with ((with_reducible refine wpList_store_id ?_ ?_ (.tmp 2) (.tmp 32) ?_ w.heap.size (ic fun _ => 0) (fun _ => 0) ?_ ?_ ?_ ?_ ?_); (exact rfl); (exact rfl); (exact rfl); (exact rfl); (exact rfl); (exact HZ.out); (exact ic_size _); intro w7 k7 g7; have K7 := Lib.hid k7; have HE7 := Lib.hid (HE.out.grown g7 (by omega)); clear k7 g7)
          exact bodyPost_ret (results_id_tmp Tryd.results31 _ _ w.heap.size _ rfl K7.out) rfl ⟨by rw [HV.out]; rfl, HE7.out⟩
      · obtain rfl : k = 32 := by omega
        have HV := Lib.hid (show rprsV s = .tuple #[idv (idP (dS s)), .bool true] by unfold rprsV; rw [okS_yes s HSZ.out HD.out]; rfl)
        have HI : Hid (idv (psC (dS s) (2 * 32)) = idv (idP (dS s))) := by
          unfold idv
          rw [show 2 * 32 = 64 from rfl, psC_all]
          rfl
        generalize psC (dS s) (2 * 32) = x at *
        go_wp2_with (first
          | ((with_reducible refine wpList_load_id ?_ (.tmp 4) ?_ (w.heap.size + 1) (x) ?_ ?_ ?_); (exact rfl); (exact rfl); (exact rfl); (exact HB.out))
          | ((with_reducible refine wpList_store_id ?_ ?_ (.tmp 2) (.tmp 41) ?_ w.heap.size (ic fun _ => 0) (x) ?_ ?_ ?_ ?_ ?_); (exact rfl); (exact rfl); (exact rfl); (exact rfl); (exact rfl); (exact HZ.out); (exact ic_size _); intro w7 k7 g7; have K7 := Lib.hid k7; have HE7 := Lib.hid (HE.out.grown g7 (by omega)); clear k7 g7))
        rw [← HI.out] at HV
        exact bodyPost_ret (results_id_tmp Tryd.results31 _ _ w.heap.size _ rfl K7.out) rfl ⟨by rw [HV.out]; rfl, HE7.out⟩
  · have hd0 : ((s.size : Int) != 64) = true := by simp; omega
    have HV := Lib.hid (show rprsV s = .tuple #[idv (fun _ => 0), .bool false] by unfold rprsV; rw [okS_size s h64]; rfl)
    have HI : Hid (psC (dS s) (2 * 0) = fun _ => 0) := by rw [Nat.mul_zero]; exact psC_zero _
    rw [HI.out] at HB
    clear h64
    go_enter Tryd.func31, Tryd.ntmps31
    go_wp2_with (first
      | ((with_reducible refine wpList_load_id ?_ (.tmp 4) ?_ (w.heap.size + 1) (fun _ => 0) ?_ ?_ ?_); (exact rfl); (exact rfl); (exact rfl); (exact HB.out))
      | ((with_reducible refine wpList_store_id ?_ ?_ (.tmp 2) (.tmp 11) ?_ w.heap.size (ic fun _ => 0) (fun _ => 0) ?_ ?_ ?_ ?_ ?_); (exact rfl); (exact rfl); (exact rfl); (exact rfl); (exact rfl); (exact HZ.out); (exact ic_size _); intro w7 k7 g7; have K7 := Lib.hid k7; have HE7 := Lib.hid (HE.out.grown g7 (by omega)); clear k7 g7))
    exact bodyPost_ret (results_id_tmp Tryd.results31 _ _ w.heap.size _ rfl K7.out) rfl ⟨by rw [HV.out]; rfl, HE7.out⟩
end Go.Proofs.YthjmjccggkejhaaDoor
