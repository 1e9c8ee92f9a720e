/- Package state: CheckAccount. -/
import Derived.Test.YtnjpdchmdimaaaaGreatQStb
namespace Go.Proofs.YtnjpdchmdimaaaaGreat
open Go.ChangeShapes Go.WideShapes Go.ChangeAt Go.RowKit Go.Shelf

def slB (l : List (Nat × Nat)) (i : Nat) : Bool := decide ((l.getD i (0, 0)).2 ≠ 0) && (decide (i = 0) || decide ((l.getD (i - 1) (0, 0)).1 < (l.getD i (0, 0)).1))
def Ac.rightB (a : Ac) : Bool := decide (a.addr ≠ 0) && (decide (a.code.length ≤ 200) && (decide (a.store.length ≤ 24) && (List.range a.store.length).all (slB a.store)))
theorem right_all (a : Ac) (h1 : a.addr ≠ 0) (h2 : a.code.length ≤ 200) (h3 : a.store.length ≤ 24) (h : ∀ i, i < a.store.length → slB a.store i = true) : a.rightB = true := by
 unfold Ac.rightB
 simp only [decide_eq_true h1, decide_eq_true h2, decide_eq_true h3, Bool.true_and, List.all_eq_true, List.mem_range]
 exact h
theorem right_stop (a : Ac) (i : Nat) (hi : i < a.store.length) (h : slB a.store i = false) : a.rightB = false := by
 cases hr : a.rightB with
 | false => rfl
 | true =>
  unfold Ac.rightB at hr
  simp only [Bool.and_eq_true, List.all_eq_true, List.mem_range] at hr
  rw [hr.2.2.2 i hi] at h
  cases h
def ckE (a : Ac) : Int := if a.rightB then 0 else 161
theorem ckE_yes (a : Ac) (h : a.rightB = true) : ckE a = 0 := by unfold ckE; rw [h]; rfl
theorem ckE_no (a : Ac) (h : a.rightB = false) : ckE a = 161 := by unfold ckE; rw [h]; rfl
def CkJ (w : World) (g : Nat) (a : Ac) (u v : Value) (g4 : Nat) (p : Nat × Nat) (W : World) : Prop := Ab W g a u v ∧ Cs W g4 106 (pkc p) ∧ Ext w W
theorem CkJ.ext {w : World} {g : Nat} {a : Ac} {u v : Value} {g4 : Nat} {p : Nat × Nat} {W W' : World} (h : CkJ w g a u v g4 p W) (he : Ext W W') : CkJ w g a u v g4 p W' := ⟨h.1.ext he, Cs.ext h.2.1 he, h.2.2.trans he⟩
theorem cmp_ge (a b : Nat) : decide (0 ≤ cmpN a b) = !decide (a < b) := by
 unfold cmpN
 by_cases h : a < b
 ·simp [h]
 ·by_cases h2 : a = b <;> simp [h, h2] <;> omega
theorem pkb_key {W : World} {g : Nat} {p : Nat × Nat} (h : Cs W g 106 (pkc p)) : W.rangeAt g 0 (wc p.1).toList := pk_key (fun j x hx => by
 rw [Nat.zero_add]
 exact Cs.cell h j x (by rwa [Array.getElem?_toList] at hx))
theorem pkb_val {W : World} {g : Nat} {p : Nat × Nat} (h : Cs W g 106 (pkc p)) : W.rangeAt g 4 (wc p.2).toList := by
 have := pk_val (b := g) (o := 0) (p := p) (W := W) (fun j x hx => by
  rw [Nat.zero_add]
  exact Cs.cell h j x (by rwa [Array.getElem?_toList] at hx))
 rwa [Nat.zero_add] at this
set_option maxRecDepth 100000 in
set_option maxHeartbeats 4000000 in
theorem checkAccount_any (a : Ac) (u v : Value) (w : World) (_hok : a.ok) (hu : Bs w u a.code) (hv : Pks w v a.store) : Calls Tryz.prog 88 #[.agg (acc a u v)] w fun e w' => e = .returned (.int .i64 (ckE a)) ∧ Ext w w' := by
 have HV := Lib.hid hv
 have HK : Hid (Ab (w.alloc (.cells (acc a u v) 79)) w.heap.size a u v) := Lib.hid (Cs.new _ _ _ _ rfl)
 have HE := Lib.hid ((Ext.refl w).alloc (.cells (acc a u v) 79))
 obtain ⟨A1, c, rfl, h1, h2, _⟩ := hu
 obtain ⟨A2, c2, rfl, h3, h4⟩ := hv.len
 unfold maxLen at h2 h4
 obtain ⟨cs, hcs⟩ : ∃ cs, acc a (.slice A1 a.code.length c) (.slice A2 a.store.length c2) = cs := ⟨_, rfl⟩
 have HCS := Lib.hid hcs
 have hcs0 : cs[0]? = some (.int .u64 (a.addr : Nat)) := by rw [← hcs]; rfl
 have hcs6 : cs[6]? = some (.slice A1 a.code.length c) := by rw [← hcs]; rfl
 have hcs7 : cs[7]? = some (.slice A2 a.store.length c2) := by rw [← hcs]; rfl
 rw [hcs] at HE HK
 rw [hcs]
 have HYES := Lib.hid (fun h1 h2 h3 h => ckE_yes a (right_all a h1 h2 h3 h))
 have HSTOP := Lib.hid (fun i hi h => ckE_no a (right_stop a i hi h))
 clear hcs hv
 go_enter Tryz.func88, Tryz.ntmps88
 by_cases e1 : a.addr = 0
 ·have hF := Lib.hid (ckE_no a (by unfold Ac.rightB; simp [e1]))
  have hn1 : ((a.addr : Int) == 0) = true := by simp [e1]
  have hn2 : (a.addr == 0) = true := by simp [e1]
  clear e1
  go_wp2_with fail
  go_ret
  exact ⟨by rw [hF.out]; rfl, HE.out⟩
 ·have hn1 : ((a.addr : Int) == 0) = false := by simp; omega
  have hn2 : (a.addr == 0) = false := by simpa using e1
  have HA1 := Lib.hid e1
  clear e1
  by_cases e2 : a.code.length ≤ 200
  ·have hl1 : decide ((200 : Int) < (a.code.length : Int)) = false := decide_eq_false (by omega)
   have hl2 : decide (200 < a.code.length) = false := decide_eq_false (by omega)
   have HA2 := Lib.hid e2
   clear e2
   by_cases e3 : a.store.length ≤ 24
   ·have hs1 : decide ((24 : Int) < (a.store.length : Int)) = false := decide_eq_false (by omega)
    have hs2 : decide (24 < a.store.length) = false := decide_eq_false (by omega)
    have HA3 := Lib.hid e3
    have hsb : (a.store.length : Int) ≤ 24 := by omega
    go_wp2_with fail
    go_loopw [23] (fun q wr => ∃ k : Nat, k ≤ a.store.length ∧ q = .int .i64 k ∧ Hid ((∀ i, i < k → slB a.store i = true) ∧ Ab wr w.heap.size a (.slice A1 a.code.length c) (.slice A2 a.store.length c2) ∧ Ext w wr)) (fun q _ => a.store.length - (intOf q).toNat)
    case atStart => exact ⟨0, by omega, rfl, Lib.hid ⟨fun i hi => absurd hi (by omega), HK.out, HE.out⟩⟩
    case round =>
     clear HK HE hcs0 hcs6 hcs7 HCS
     obtain ⟨k, hk, rfl, HJ⟩ := hrel
     by_cases hlt : k < a.store.length
     ·have hd : decide (k < a.store.length) = true := decide_eq_true hlt
      obtain ⟨bb, oo, rfl, hrg, hp1, hp2⟩ := (HV.out.ext HJ.out.2.2).at k hlt
      have HR := Lib.hid hrg
      have HP1 := Lib.hid hp1
      have HP2 := Lib.hid hp2
      have HS := Lib.hid (show slB a.store k = (decide ((a.store.getD k (0, 0)).2 ≠ 0) && (decide (k = 0) || decide ((a.store.getD (k - 1) (0, 0)).1 < (a.store.getD k (0, 0)).1))) from rfl)
      have HPR := Lib.hid (fun (hk0 : 0 < k) => HV.out.at (k - 1) (by omega))
      clear hrg hp1 hp2
      generalize a.store.getD k (0, 0) = p at *
      obtain ⟨pc, hpc⟩ : ∃ pc, pkc p = pc := ⟨_, rfl⟩
      have HPC := Lib.hid hpc
      have HPS := Lib.hid (show pc.size = 8 by rw [← hpc]; rfl)
      clear hpc
      by_cases z1 : p.2 = 0
      ·have hz1 : (p.2 == 0) = true := by simp [z1]
       have HZ := Lib.hid hz1
       have HF := Lib.hid (HSTOP.out k hlt (by rw [HS.out]; simp [z1]))
       clear z1 hz1
       go_upto_region 6 with (first
        | ((with_reducible refine wpList_load_pair ?_ (.tmp 26) ?_ bb (oo + k * 8) p ?_ ?_ ?_); (exact rfl); (exact rfl); (exact rfl); (exact HR.out); rw [HPC.out])
        | ((with_reducible refine wpList_store_agg ?_ ?_ 106 (.tmp 4) (.tmp 27) ?_ pkinfo wr.heap.size (pkc (0, 0)) pc ?_ ?_ ?_ ?_ ?_ ?_ ?_); (exact rfl); (exact rfl); (exact rfl); (rw [← HPC.out]; exact pkc_one p); (exact rfl); (exact rfl); (exact Cs.new _ _ _ _ rfl); (exact rfl); (exact HPS.out); intro w4 k4 g4; have HJ4 : Hid (CkJ w w.heap.size a (.slice A1 a.code.length c) (.slice (some ⟨bb, oo, none⟩) a.store.length c2) wr.heap.size p w4) := Lib.hid ⟨Ab.ext HJ.out.2.1 (((Ext.refl wr).alloc _).grown g4 (Nat.le_refl _)), by rw [HPC.out]; exact k4, HJ.out.2.2.trans (((Ext.refl wr).alloc _).grown g4 (Nat.le_refl _))⟩; clear k4 g4))
       refine wp_named fun a0 ha0 => ?_
       obtain ⟨fr, hfr⟩ : ∃ fr : (Nat → Value) → Act, ∀ V, fr V = (((((((((((((((((((((a0.put (some 28) (V 0)).put (some 29) (V 1)).put (some 30) (V 2)).put (some 31) (V 3)).put (some 32) (V 4)).put (some 33) (V 5)).put (some 34) (V 6)).put (some 35) (V 7)).put (some 36) (V 8)).put (some 37) (V 9)).put (some 38) (V 10)).put (some 39) (V 11)).put (some 40) (V 12)).put (some 41) (V 13)).put (some 42) (V 14)).put (some 43) (V 15)).put (some 44) (V 16)).put (some 45) (V 17)).put (some 46) (V 18)).put (some 47) (V 19)).put (some 48) (V 20)) := ⟨_, fun _ => rfl⟩
       rw [ha0] at hfr
       simp only [Act.put, List.setIfInBounds_toArray, List.set_cons_zero, List.set_cons_succ] at hfr
       have HFR := Lib.hid hfr
       clear hfr
       refine wp_region_inv (by kernel_rfl) (by kernel_rfl) (fun L A W => ∃ V : Nat → Value, A = fr V ∧ Vals (fun j => ([some (.pointer (some ⟨wr.heap.size, 4, none⟩)), some (wv p.2), some (wv 0), some (.bool true), some (.bool true), some (undef), some (undef), some (undef), some (undef), some (undef), some (undef), some (undef), some (undef), some (undef), some (undef), some (undef), some (undef), some (undef), some (undef), some (undef), some (.bool true)] : List (Option Value)).getD j none) L V ∧ (CkJ w w.heap.size a (.slice A1 a.code.length c) (.slice (some ⟨bb, oo, none⟩) a.store.length c2) wr.heap.size p W)) ?_ ⟨?_, ?_, ?_, ?_, ?_, ?_, ?_, ?_, ?_, ?_, ?_, ?_, ?_, ?_, ?_, ?_, ?_, ?_, ?_, ?_, ?_, trivial⟩ ?_
       ·refine ⟨fun j => a0.tmps.getD (([28, 29, 30, 31, 32, 33, 34, 35, 36, 37, 38, 39, 40, 41, 42, 43, 44, 45, 46, 47, 48] : List Nat).getD j 0) undef, ?_, Vals.no _ _ _ (far_none _ _ rfl), HJ4.out.ext (Ext.refl _).drew⟩
        rw [HFR.out, ha0]
        rfl
       all_goals clear ha0
       ·rintro L A W K hL hC hW ⟨V, rfl, HV, s0⟩ hK
        have H := Lib.hid (show ∀ W', Ext W W' → K (fr (upd V 0 (.pointer (some ⟨wr.heap.size, 4, none⟩)))) W' from fun W' he => hK _ _ ⟨_, rfl, HV.us 0 _ rfl, CkJ.ext s0 he⟩)
        clear hK hC hW hL HV s0
        rw [HFR.out]
        go_wp2_with fail
        show K _ _; have := H.out _ (Ext.refl _); rw [HFR.out] at this
        exact this
       ·rintro L A W K hL hC hW ⟨V, rfl, HV, s0⟩ hK
        have e0 := HV 0 _ rfl (hW 0 rfl)
        have hB := s0
        have H := Lib.hid (show ∀ W', Ext W W' → K (fr (upd V 1 (wv p.2))) W' from fun W' he => hK _ _ ⟨_, rfl, HV.us 1 _ rfl, CkJ.ext s0 he⟩)
        have HU := Lib.hid (show (upd V 1 (wv p.2)) 0 = .pointer (some ⟨wr.heap.size, 4, none⟩) from e0)
        clear hK hC hW hL HV s0
        rw [HFR.out, e0]
        clear e0
        have HWD := Lib.hid (pkb_val hB.2.1)
        clear hB
        refine wpList_load_wordIn rfl (.tmp 28) rfl wr.heap.size 4 p.2 rfl HWD.out ?_
        show K _ _; have := H.out _ (Ext.refl _); rw [HFR.out] at this
        obtain u0 := HU.out
        rw [u0] at this
        exact this
       ·rintro L A W K hL hC hW ⟨V, rfl, HV, s0⟩ hK
        have H := Lib.hid (show ∀ W', Ext W W' → K (fr (upd V 2 (wv 0))) W' from fun W' he => hK _ _ ⟨_, rfl, HV.us 2 _ rfl, CkJ.ext s0 he⟩)
        clear hK hC hW hL HV s0
        rw [HFR.out]
        go_wp2_with fail
        show K _ _; have := H.out _ (Ext.refl _); rw [HFR.out] at this
        exact this
       ·rintro L A W K hL hC hW ⟨V, rfl, HV, s0⟩ hK
        have e1 := HV 1 _ rfl (hW 1 rfl)
        have e2 := HV 2 _ rfl (hW 2 rfl)
        have hB := s0
        have H := Lib.hid (show ∀ W', Ext W W' → K (fr (upd V 3 (.bool true))) W' from fun W' he => hK _ _ ⟨_, rfl, HV.us 3 _ rfl, CkJ.ext s0 he⟩)
        have HU := Lib.hid (show (upd V 3 (.bool true)) 1 = wv p.2 ∧ (upd V 3 (.bool true)) 2 = wv 0 from ⟨e1, e2⟩)
        clear hK hC hW hL HV s0
        rw [HFR.out, e1, e2]
        clear e1 e2
        clear hB
        refine wpList_eql_word rfl (.tmp 29) (.tmp 30) rfl p.2 0 HP2.out (by decide) rfl rfl ?_
        rw [HZ.out]
        show K _ _; have := H.out _ (Ext.refl _); rw [HFR.out] at this
        obtain ⟨u1, u2⟩ := HU.out
        rw [u1, u2] at this
        exact this
       ·rintro L A W K hL hC hW ⟨V, rfl, HV, s0⟩ hK
        have e3 := HV 3 _ rfl (hW 3 rfl)
        have H := Lib.hid (show ∀ W', Ext W W' → K (fr (upd V 4 (.bool true))) W' from fun W' he => hK _ _ ⟨_, rfl, HV.us 4 _ rfl, CkJ.ext s0 he⟩)
        have HU := Lib.hid (show (upd V 4 (.bool true)) 3 = .bool true from e3)
        clear hK hC hW hL HV s0
        rw [HFR.out, e3]
        clear e3
        go_wp2_with fail
        show K _ _; have := H.out _ (Ext.refl _); rw [HFR.out] at this
        obtain u3 := HU.out
        rw [u3] at this
        exact this
       ·rintro L A W K hL hC hW ⟨V, rfl, HV, s0⟩ hK
        have e4 := HV 4 _ rfl (hW 4 rfl)
        have H := Lib.hid (show ∀ W', Ext W W' → K (fr (upd V 5 (undef))) W' from fun W' he => hK _ _ ⟨_, rfl, HV.us 5 _ rfl, CkJ.ext s0 he⟩)
        have HU := Lib.hid (show (upd V 5 (undef)) 4 = .bool true from e4)
        clear hK hC hW hL HV s0
        rw [HFR.out, e4]
        clear e4
        go_wp2_with fail
        show K _ _; have := H.out _ (Ext.refl _); rw [HFR.out] at this
        obtain u4 := HU.out
        rw [u4] at this
        exact this
       ·rintro L A W K hL hC hW ⟨V, rfl, HV, s0⟩ hK
        have e4 := HV 4 _ rfl (hW 4 rfl)
        have e5 := HV 5 _ rfl (hW 5 rfl)
        have H := Lib.hid (show ∀ W', Ext W W' → K (fr (upd V 6 (undef))) W' from fun W' he => hK _ _ ⟨_, rfl, HV.us 6 _ rfl, CkJ.ext s0 he⟩)
        have HU := Lib.hid (show (upd V 6 (undef)) 4 = .bool true ∧ (upd V 6 (undef)) 5 = undef from ⟨e4, e5⟩)
        clear hK hC hW hL HV s0
        rw [HFR.out, e4, e5]
        clear e4 e5
        go_wp2_with fail
        show K _ _; have := H.out _ (Ext.refl _); rw [HFR.out] at this
        obtain ⟨u4, u5⟩ := HU.out
        rw [u4, u5] at this
        exact this
       ·rintro L A W K hL hC hW ⟨V, rfl, HV, s0⟩ hK
        have e4 := HV 4 _ rfl (hW 4 rfl)
        have e6 := HV 6 _ rfl (hW 6 rfl)
        have H := Lib.hid (show ∀ W', Ext W W' → K (fr (upd V 7 (undef))) W' from fun W' he => hK _ _ ⟨_, rfl, HV.us 7 _ rfl, CkJ.ext s0 he⟩)
        have HU := Lib.hid (show (upd V 7 (undef)) 4 = .bool true ∧ (upd V 7 (undef)) 6 = undef from ⟨e4, e6⟩)
        clear hK hC hW hL HV s0
        rw [HFR.out, e4, e6]
        clear e4 e6
        go_wp2_with fail
        show K _ _; have := H.out _ (Ext.refl _); rw [HFR.out] at this
        obtain ⟨u4, u6⟩ := HU.out
        rw [u4, u6] at this
        exact this
       ·rintro L A W K hL hC hW ⟨V, rfl, HV, s0⟩ hK
        have e7 := HV 7 _ rfl (hW 7 rfl)
        have H := Lib.hid (show ∀ W', Ext W W' → K (fr (upd V 8 (undef))) W' from fun W' he => hK _ _ ⟨_, rfl, HV.us 8 _ rfl, CkJ.ext s0 he⟩)
        have HU := Lib.hid (show (upd V 8 (undef)) 7 = undef from e7)
        clear hK hC hW hL HV s0
        rw [HFR.out, e7]
        clear e7
        go_wp2_with fail
        show K _ _; have := H.out _ (Ext.refl _); rw [HFR.out] at this
        obtain u7 := HU.out
        rw [u7] at this
        exact this
       ·rintro L A W K hL hC hW ⟨V, rfl, HV, s0⟩ hK
        have e7 := HV 7 _ rfl (hW 7 rfl)
        have e8 := HV 8 _ rfl (hW 8 rfl)
        have H := Lib.hid (show ∀ W', Ext W W' → K (fr (upd V 9 (undef))) W' from fun W' he => hK _ _ ⟨_, rfl, HV.us 9 _ rfl, CkJ.ext s0 he⟩)
        have HU := Lib.hid (show (upd V 9 (undef)) 7 = undef ∧ (upd V 9 (undef)) 8 = undef from ⟨e7, e8⟩)
        clear hK hC hW hL HV s0
        rw [HFR.out, e7, e8]
        clear e7 e8
        go_wp2_with fail
        show K _ _; have := H.out _ (Ext.refl _); rw [HFR.out] at this
        obtain ⟨u7, u8⟩ := HU.out
        rw [u7, u8] at this
        exact this
       ·rintro L A W K hL hC hW ⟨V, rfl, HV, s0⟩ hK
        have e7 := HV 7 _ rfl (hW 7 rfl)
        have H := Lib.hid (show ∀ W', Ext W W' → K (fr (upd V 10 (undef))) W' from fun W' he => hK _ _ ⟨_, rfl, HV.us 10 _ rfl, CkJ.ext s0 he⟩)
        have HU := Lib.hid (show (upd V 10 (undef)) 7 = undef from e7)
        clear hK hC hW hL HV s0
        rw [HFR.out, e7]
        clear e7
        go_wp2_with fail
        show K _ _; have := H.out _ (Ext.refl _); rw [HFR.out] at this
        obtain u7 := HU.out
        rw [u7] at this
        exact this
       ·rintro L A W K hL hC hW ⟨V, rfl, HV, s0⟩ hK
        have e7 := HV 7 _ rfl (hW 7 rfl)
        have e10 := HV 10 _ rfl (hW 10 rfl)
        have H := Lib.hid (show ∀ W', Ext W W' → K (fr (upd V 11 (undef))) W' from fun W' he => hK _ _ ⟨_, rfl, HV.us 11 _ rfl, CkJ.ext s0 he⟩)
        have HU := Lib.hid (show (upd V 11 (undef)) 7 = undef ∧ (upd V 11 (undef)) 10 = undef from ⟨e7, e10⟩)
        clear hK hC hW hL HV s0
        rw [HFR.out, e7, e10]
        clear e7 e10
        go_wp2_with fail
        show K _ _; have := H.out _ (Ext.refl _); rw [HFR.out] at this
        obtain ⟨u7, u10⟩ := HU.out
        rw [u7, u10] at this
        exact this
       ·rintro L A W K hL hC hW ⟨V, rfl, HV, s0⟩ hK
        have e7 := HV 7 _ rfl (hW 7 rfl)
        have e9 := HV 9 _ rfl (hW 9 rfl)
        have e11 := HV 11 _ rfl (hW 11 rfl)
        have H := Lib.hid (show ∀ W', Ext W W' → K (fr (upd V 12 (undef))) W' from fun W' he => hK _ _ ⟨_, rfl, HV.us 12 _ rfl, CkJ.ext s0 he⟩)
        have HU := Lib.hid (show (upd V 12 (undef)) 7 = undef ∧ (upd V 12 (undef)) 9 = undef ∧ (upd V 12 (undef)) 11 = undef from ⟨e7, e9, e11⟩)
        clear hK hC hW hL HV s0
        rw [HFR.out, e7, e9, e11]
        clear e7 e9 e11
        go_wp2_with fail
        show K _ _; have := H.out _ (Ext.refl _); rw [HFR.out] at this
        obtain ⟨u7, u9, u11⟩ := HU.out
        rw [u7, u9, u11] at this
        exact this
       ·rintro L A W K hL hC hW ⟨V, rfl, HV, s0⟩ hK
        have e7 := HV 7 _ rfl (hW 7 rfl)
        have e12 := HV 12 _ rfl (hW 12 rfl)
        have H := Lib.hid (show ∀ W', Ext W W' → K (fr (upd V 13 (undef))) W' from fun W' he => hK _ _ ⟨_, rfl, HV.us 13 _ rfl, CkJ.ext s0 he⟩)
        have HU := Lib.hid (show (upd V 13 (undef)) 7 = undef ∧ (upd V 13 (undef)) 12 = undef from ⟨e7, e12⟩)
        clear hK hC hW hL HV s0
        rw [HFR.out, e7, e12]
        clear e7 e12
        go_wp2_with fail
        show K _ _; have := H.out _ (Ext.refl _); rw [HFR.out] at this
        obtain ⟨u7, u12⟩ := HU.out
        rw [u7, u12] at this
        exact this
       ·rintro L A W K hL hC hW ⟨V, rfl, HV, s0⟩ hK
        have e7 := HV 7 _ rfl (hW 7 rfl)
        have e13 := HV 13 _ rfl (hW 13 rfl)
        have H := Lib.hid (show ∀ W', Ext W W' → K (fr (upd V 14 (undef))) W' from fun W' he => hK _ _ ⟨_, rfl, HV.us 14 _ rfl, CkJ.ext s0 he⟩)
        have HU := Lib.hid (show (upd V 14 (undef)) 7 = undef ∧ (upd V 14 (undef)) 13 = undef from ⟨e7, e13⟩)
        clear hK hC hW hL HV s0
        rw [HFR.out, e7, e13]
        clear e7 e13
        go_wp2_with fail
        show K _ _; have := H.out _ (Ext.refl _); rw [HFR.out] at this
        obtain ⟨u7, u13⟩ := HU.out
        rw [u7, u13] at this
        exact this
       ·rintro L A W K hL hC hW ⟨V, rfl, HV, s0⟩ hK
        have e7 := HV 7 _ rfl (hW 7 rfl)
        have H := Lib.hid (show ∀ W', Ext W W' → K (fr (upd V 15 (undef))) W' from fun W' he => hK _ _ ⟨_, rfl, HV.us 15 _ rfl, CkJ.ext s0 he⟩)
        have HU := Lib.hid (show (upd V 15 (undef)) 7 = undef from e7)
        clear hK hC hW hL HV s0
        rw [HFR.out, e7]
        clear e7
        go_wp2_with fail
        show K _ _; have := H.out _ (Ext.refl _); rw [HFR.out] at this
        obtain u7 := HU.out
        rw [u7] at this
        exact this
       ·rintro L A W K hL hC hW ⟨V, rfl, HV, s0⟩ hK
        have e7 := HV 7 _ rfl (hW 7 rfl)
        have e15 := HV 15 _ rfl (hW 15 rfl)
        have H := Lib.hid (show ∀ W', Ext W W' → K (fr (upd V 16 (undef))) W' from fun W' he => hK _ _ ⟨_, rfl, HV.us 16 _ rfl, CkJ.ext s0 he⟩)
        have HU := Lib.hid (show (upd V 16 (undef)) 7 = undef ∧ (upd V 16 (undef)) 15 = undef from ⟨e7, e15⟩)
        clear hK hC hW hL HV s0
        rw [HFR.out, e7, e15]
        clear e7 e15
        go_wp2_with fail
        show K _ _; have := H.out _ (Ext.refl _); rw [HFR.out] at this
        obtain ⟨u7, u15⟩ := HU.out
        rw [u7, u15] at this
        exact this
       ·rintro L A W K hL hC hW ⟨V, rfl, HV, s0⟩ hK
        have e7 := HV 7 _ rfl (hW 7 rfl)
        have e14 := HV 14 _ rfl (hW 14 rfl)
        have e16 := HV 16 _ rfl (hW 16 rfl)
        have H := Lib.hid (show ∀ W', Ext W W' → K (fr (upd V 17 (undef))) W' from fun W' he => hK _ _ ⟨_, rfl, HV.us 17 _ rfl, CkJ.ext s0 he⟩)
        have HU := Lib.hid (show (upd V 17 (undef)) 7 = undef ∧ (upd V 17 (undef)) 14 = undef ∧ (upd V 17 (undef)) 16 = undef from ⟨e7, e14, e16⟩)
        clear hK hC hW hL HV s0
        rw [HFR.out, e7, e14, e16]
        clear e7 e14 e16
        go_wp2_with fail
        show K _ _; have := H.out _ (Ext.refl _); rw [HFR.out] at this
        obtain ⟨u7, u14, u16⟩ := HU.out
        rw [u7, u14, u16] at this
        exact this
       ·rintro L A W K hL hC hW ⟨V, rfl, HV, s0⟩ hK
        have e7 := HV 7 _ rfl (hW 7 rfl)
        have e17 := HV 17 _ rfl (hW 17 rfl)
        have H := Lib.hid (show ∀ W', Ext W W' → K (fr (upd V 18 (undef))) W' from fun W' he => hK _ _ ⟨_, rfl, HV.us 18 _ rfl, CkJ.ext s0 he⟩)
        have HU := Lib.hid (show (upd V 18 (undef)) 7 = undef ∧ (upd V 18 (undef)) 17 = undef from ⟨e7, e17⟩)
        clear hK hC hW hL HV s0
        rw [HFR.out, e7, e17]
        clear e7 e17
        go_wp2_with fail
        show K _ _; have := H.out _ (Ext.refl _); rw [HFR.out] at this
        obtain ⟨u7, u17⟩ := HU.out
        rw [u7, u17] at this
        exact this
       ·rintro L A W K hL hC hW ⟨V, rfl, HV, s0⟩ hK
        have e4 := HV 4 _ rfl (hW 4 rfl)
        have e7 := HV 7 _ rfl (hW 7 rfl)
        have e18 := HV 18 _ rfl (hW 18 rfl)
        have H := Lib.hid (show ∀ W', Ext W W' → K (fr (upd V 19 (undef))) W' from fun W' he => hK _ _ ⟨_, rfl, HV.us 19 _ rfl, CkJ.ext s0 he⟩)
        have HU := Lib.hid (show (upd V 19 (undef)) 4 = .bool true ∧ (upd V 19 (undef)) 7 = undef ∧ (upd V 19 (undef)) 18 = undef from ⟨e4, e7, e18⟩)
        clear hK hC hW hL HV s0
        rw [HFR.out, e4, e7, e18]
        clear e4 e7 e18
        go_wp2_with fail
        show K _ _; have := H.out _ (Ext.refl _); rw [HFR.out] at this
        obtain ⟨u4, u7, u18⟩ := HU.out
        rw [u4, u7, u18] at this
        exact this
       ·rintro L A W K hL hC hW ⟨V, rfl, HV, s0⟩ hK
        have e4 := HV 4 _ rfl (hW 4 rfl)
        have e19 := HV 19 _ rfl (hW 19 rfl)
        have H := Lib.hid (show ∀ W', Ext W W' → K (fr (upd V 20 (.bool true))) W' from fun W' he => hK _ _ ⟨_, rfl, HV.us 20 _ rfl, CkJ.ext s0 he⟩)
        have HU := Lib.hid (show (upd V 20 (.bool true)) 4 = .bool true ∧ (upd V 20 (.bool true)) 19 = undef from ⟨e4, e19⟩)
        clear hK hC hW hL HV s0
        rw [HFR.out, e4, e19]
        clear e4 e19
        go_wp2_with fail
        show K _ _; have := H.out _ (Ext.refl _); rw [HFR.out] at this
        obtain ⟨u4, u19⟩ := HU.out
        rw [u4, u19] at this
        exact this
       ·rintro L A W hL ⟨V, rfl, HV, s0⟩
        have e0 := HV 0 _ rfl (hL 0 (by simp))
        have e1 := HV 1 _ rfl (hL 1 (by simp))
        have e2 := HV 2 _ rfl (hL 2 (by simp))
        have e3 := HV 3 _ rfl (hL 3 (by simp))
        have e4 := HV 4 _ rfl (hL 4 (by simp))
        have e5 := HV 5 _ rfl (hL 5 (by simp))
        have e6 := HV 6 _ rfl (hL 6 (by simp))
        have e7 := HV 7 _ rfl (hL 7 (by simp))
        have e8 := HV 8 _ rfl (hL 8 (by simp))
        have e9 := HV 9 _ rfl (hL 9 (by simp))
        have e10 := HV 10 _ rfl (hL 10 (by simp))
        have e11 := HV 11 _ rfl (hL 11 (by simp))
        have e12 := HV 12 _ rfl (hL 12 (by simp))
        have e13 := HV 13 _ rfl (hL 13 (by simp))
        have e14 := HV 14 _ rfl (hL 14 (by simp))
        have e15 := HV 15 _ rfl (hL 15 (by simp))
        have e16 := HV 16 _ rfl (hL 16 (by simp))
        have e17 := HV 17 _ rfl (hL 17 (by simp))
        have e18 := HV 18 _ rfl (hL 18 (by simp))
        have e19 := HV 19 _ rfl (hL 19 (by simp))
        have e20 := HV 20 _ rfl (hL 20 (by simp))
        have hA := s0
        rw [HFR.out, e0, e1, e2, e3, e4, e5, e6, e7, e8, e9, e10, e11, e12, e13, e14, e15, e16, e17, e18, e19, e20]
        clear hL HV HFR e0 e1 e2 e3 e4 e5 e6 e7 e8 e9 e10 e11 e12 e13 e14 e15 e16 e17 e18 e19 e20 s0
        have HEJ := Lib.hid hA.2.2
        clear hA
        go_wp2_with fail
        go_ret
        exact ⟨by rw [HF.out]; rfl, HEJ.out⟩
      ·have hz1 : (p.2 == 0) = false := by simpa using z1
       have HZ := Lib.hid hz1
       have HS2 := Lib.hid (show slB a.store k = (decide (k = 0) || decide ((a.store.getD (k - 1) (0, 0)).1 < p.1)) by rw [HS.out]; simp [z1])
       clear z1 hz1 HS
       by_cases hk0 : k = 0
       ·subst hk0
        have HN := Lib.hid (show ∀ i, i < 0 + 1 → slB a.store i = true from fun i hi => by
         obtain rfl : i = 0 := by omega
         rw [HS2.out]; simp)
        clear HS2 HPR
        go_upto_region 6 with (first
         | ((with_reducible refine wpList_load_pair ?_ (.tmp 26) ?_ bb (oo + 0 * 8) p ?_ ?_ ?_); (exact rfl); (exact rfl); (exact rfl); (exact HR.out); rw [HPC.out])
         | ((with_reducible refine wpList_store_agg ?_ ?_ 106 (.tmp 4) (.tmp 27) ?_ pkinfo wr.heap.size (pkc (0, 0)) pc ?_ ?_ ?_ ?_ ?_ ?_ ?_); (exact rfl); (exact rfl); (exact rfl); (rw [← HPC.out]; exact pkc_one p); (exact rfl); (exact rfl); (exact Cs.new _ _ _ _ rfl); (exact rfl); (exact HPS.out); intro w4 k4 g4; have HJ4 : Hid (CkJ w w.heap.size a (.slice A1 a.code.length c) (.slice (some ⟨bb, oo, none⟩) a.store.length c2) wr.heap.size p w4) := Lib.hid ⟨Ab.ext HJ.out.2.1 (((Ext.refl wr).alloc _).grown g4 (Nat.le_refl _)), by rw [HPC.out]; exact k4, HJ.out.2.2.trans (((Ext.refl wr).alloc _).grown g4 (Nat.le_refl _))⟩; clear k4 g4))
        refine wp_named fun a0 ha0 => ?_
        obtain ⟨fr, hfr⟩ : ∃ fr : (Nat → Value) → Act, ∀ V, fr V = (((((((((((((((((((((a0.put (some 28) (V 0)).put (some 29) (V 1)).put (some 30) (V 2)).put (some 31) (V 3)).put (some 32) (V 4)).put (some 33) (V 5)).put (some 34) (V 6)).put (some 35) (V 7)).put (some 36) (V 8)).put (some 37) (V 9)).put (some 38) (V 10)).put (some 39) (V 11)).put (some 40) (V 12)).put (some 41) (V 13)).put (some 42) (V 14)).put (some 43) (V 15)).put (some 44) (V 16)).put (some 45) (V 17)).put (some 46) (V 18)).put (some 47) (V 19)).put (some 48) (V 20)) := ⟨_, fun _ => rfl⟩
        rw [ha0] at hfr
        simp only [Act.put, List.setIfInBounds_toArray, List.set_cons_zero, List.set_cons_succ] at hfr
        have HFR := Lib.hid hfr
        clear hfr
        refine wp_region_inv (by kernel_rfl) (by kernel_rfl) (fun L A W => ∃ V : Nat → Value, A = fr V ∧ Vals (fun j => ([some (.pointer (some ⟨wr.heap.size, 4, none⟩)), some (wv p.2), some (wv 0), some (.bool false), some (.bool false), some (.int .i64 0), some (.bool false), some (.bool false), some (undef), some (undef), some (undef), some (undef), some (undef), some (undef), some (undef), some (undef), some (undef), some (undef), some (undef), some (.bool false), some (.bool false)] : List (Option Value)).getD j none) L V ∧ (CkJ w w.heap.size a (.slice A1 a.code.length c) (.slice (some ⟨bb, oo, none⟩) a.store.length c2) wr.heap.size p W)) ?_ ⟨?_, ?_, ?_, ?_, ?_, ?_, ?_, ?_, ?_, ?_, ?_, ?_, ?_, ?_, ?_, ?_, ?_, ?_, ?_, ?_, ?_, trivial⟩ ?_
        ·refine ⟨fun j => a0.tmps.getD (([28, 29, 30, 31, 32, 33, 34, 35, 36, 37, 38, 39, 40, 41, 42, 43, 44, 45, 46, 47, 48] : List Nat).getD j 0) undef, ?_, Vals.no _ _ _ (far_none _ _ rfl), HJ4.out.ext (Ext.refl _).drew⟩
         rw [HFR.out, ha0]
         rfl
        all_goals clear ha0
        ·rintro L A W K hL hC hW ⟨V, rfl, HV, s0⟩ hK
         have H := Lib.hid (show ∀ W', Ext W W' → K (fr (upd V 0 (.pointer (some ⟨wr.heap.size, 4, none⟩)))) W' from fun W' he => hK _ _ ⟨_, rfl, HV.us 0 _ rfl, CkJ.ext s0 he⟩)
         clear hK hC hW hL HV s0
         rw [HFR.out]
         go_wp2_with fail
         show K _ _; have := H.out _ (Ext.refl _); rw [HFR.out] at this
         exact this
        ·rintro L A W K hL hC hW ⟨V, rfl, HV, s0⟩ hK
         have e0 := HV 0 _ rfl (hW 0 rfl)
         have hB := s0
         have H := Lib.hid (show ∀ W', Ext W W' → K (fr (upd V 1 (wv p.2))) W' from fun W' he => hK _ _ ⟨_, rfl, HV.us 1 _ rfl, CkJ.ext s0 he⟩)
         have HU := Lib.hid (show (upd V 1 (wv p.2)) 0 = .pointer (some ⟨wr.heap.size, 4, none⟩) from e0)
         clear hK hC hW hL HV s0
         rw [HFR.out, e0]
         clear e0
         have HWD := Lib.hid (pkb_val hB.2.1)
         clear hB
         refine wpList_load_wordIn rfl (.tmp 28) rfl wr.heap.size 4 p.2 rfl HWD.out ?_
         show K _ _; have := H.out _ (Ext.refl _); rw [HFR.out] at this
         obtain u0 := HU.out
         rw [u0] at this
         exact this
        ·rintro L A W K hL hC hW ⟨V, rfl, HV, s0⟩ hK
         have H := Lib.hid (show ∀ W', Ext W W' → K (fr (upd V 2 (wv 0))) W' from fun W' he => hK _ _ ⟨_, rfl, HV.us 2 _ rfl, CkJ.ext s0 he⟩)
         clear hK hC hW hL HV s0
         rw [HFR.out]
         go_wp2_with fail
         show K _ _; have := H.out _ (Ext.refl _); rw [HFR.out] at this
         exact this
        ·rintro L A W K hL hC hW ⟨V, rfl, HV, s0⟩ hK
         have e1 := HV 1 _ rfl (hW 1 rfl)
         have e2 := HV 2 _ rfl (hW 2 rfl)
         have hB := s0
         have H := Lib.hid (show ∀ W', Ext W W' → K (fr (upd V 3 (.bool false))) W' from fun W' he => hK _ _ ⟨_, rfl, HV.us 3 _ rfl, CkJ.ext s0 he⟩)
         have HU := Lib.hid (show (upd V 3 (.bool false)) 1 = wv p.2 ∧ (upd V 3 (.bool false)) 2 = wv 0 from ⟨e1, e2⟩)
         clear hK hC hW hL HV s0
         rw [HFR.out, e1, e2]
         clear e1 e2
         clear hB
         refine wpList_eql_word rfl (.tmp 29) (.tmp 30) rfl p.2 0 HP2.out (by decide) rfl rfl ?_
         rw [HZ.out]
         show K _ _; have := H.out _ (Ext.refl _); rw [HFR.out] at this
         obtain ⟨u1, u2⟩ := HU.out
         rw [u1, u2] at this
         exact this
        ·rintro L A W K hL hC hW ⟨V, rfl, HV, s0⟩ hK
         have e3 := HV 3 _ rfl (hW 3 rfl)
         have H := Lib.hid (show ∀ W', Ext W W' → K (fr (upd V 4 (.bool false))) W' from fun W' he => hK _ _ ⟨_, rfl, HV.us 4 _ rfl, CkJ.ext s0 he⟩)
         have HU := Lib.hid (show (upd V 4 (.bool false)) 3 = .bool false from e3)
         clear hK hC hW hL HV s0
         rw [HFR.out, e3]
         clear e3
         go_wp2_with fail
         show K _ _; have := H.out _ (Ext.refl _); rw [HFR.out] at this
         obtain u3 := HU.out
         rw [u3] at this
         exact this
        ·rintro L A W K hL hC hW ⟨V, rfl, HV, s0⟩ hK
         have e4 := HV 4 _ rfl (hW 4 rfl)
         have H := Lib.hid (show ∀ W', Ext W W' → K (fr (upd V 5 (.int .i64 0))) W' from fun W' he => hK _ _ ⟨_, rfl, HV.us 5 _ rfl, CkJ.ext s0 he⟩)
         have HU := Lib.hid (show (upd V 5 (.int .i64 0)) 4 = .bool false from e4)
         clear hK hC hW hL HV s0
         rw [HFR.out, e4]
         clear e4
         go_wp2_with fail
         show K _ _; have := H.out _ (Ext.refl _); rw [HFR.out] at this
         obtain u4 := HU.out
         rw [u4] at this
         exact this
        ·rintro L A W K hL hC hW ⟨V, rfl, HV, s0⟩ hK
         have e4 := HV 4 _ rfl (hW 4 rfl)
         have e5 := HV 5 _ rfl (hW 5 rfl)
         have H := Lib.hid (show ∀ W', Ext W W' → K (fr (upd V 6 (.bool false))) W' from fun W' he => hK _ _ ⟨_, rfl, HV.us 6 _ rfl, CkJ.ext s0 he⟩)
         have HU := Lib.hid (show (upd V 6 (.bool false)) 4 = .bool false ∧ (upd V 6 (.bool false)) 5 = .int .i64 0 from ⟨e4, e5⟩)
         clear hK hC hW hL HV s0
         rw [HFR.out, e4, e5]
         clear e4 e5
         go_wp2_with fail
         show K _ _; have := H.out _ (Ext.refl _); rw [HFR.out] at this
         obtain ⟨u4, u5⟩ := HU.out
         rw [u4, u5] at this
         exact this
        ·rintro L A W K hL hC hW ⟨V, rfl, HV, s0⟩ hK
         have e4 := HV 4 _ rfl (hW 4 rfl)
         have e6 := HV 6 _ rfl (hW 6 rfl)
         have H := Lib.hid (show ∀ W', Ext W W' → K (fr (upd V 7 (.bool false))) W' from fun W' he => hK _ _ ⟨_, rfl, HV.us 7 _ rfl, CkJ.ext s0 he⟩)
         have HU := Lib.hid (show (upd V 7 (.bool false)) 4 = .bool false ∧ (upd V 7 (.bool false)) 6 = .bool false from ⟨e4, e6⟩)
         clear hK hC hW hL HV s0
         rw [HFR.out, e4, e6]
         clear e4 e6
         go_wp2_with fail
         show K _ _; have := H.out _ (Ext.refl _); rw [HFR.out] at this
         obtain ⟨u4, u6⟩ := HU.out
         rw [u4, u6] at this
         exact this
        ·rintro L A W K hL hC hW ⟨V, rfl, HV, s0⟩ hK
         have e7 := HV 7 _ rfl (hW 7 rfl)
         have H := Lib.hid (show ∀ W', Ext W W' → K (fr (upd V 8 (undef))) W' from fun W' he => hK _ _ ⟨_, rfl, HV.us 8 _ rfl, CkJ.ext s0 he⟩)
         have HU := Lib.hid (show (upd V 8 (undef)) 7 = .bool false from e7)
         clear hK hC hW hL HV s0
         rw [HFR.out, e7]
         clear e7
         go_wp2_with fail
         show K _ _; have := H.out _ (Ext.refl _); rw [HFR.out] at this
         obtain u7 := HU.out
         rw [u7] at this
         exact this
        ·rintro L A W K hL hC hW ⟨V, rfl, HV, s0⟩ hK
         have e7 := HV 7 _ rfl (hW 7 rfl)
         have e8 := HV 8 _ rfl (hW 8 rfl)
         have H := Lib.hid (show ∀ W', Ext W W' → K (fr (upd V 9 (undef))) W' from fun W' he => hK _ _ ⟨_, rfl, HV.us 9 _ rfl, CkJ.ext s0 he⟩)
         have HU := Lib.hid (show (upd V 9 (undef)) 7 = .bool false ∧ (upd V 9 (undef)) 8 = undef from ⟨e7, e8⟩)
         clear hK hC hW hL HV s0
         rw [HFR.out, e7, e8]
         clear e7 e8
         go_wp2_with fail
         show K _ _; have := H.out _ (Ext.refl _); rw [HFR.out] at this
         obtain ⟨u7, u8⟩ := HU.out
         rw [u7, u8] at this
         exact this
        ·rintro L A W K hL hC hW ⟨V, rfl, HV, s0⟩ hK
         have e7 := HV 7 _ rfl (hW 7 rfl)
         have H := Lib.hid (show ∀ W', Ext W W' → K (fr (upd V 10 (undef))) W' from fun W' he => hK _ _ ⟨_, rfl, HV.us 10 _ rfl, CkJ.ext s0 he⟩)
         have HU := Lib.hid (show (upd V 10 (undef)) 7 = .bool false from e7)
         clear hK hC hW hL HV s0
         rw [HFR.out, e7]
         clear e7
         go_wp2_with fail
         show K _ _; have := H.out _ (Ext.refl _); rw [HFR.out] at this
         obtain u7 := HU.out
         rw [u7] at this
         exact this
        ·rintro L A W K hL hC hW ⟨V, rfl, HV, s0⟩ hK
         have e7 := HV 7 _ rfl (hW 7 rfl)
         have e10 := HV 10 _ rfl (hW 10 rfl)
         have H := Lib.hid (show ∀ W', Ext W W' → K (fr (upd V 11 (undef))) W' from fun W' he => hK _ _ ⟨_, rfl, HV.us 11 _ rfl, CkJ.ext s0 he⟩)
         have HU := Lib.hid (show (upd V 11 (undef)) 7 = .bool false ∧ (upd V 11 (undef)) 10 = undef from ⟨e7, e10⟩)
         clear hK hC hW hL HV s0
         rw [HFR.out, e7, e10]
         clear e7 e10
         go_wp2_with fail
         show K _ _; have := H.out _ (Ext.refl _); rw [HFR.out] at this
         obtain ⟨u7, u10⟩ := HU.out
         rw [u7, u10] at this
         exact this
        ·rintro L A W K hL hC hW ⟨V, rfl, HV, s0⟩ hK
         have e7 := HV 7 _ rfl (hW 7 rfl)
         have e9 := HV 9 _ rfl (hW 9 rfl)
         have e11 := HV 11 _ rfl (hW 11 rfl)
         have H := Lib.hid (show ∀ W', Ext W W' → K (fr (upd V 12 (undef))) W' from fun W' he => hK _ _ ⟨_, rfl, HV.us 12 _ rfl, CkJ.ext s0 he⟩)
         have HU := Lib.hid (show (upd V 12 (undef)) 7 = .bool false ∧ (upd V 12 (undef)) 9 = undef ∧ (upd V 12 (undef)) 11 = undef from ⟨e7, e9, e11⟩)
         clear hK hC hW hL HV s0
         rw [HFR.out, e7, e9, e11]
         clear e7 e9 e11
         go_wp2_with fail
         show K _ _; have := H.out _ (Ext.refl _); rw [HFR.out] at this
         obtain ⟨u7, u9, u11⟩ := HU.out
         rw [u7, u9, u11] at this
         exact this
        ·rintro L A W K hL hC hW ⟨V, rfl, HV, s0⟩ hK
         have e7 := HV 7 _ rfl (hW 7 rfl)
         have e12 := HV 12 _ rfl (hW 12 rfl)
         have H := Lib.hid (show ∀ W', Ext W W' → K (fr (upd V 13 (undef))) W' from fun W' he => hK _ _ ⟨_, rfl, HV.us 13 _ rfl, CkJ.ext s0 he⟩)
         have HU := Lib.hid (show (upd V 13 (undef)) 7 = .bool false ∧ (upd V 13 (undef)) 12 = undef from ⟨e7, e12⟩)
         clear hK hC hW hL HV s0
         rw [HFR.out, e7, e12]
         clear e7 e12
         go_wp2_with fail
         show K _ _; have := H.out _ (Ext.refl _); rw [HFR.out] at this
         obtain ⟨u7, u12⟩ := HU.out
         rw [u7, u12] at this
         exact this
        ·rintro L A W K hL hC hW ⟨V, rfl, HV, s0⟩ hK
         have e7 := HV 7 _ rfl (hW 7 rfl)
         have e13 := HV 13 _ rfl (hW 13 rfl)
         have H := Lib.hid (show ∀ W', Ext W W' → K (fr (upd V 14 (undef))) W' from fun W' he => hK _ _ ⟨_, rfl, HV.us 14 _ rfl, CkJ.ext s0 he⟩)
         have HU := Lib.hid (show (upd V 14 (undef)) 7 = .bool false ∧ (upd V 14 (undef)) 13 = undef from ⟨e7, e13⟩)
         clear hK hC hW hL HV s0
         rw [HFR.out, e7, e13]
         clear e7 e13
         go_wp2_with fail
         show K _ _; have := H.out _ (Ext.refl _); rw [HFR.out] at this
         obtain ⟨u7, u13⟩ := HU.out
         rw [u7, u13] at this
         exact this
        ·rintro L A W K hL hC hW ⟨V, rfl, HV, s0⟩ hK
         have e7 := HV 7 _ rfl (hW 7 rfl)
         have H := Lib.hid (show ∀ W', Ext W W' → K (fr (upd V 15 (undef))) W' from fun W' he => hK _ _ ⟨_, rfl, HV.us 15 _ rfl, CkJ.ext s0 he⟩)
         have HU := Lib.hid (show (upd V 15 (undef)) 7 = .bool false from e7)
         clear hK hC hW hL HV s0
         rw [HFR.out, e7]
         clear e7
         go_wp2_with fail
         show K _ _; have := H.out _ (Ext.refl _); rw [HFR.out] at this
         obtain u7 := HU.out
         rw [u7] at this
         exact this
        ·rintro L A W K hL hC hW ⟨V, rfl, HV, s0⟩ hK
         have e7 := HV 7 _ rfl (hW 7 rfl)
         have e15 := HV 15 _ rfl (hW 15 rfl)
         have H := Lib.hid (show ∀ W', Ext W W' → K (fr (upd V 16 (undef))) W' from fun W' he => hK _ _ ⟨_, rfl, HV.us 16 _ rfl, CkJ.ext s0 he⟩)
         have HU := Lib.hid (show (upd V 16 (undef)) 7 = .bool false ∧ (upd V 16 (undef)) 15 = undef from ⟨e7, e15⟩)
         clear hK hC hW hL HV s0
         rw [HFR.out, e7, e15]
         clear e7 e15
         go_wp2_with fail
         show K _ _; have := H.out _ (Ext.refl _); rw [HFR.out] at this
         obtain ⟨u7, u15⟩ := HU.out
         rw [u7, u15] at this
         exact this
        ·rintro L A W K hL hC hW ⟨V, rfl, HV, s0⟩ hK
         have e7 := HV 7 _ rfl (hW 7 rfl)
         have e14 := HV 14 _ rfl (hW 14 rfl)
         have e16 := HV 16 _ rfl (hW 16 rfl)
         have H := Lib.hid (show ∀ W', Ext W W' → K (fr (upd V 17 (undef))) W' from fun W' he => hK _ _ ⟨_, rfl, HV.us 17 _ rfl, CkJ.ext s0 he⟩)
         have HU := Lib.hid (show (upd V 17 (undef)) 7 = .bool false ∧ (upd V 17 (undef)) 14 = undef ∧ (upd V 17 (undef)) 16 = undef from ⟨e7, e14, e16⟩)
         clear hK hC hW hL HV s0
         rw [HFR.out, e7, e14, e16]
         clear e7 e14 e16
         go_wp2_with fail
         show K _ _; have := H.out _ (Ext.refl _); rw [HFR.out] at this
         obtain ⟨u7, u14, u16⟩ := HU.out
         rw [u7, u14, u16] at this
         exact this
        ·rintro L A W K hL hC hW ⟨V, rfl, HV, s0⟩ hK
         have e7 := HV 7 _ rfl (hW 7 rfl)
         have e17 := HV 17 _ rfl (hW 17 rfl)
         have H := Lib.hid (show ∀ W', Ext W W' → K (fr (upd V 18 (undef))) W' from fun W' he => hK _ _ ⟨_, rfl, HV.us 18 _ rfl, CkJ.ext s0 he⟩)
         have HU := Lib.hid (show (upd V 18 (undef)) 7 = .bool false ∧ (upd V 18 (undef)) 17 = undef from ⟨e7, e17⟩)
         clear hK hC hW hL HV s0
         rw [HFR.out, e7, e17]
         clear e7 e17
         go_wp2_with fail
         show K _ _; have := H.out _ (Ext.refl _); rw [HFR.out] at this
         obtain ⟨u7, u17⟩ := HU.out
         rw [u7, u17] at this
         exact this
        ·rintro L A W K hL hC hW ⟨V, rfl, HV, s0⟩ hK
         have e4 := HV 4 _ rfl (hW 4 rfl)
         have e7 := HV 7 _ rfl (hW 7 rfl)
         have e18 := HV 18 _ rfl (hW 18 rfl)
         have H := Lib.hid (show ∀ W', Ext W W' → K (fr (upd V 19 (.bool false))) W' from fun W' he => hK _ _ ⟨_, rfl, HV.us 19 _ rfl, CkJ.ext s0 he⟩)
         have HU := Lib.hid (show (upd V 19 (.bool false)) 4 = .bool false ∧ (upd V 19 (.bool false)) 7 = .bool false ∧ (upd V 19 (.bool false)) 18 = undef from ⟨e4, e7, e18⟩)
         clear hK hC hW hL HV s0
         rw [HFR.out, e4, e7, e18]
         clear e4 e7 e18
         go_wp2_with fail
         show K _ _; have := H.out _ (Ext.refl _); rw [HFR.out] at this
         obtain ⟨u4, u7, u18⟩ := HU.out
         rw [u4, u7, u18] at this
         exact this
        ·rintro L A W K hL hC hW ⟨V, rfl, HV, s0⟩ hK
         have e4 := HV 4 _ rfl (hW 4 rfl)
         have e19 := HV 19 _ rfl (hW 19 rfl)
         have H := Lib.hid (show ∀ W', Ext W W' → K (fr (upd V 20 (.bool false))) W' from fun W' he => hK _ _ ⟨_, rfl, HV.us 20 _ rfl, CkJ.ext s0 he⟩)
         have HU := Lib.hid (show (upd V 20 (.bool false)) 4 = .bool false ∧ (upd V 20 (.bool false)) 19 = .bool false from ⟨e4, e19⟩)
         clear hK hC hW hL HV s0
         rw [HFR.out, e4, e19]
         clear e4 e19
         go_wp2_with fail
         show K _ _; have := H.out _ (Ext.refl _); rw [HFR.out] at this
         obtain ⟨u4, u19⟩ := HU.out
         rw [u4, u19] at this
         exact this
        ·rintro L A W hL ⟨V, rfl, HV, s0⟩
         have e0 := HV 0 _ rfl (hL 0 (by simp))
         have e1 := HV 1 _ rfl (hL 1 (by simp))
         have e2 := HV 2 _ rfl (hL 2 (by simp))
         have e3 := HV 3 _ rfl (hL 3 (by simp))
         have e4 := HV 4 _ rfl (hL 4 (by simp))
         have e5 := HV 5 _ rfl (hL 5 (by simp))
         have e6 := HV 6 _ rfl (hL 6 (by simp))
         have e7 := HV 7 _ rfl (hL 7 (by simp))
         have e8 := HV 8 _ rfl (hL 8 (by simp))
         have e9 := HV 9 _ rfl (hL 9 (by simp))
         have e10 := HV 10 _ rfl (hL 10 (by simp))
         have e11 := HV 11 _ rfl (hL 11 (by simp))
         have e12 := HV 12 _ rfl (hL 12 (by simp))
         have e13 := HV 13 _ rfl (hL 13 (by simp))
         have e14 := HV 14 _ rfl (hL 14 (by simp))
         have e15 := HV 15 _ rfl (hL 15 (by simp))
         have e16 := HV 16 _ rfl (hL 16 (by simp))
         have e17 := HV 17 _ rfl (hL 17 (by simp))
         have e18 := HV 18 _ rfl (hL 18 (by simp))
         have e19 := HV 19 _ rfl (hL 19 (by simp))
         have e20 := HV 20 _ rfl (hL 20 (by simp))
         have hA := s0
         rw [HFR.out, e0, e1, e2, e3, e4, e5, e6, e7, e8, e9, e10, e11, e12, e13, e14, e15, e16, e17, e18, e19, e20]
         clear hL HV HFR e0 e1 e2 e3 e4 e5 e6 e7 e8 e9 e10 e11 e12 e13 e14 e15 e16 e17 e18 e19 e20 s0
         have HEJ := Lib.hid hA.2.2
         have HAB := Lib.hid hA.1
         clear hA
         go_wp2_with fail
         exact ⟨⟨0 + 1, by omega, by go_num, Lib.hid ⟨HN.out, HAB.out, HEJ.out⟩⟩, by simp [intOf]; omega⟩
       ·obtain ⟨m, rfl⟩ : ∃ m, k = m + 1 := ⟨k - 1, by omega⟩
        obtain ⟨b', o', e', hr', hq1, hq2⟩ := HPR.out (by omega)
        simp only [Option.some.injEq, Addr.mk.injEq, and_true] at e'
        obtain ⟨rfl, rfl⟩ := e'
        simp only [Nat.add_sub_cancel] at hr' hq1 hq2
        have HRP := Lib.hid hr'
        have HQ1 := Lib.hid hq1
        have HS3 := Lib.hid (show slB a.store (m + 1) = decide ((a.store.getD m (0, 0)).1 < p.1) by rw [HS2.out]; simp)
        clear hr' hq1 hq2 HS2 HPR hk0
        generalize a.store.getD m (0, 0) = q at *
        have hm1 : m < a.store.length := by omega
        have hm2 : decide (m < a.store.length) = true := decide_eq_true hm1
        have HCM := Lib.hid (cmp_ge q.1 p.1)
        obtain ⟨r, hr⟩ : ∃ r, cmpN q.1 p.1 = r := ⟨_, rfl⟩
        obtain ⟨rb, hrb⟩ : ∃ rb, decide (0 ≤ r) = rb := ⟨_, rfl⟩
        have HRR := Lib.hid hr
        have HRB := Lib.hid hrb
        clear hr
        go_upto_region 6 with (first
         | ((with_reducible refine wpList_load_pair ?_ (.tmp 26) ?_ bb (oo + (m + 1) * 8) p ?_ ?_ ?_); (exact rfl); (exact rfl); (exact rfl); (exact HR.out); rw [HPC.out])
         | ((with_reducible refine wpList_store_agg ?_ ?_ 106 (.tmp 4) (.tmp 27) ?_ pkinfo wr.heap.size (pkc (0, 0)) pc ?_ ?_ ?_ ?_ ?_ ?_ ?_); (exact rfl); (exact rfl); (exact rfl); (rw [← HPC.out]; exact pkc_one p); (exact rfl); (exact rfl); (exact Cs.new _ _ _ _ rfl); (exact rfl); (exact HPS.out); intro w4 k4 g4; have HJ4 : Hid (CkJ w w.heap.size a (.slice A1 a.code.length c) (.slice (some ⟨bb, oo, none⟩) a.store.length c2) wr.heap.size p w4) := Lib.hid ⟨Ab.ext HJ.out.2.1 (((Ext.refl wr).alloc _).grown g4 (Nat.le_refl _)), by rw [HPC.out]; exact k4, HJ.out.2.2.trans (((Ext.refl wr).alloc _).grown g4 (Nat.le_refl _))⟩; clear k4 g4))
        refine wp_named fun a0 ha0 => ?_
        obtain ⟨fr, hfr⟩ : ∃ fr : (Nat → Value) → Act, ∀ V, fr V = (((((((((((((((((((((a0.put (some 28) (V 0)).put (some 29) (V 1)).put (some 30) (V 2)).put (some 31) (V 3)).put (some 32) (V 4)).put (some 33) (V 5)).put (some 34) (V 6)).put (some 35) (V 7)).put (some 36) (V 8)).put (some 37) (V 9)).put (some 38) (V 10)).put (some 39) (V 11)).put (some 40) (V 12)).put (some 41) (V 13)).put (some 42) (V 14)).put (some 43) (V 15)).put (some 44) (V 16)).put (some 45) (V 17)).put (some 46) (V 18)).put (some 47) (V 19)).put (some 48) (V 20)) := ⟨_, fun _ => rfl⟩
        rw [ha0] at hfr
        simp only [Act.put, List.setIfInBounds_toArray, List.set_cons_zero, List.set_cons_succ] at hfr
        have HFR := Lib.hid hfr
        clear hfr
        refine wp_region_inv (by kernel_rfl) (by kernel_rfl) (fun L A W => ∃ V : Nat → Value, A = fr V ∧ Vals (fun j => ([some (.pointer (some ⟨wr.heap.size, 4, none⟩)), some (wv p.2), some (wv 0), some (.bool false), some (.bool false), some (.int .i64 ((m : Int) + 1)), some (.bool true), some (.bool true), some (.pointer (some ⟨w.heap.size, 7, none⟩)), some (.slice (some ⟨bb, oo, none⟩) a.store.length c2), some (.int .i64 ((m : Int) + 1)), some (.int .i64 (m : Nat)), some (.pointer (some ⟨bb, oo + m * 8, none⟩)), some (.pointer (some ⟨bb, oo + m * 8, none⟩)), some (wv q.1), some (.pointer (some ⟨wr.heap.size, 0, none⟩)), some (wv p.1), some (.int .i64 r), some (.bool rb), some (.bool rb), some (.bool rb)] : List (Option Value)).getD j none) L V ∧ (CkJ w w.heap.size a (.slice A1 a.code.length c) (.slice (some ⟨bb, oo, none⟩) a.store.length c2) wr.heap.size p W)) ?_ ⟨?_, ?_, ?_, ?_, ?_, ?_, ?_, ?_, ?_, ?_, ?_, ?_, ?_, ?_, ?_, ?_, ?_, ?_, ?_, ?_, ?_, trivial⟩ ?_
        ·refine ⟨fun j => a0.tmps.getD (([28, 29, 30, 31, 32, 33, 34, 35, 36, 37, 38, 39, 40, 41, 42, 43, 44, 45, 46, 47, 48] : List Nat).getD j 0) undef, ?_, Vals.no _ _ _ (far_none _ _ rfl), HJ4.out.ext (Ext.refl _).drew⟩
         rw [HFR.out, ha0]
         rfl
        all_goals clear ha0
        ·rintro L A W K hL hC hW ⟨V, rfl, HV, s0⟩ hK
         have H := Lib.hid (show ∀ W', Ext W W' → K (fr (upd V 0 (.pointer (some ⟨wr.heap.size, 4, none⟩)))) W' from fun W' he => hK _ _ ⟨_, rfl, HV.us 0 _ rfl, CkJ.ext s0 he⟩)
         clear hK hC hW hL HV s0
         rw [HFR.out]
         go_wp2_with fail
         show K _ _; have := H.out _ (Ext.refl _); rw [HFR.out] at this
         exact this
        ·rintro L A W K hL hC hW ⟨V, rfl, HV, s0⟩ hK
         have e0 := HV 0 _ rfl (hW 0 rfl)
         have hB := s0
         have H := Lib.hid (show ∀ W', Ext W W' → K (fr (upd V 1 (wv p.2))) W' from fun W' he => hK _ _ ⟨_, rfl, HV.us 1 _ rfl, CkJ.ext s0 he⟩)
         have HU := Lib.hid (show (upd V 1 (wv p.2)) 0 = .pointer (some ⟨wr.heap.size, 4, none⟩) from e0)
         clear hK hC hW hL HV s0
         rw [HFR.out, e0]
         clear e0
         have HWD := Lib.hid (pkb_val hB.2.1)
         clear hB
         refine wpList_load_wordIn rfl (.tmp 28) rfl wr.heap.size 4 p.2 rfl HWD.out ?_
         show K _ _; have := H.out _ (Ext.refl _); rw [HFR.out] at this
         obtain u0 := HU.out
         rw [u0] at this
         exact this
        ·rintro L A W K hL hC hW ⟨V, rfl, HV, s0⟩ hK
         have H := Lib.hid (show ∀ W', Ext W W' → K (fr (upd V 2 (wv 0))) W' from fun W' he => hK _ _ ⟨_, rfl, HV.us 2 _ rfl, CkJ.ext s0 he⟩)
         clear hK hC hW hL HV s0
         rw [HFR.out]
         go_wp2_with fail
         show K _ _; have := H.out _ (Ext.refl _); rw [HFR.out] at this
         exact this
        ·rintro L A W K hL hC hW ⟨V, rfl, HV, s0⟩ hK
         have e1 := HV 1 _ rfl (hW 1 rfl)
         have e2 := HV 2 _ rfl (hW 2 rfl)
         have hB := s0
         have H := Lib.hid (show ∀ W', Ext W W' → K (fr (upd V 3 (.bool false))) W' from fun W' he => hK _ _ ⟨_, rfl, HV.us 3 _ rfl, CkJ.ext s0 he⟩)
         have HU := Lib.hid (show (upd V 3 (.bool false)) 1 = wv p.2 ∧ (upd V 3 (.bool false)) 2 = wv 0 from ⟨e1, e2⟩)
         clear hK hC hW hL HV s0
         rw [HFR.out, e1, e2]
         clear e1 e2
         clear hB
         refine wpList_eql_word rfl (.tmp 29) (.tmp 30) rfl p.2 0 HP2.out (by decide) rfl rfl ?_
         rw [HZ.out]
         show K _ _; have := H.out _ (Ext.refl _); rw [HFR.out] at this
         obtain ⟨u1, u2⟩ := HU.out
         rw [u1, u2] at this
         exact this
        ·rintro L A W K hL hC hW ⟨V, rfl, HV, s0⟩ hK
         have e3 := HV 3 _ rfl (hW 3 rfl)
         have H := Lib.hid (show ∀ W', Ext W W' → K (fr (upd V 4 (.bool false))) W' from fun W' he => hK _ _ ⟨_, rfl, HV.us 4 _ rfl, CkJ.ext s0 he⟩)
         have HU := Lib.hid (show (upd V 4 (.bool false)) 3 = .bool false from e3)
         clear hK hC hW hL HV s0
         rw [HFR.out, e3]
         clear e3
         go_wp2_with fail
         show K _ _; have := H.out _ (Ext.refl _); rw [HFR.out] at this
         obtain u3 := HU.out
         rw [u3] at this
         exact this
        ·rintro L A W K hL hC hW ⟨V, rfl, HV, s0⟩ hK
         have e4 := HV 4 _ rfl (hW 4 rfl)
         have H := Lib.hid (show ∀ W', Ext W W' → K (fr (upd V 5 (.int .i64 ((m : Int) + 1)))) W' from fun W' he => hK _ _ ⟨_, rfl, HV.us 5 _ rfl, CkJ.ext s0 he⟩)
         have HU := Lib.hid (show (upd V 5 (.int .i64 ((m : Int) + 1))) 4 = .bool false from e4)
         clear hK hC hW hL HV s0
         rw [HFR.out, e4]
         clear e4
         go_wp2_with fail
         show K _ _; have := H.out _ (Ext.refl _); rw [HFR.out] at this
         obtain u4 := HU.out
         rw [u4] at this
         exact this
        ·rintro L A W K hL hC hW ⟨V, rfl, HV, s0⟩ hK
         have e4 := HV 4 _ rfl (hW 4 rfl)
         have e5 := HV 5 _ rfl (hW 5 rfl)
         have H := Lib.hid (show ∀ W', Ext W W' → K (fr (upd V 6 (.bool true))) W' from fun W' he => hK _ _ ⟨_, rfl, HV.us 6 _ rfl, CkJ.ext s0 he⟩)
         have HU := Lib.hid (show (upd V 6 (.bool true)) 4 = .bool false ∧ (upd V 6 (.bool true)) 5 = .int .i64 ((m : Int) + 1) from ⟨e4, e5⟩)
         clear hK hC hW hL HV s0
         rw [HFR.out, e4, e5]
         clear e4 e5
         go_wp2_with fail
         show K _ _; have := H.out _ (Ext.refl _); rw [HFR.out] at this
         obtain ⟨u4, u5⟩ := HU.out
         rw [u4, u5] at this
         exact this
        ·rintro L A W K hL hC hW ⟨V, rfl, HV, s0⟩ hK
         have e4 := HV 4 _ rfl (hW 4 rfl)
         have e6 := HV 6 _ rfl (hW 6 rfl)
         have H := Lib.hid (show ∀ W', Ext W W' → K (fr (upd V 7 (.bool true))) W' from fun W' he => hK _ _ ⟨_, rfl, HV.us 7 _ rfl, CkJ.ext s0 he⟩)
         have HU := Lib.hid (show (upd V 7 (.bool true)) 4 = .bool false ∧ (upd V 7 (.bool true)) 6 = .bool true from ⟨e4, e6⟩)
         clear hK hC hW hL HV s0
         rw [HFR.out, e4, e6]
         clear e4 e6
         go_wp2_with fail
         show K _ _; have := H.out _ (Ext.refl _); rw [HFR.out] at this
         obtain ⟨u4, u6⟩ := HU.out
         rw [u4, u6] at this
         exact this
        ·rintro L A W K hL hC hW ⟨V, rfl, HV, s0⟩ hK
         have e7 := HV 7 _ rfl (hW 7 rfl)
         have H := Lib.hid (show ∀ W', Ext W W' → K (fr (upd V 8 (.pointer (some ⟨w.heap.size, 7, none⟩)))) W' from fun W' he => hK _ _ ⟨_, rfl, HV.us 8 _ rfl, CkJ.ext s0 he⟩)
         have HU := Lib.hid (show (upd V 8 (.pointer (some ⟨w.heap.size, 7, none⟩))) 7 = .bool true from e7)
         clear hK hC hW hL HV s0
         rw [HFR.out, e7]
         clear e7
         go_wp2_with fail
         show K _ _; have := H.out _ (Ext.refl _); rw [HFR.out] at this
         obtain u7 := HU.out
         rw [u7] at this
         exact this
        ·rintro L A W K hL hC hW ⟨V, rfl, HV, s0⟩ hK
         have e7 := HV 7 _ rfl (hW 7 rfl)
         have e8 := HV 8 _ rfl (hW 8 rfl)
         have hB := s0
         have H := Lib.hid (show ∀ W', Ext W W' → K (fr (upd V 9 (.slice (some ⟨bb, oo, none⟩) a.store.length c2))) W' from fun W' he => hK _ _ ⟨_, rfl, HV.us 9 _ rfl, CkJ.ext s0 he⟩)
         have HU := Lib.hid (show (upd V 9 (.slice (some ⟨bb, oo, none⟩) a.store.length c2)) 7 = .bool true ∧ (upd V 9 (.slice (some ⟨bb, oo, none⟩) a.store.length c2)) 8 = .pointer (some ⟨w.heap.size, 7, none⟩) from ⟨e7, e8⟩)
         clear hK hC hW hL HV s0
         rw [HFR.out, e7, e8]
         clear e7 e8
         have hcl := hB.1.store
         clear hB
         go_wp2_with fail
         show K _ _; have := H.out _ (Ext.refl _); rw [HFR.out] at this
         obtain ⟨u7, u8⟩ := HU.out
         rw [u7, u8] at this
         exact this
        ·rintro L A W K hL hC hW ⟨V, rfl, HV, s0⟩ hK
         have e7 := HV 7 _ rfl (hW 7 rfl)
         have H := Lib.hid (show ∀ W', Ext W W' → K (fr (upd V 10 (.int .i64 ((m : Int) + 1)))) W' from fun W' he => hK _ _ ⟨_, rfl, HV.us 10 _ rfl, CkJ.ext s0 he⟩)
         have HU := Lib.hid (show (upd V 10 (.int .i64 ((m : Int) + 1))) 7 = .bool true from e7)
         clear hK hC hW hL HV s0
         rw [HFR.out, e7]
         clear e7
         go_wp2_with fail
         show K _ _; have := H.out _ (Ext.refl _); rw [HFR.out] at this
         obtain u7 := HU.out
         rw [u7] at this
         exact this
        ·rintro L A W K hL hC hW ⟨V, rfl, HV, s0⟩ hK
         have e7 := HV 7 _ rfl (hW 7 rfl)
         have e10 := HV 10 _ rfl (hW 10 rfl)
         have H := Lib.hid (show ∀ W', Ext W W' → K (fr (upd V 11 (.int .i64 (m : Nat)))) W' from fun W' he => hK _ _ ⟨_, rfl, HV.us 11 _ rfl, CkJ.ext s0 he⟩)
         have HU := Lib.hid (show (upd V 11 (.int .i64 (m : Nat))) 7 = .bool true ∧ (upd V 11 (.int .i64 (m : Nat))) 10 = .int .i64 ((m : Int) + 1) from ⟨e7, e10⟩)
         clear hK hC hW hL HV s0
         rw [HFR.out, e7, e10]
         clear e7 e10
         go_wp2_with fail
         show K _ _; have := H.out _ (Ext.refl _); rw [HFR.out] at this
         obtain ⟨u7, u10⟩ := HU.out
         rw [u7, u10] at this
         exact this
        ·rintro L A W K hL hC hW ⟨V, rfl, HV, s0⟩ hK
         have e7 := HV 7 _ rfl (hW 7 rfl)
         have e9 := HV 9 _ rfl (hW 9 rfl)
         have e11 := HV 11 _ rfl (hW 11 rfl)
         have H := Lib.hid (show ∀ W', Ext W W' → K (fr (upd V 12 (.pointer (some ⟨bb, oo + m * 8, none⟩)))) W' from fun W' he => hK _ _ ⟨_, rfl, HV.us 12 _ rfl, CkJ.ext s0 he⟩)
         have HU := Lib.hid (show (upd V 12 (.pointer (some ⟨bb, oo + m * 8, none⟩))) 7 = .bool true ∧ (upd V 12 (.pointer (some ⟨bb, oo + m * 8, none⟩))) 9 = .slice (some ⟨bb, oo, none⟩) a.store.length c2 ∧ (upd V 12 (.pointer (some ⟨bb, oo + m * 8, none⟩))) 11 = .int .i64 (m : Nat) from ⟨e7, e9, e11⟩)
         clear hK hC hW hL HV s0
         rw [HFR.out, e7, e9, e11]
         clear e7 e9 e11
         go_wp2_with fail
         show K _ _; have := H.out _ (Ext.refl _); rw [HFR.out] at this
         obtain ⟨u7, u9, u11⟩ := HU.out
         rw [u7, u9, u11] at this
         exact this
        ·rintro L A W K hL hC hW ⟨V, rfl, HV, s0⟩ hK
         have e7 := HV 7 _ rfl (hW 7 rfl)
         have e12 := HV 12 _ rfl (hW 12 rfl)
         have H := Lib.hid (show ∀ W', Ext W W' → K (fr (upd V 13 (.pointer (some ⟨bb, oo + m * 8, none⟩)))) W' from fun W' he => hK _ _ ⟨_, rfl, HV.us 13 _ rfl, CkJ.ext s0 he⟩)
         have HU := Lib.hid (show (upd V 13 (.pointer (some ⟨bb, oo + m * 8, none⟩))) 7 = .bool true ∧ (upd V 13 (.pointer (some ⟨bb, oo + m * 8, none⟩))) 12 = .pointer (some ⟨bb, oo + m * 8, none⟩) from ⟨e7, e12⟩)
         clear hK hC hW hL HV s0
         rw [HFR.out, e7, e12]
         clear e7 e12
         go_wp2_with fail
         show K _ _; have := H.out _ (Ext.refl _); rw [HFR.out] at this
         obtain ⟨u7, u12⟩ := HU.out
         rw [u7, u12] at this
         exact this
        ·rintro L A W K hL hC hW ⟨V, rfl, HV, s0⟩ hK
         have e7 := HV 7 _ rfl (hW 7 rfl)
         have e13 := HV 13 _ rfl (hW 13 rfl)
         have hB := s0
         have H := Lib.hid (show ∀ W', Ext W W' → K (fr (upd V 14 (wv q.1))) W' from fun W' he => hK _ _ ⟨_, rfl, HV.us 14 _ rfl, CkJ.ext s0 he⟩)
         have HU := Lib.hid (show (upd V 14 (wv q.1)) 7 = .bool true ∧ (upd V 14 (wv q.1)) 13 = .pointer (some ⟨bb, oo + m * 8, none⟩) from ⟨e7, e13⟩)
         clear hK hC hW hL HV s0
         rw [HFR.out, e7, e13]
         clear e7 e13
         have HWD := Lib.hid (pk_key (fun j x hx => hB.2.2.cell (HRP.out j x hx)))
         clear hB
         refine wpList_load_wordIn rfl (.tmp 41) rfl bb (oo + m * 8) q.1 rfl HWD.out ?_
         show K _ _; have := H.out _ (Ext.refl _); rw [HFR.out] at this
         obtain ⟨u7, u13⟩ := HU.out
         rw [u7, u13] at this
         exact this
        ·rintro L A W K hL hC hW ⟨V, rfl, HV, s0⟩ hK
         have e7 := HV 7 _ rfl (hW 7 rfl)
         have H := Lib.hid (show ∀ W', Ext W W' → K (fr (upd V 15 (.pointer (some ⟨wr.heap.size, 0, none⟩)))) W' from fun W' he => hK _ _ ⟨_, rfl, HV.us 15 _ rfl, CkJ.ext s0 he⟩)
         have HU := Lib.hid (show (upd V 15 (.pointer (some ⟨wr.heap.size, 0, none⟩))) 7 = .bool true from e7)
         clear hK hC hW hL HV s0
         rw [HFR.out, e7]
         clear e7
         go_wp2_with fail
         show K _ _; have := H.out _ (Ext.refl _); rw [HFR.out] at this
         obtain u7 := HU.out
         rw [u7] at this
         exact this
        ·rintro L A W K hL hC hW ⟨V, rfl, HV, s0⟩ hK
         have e7 := HV 7 _ rfl (hW 7 rfl)
         have e15 := HV 15 _ rfl (hW 15 rfl)
         have hB := s0
         have H := Lib.hid (show ∀ W', Ext W W' → K (fr (upd V 16 (wv p.1))) W' from fun W' he => hK _ _ ⟨_, rfl, HV.us 16 _ rfl, CkJ.ext s0 he⟩)
         have HU := Lib.hid (show (upd V 16 (wv p.1)) 7 = .bool true ∧ (upd V 16 (wv p.1)) 15 = .pointer (some ⟨wr.heap.size, 0, none⟩) from ⟨e7, e15⟩)
         clear hK hC hW hL HV s0
         rw [HFR.out, e7, e15]
         clear e7 e15
         have HWD := Lib.hid (pkb_key hB.2.1)
         clear hB
         refine wpList_load_wordIn rfl (.tmp 43) rfl wr.heap.size 0 p.1 rfl HWD.out ?_
         show K _ _; have := H.out _ (Ext.refl _); rw [HFR.out] at this
         obtain ⟨u7, u15⟩ := HU.out
         rw [u7, u15] at this
         exact this
        ·rintro L A W K hL hC hW ⟨V, rfl, HV, s0⟩ hK
         have e7 := HV 7 _ rfl (hW 7 rfl)
         have e14 := HV 14 _ rfl (hW 14 rfl)
         have e16 := HV 16 _ rfl (hW 16 rfl)
         have hB := s0
         have H := Lib.hid (show ∀ W', Ext W W' → K (fr (upd V 17 (.int .i64 r))) W' from fun W' he => hK _ _ ⟨_, rfl, HV.us 17 _ rfl, CkJ.ext s0 he⟩)
         have HU := Lib.hid (show (upd V 17 (.int .i64 r)) 7 = .bool true ∧ (upd V 17 (.int .i64 r)) 14 = wv q.1 ∧ (upd V 17 (.int .i64 r)) 16 = wv p.1 from ⟨e7, e14, e16⟩)
         clear hK hC hW hL HV s0
         rw [HFR.out, e7, e14, e16]
         clear e7 e14 e16
         go_wp2_with fail
         refine (cmp_any q.1 p.1 _ HQ1.out HP1.out).mono ?_
         rintro e wx ⟨rfl, he⟩
         rw [HRR.out]
         have := H.out _ he
         clear H
         go_wp2_with fail
         show K _ _
         rw [HFR.out] at this
         obtain ⟨u7, u14, u16⟩ := HU.out
         rw [u7, u14, u16] at this
         exact this
        ·rintro L A W K hL hC hW ⟨V, rfl, HV, s0⟩ hK
         have e7 := HV 7 _ rfl (hW 7 rfl)
         have e17 := HV 17 _ rfl (hW 17 rfl)
         have H := Lib.hid (show ∀ W', Ext W W' → K (fr (upd V 18 (.bool rb))) W' from fun W' he => hK _ _ ⟨_, rfl, HV.us 18 _ rfl, CkJ.ext s0 he⟩)
         have HU := Lib.hid (show (upd V 18 (.bool rb)) 7 = .bool true ∧ (upd V 18 (.bool rb)) 17 = .int .i64 r from ⟨e7, e17⟩)
         clear hK hC hW hL HV s0
         rw [HFR.out, e7, e17]
         clear e7 e17
         go_wp2_with fail
         show K _ _; have := H.out _ (Ext.refl _); rw [HFR.out] at this
         obtain ⟨u7, u17⟩ := HU.out
         rw [u7, u17] at this
         exact this
        ·rintro L A W K hL hC hW ⟨V, rfl, HV, s0⟩ hK
         have e4 := HV 4 _ rfl (hW 4 rfl)
         have e7 := HV 7 _ rfl (hW 7 rfl)
         have e18 := HV 18 _ rfl (hW 18 rfl)
         have H := Lib.hid (show ∀ W', Ext W W' → K (fr (upd V 19 (.bool rb))) W' from fun W' he => hK _ _ ⟨_, rfl, HV.us 19 _ rfl, CkJ.ext s0 he⟩)
         have HU := Lib.hid (show (upd V 19 (.bool rb)) 4 = .bool false ∧ (upd V 19 (.bool rb)) 7 = .bool true ∧ (upd V 19 (.bool rb)) 18 = .bool rb from ⟨e4, e7, e18⟩)
         clear hK hC hW hL HV s0
         rw [HFR.out, e4, e7, e18]
         clear e4 e7 e18
         go_wp2_with fail
         show K _ _; have := H.out _ (Ext.refl _); rw [HFR.out] at this
         obtain ⟨u4, u7, u18⟩ := HU.out
         rw [u4, u7, u18] at this
         exact this
        ·rintro L A W K hL hC hW ⟨V, rfl, HV, s0⟩ hK
         have e4 := HV 4 _ rfl (hW 4 rfl)
         have e19 := HV 19 _ rfl (hW 19 rfl)
         have H := Lib.hid (show ∀ W', Ext W W' → K (fr (upd V 20 (.bool rb))) W' from fun W' he => hK _ _ ⟨_, rfl, HV.us 20 _ rfl, CkJ.ext s0 he⟩)
         have HU := Lib.hid (show (upd V 20 (.bool rb)) 4 = .bool false ∧ (upd V 20 (.bool rb)) 19 = .bool rb from ⟨e4, e19⟩)
         clear hK hC hW hL HV s0
         rw [HFR.out, e4, e19]
         clear e4 e19
         go_wp2_with fail
         show K _ _; have := H.out _ (Ext.refl _); rw [HFR.out] at this
         obtain ⟨u4, u19⟩ := HU.out
         rw [u4, u19] at this
         exact this
        ·rintro L A W hL ⟨V, rfl, HV, s0⟩
         have e0 := HV 0 _ rfl (hL 0 (by simp))
         have e1 := HV 1 _ rfl (hL 1 (by simp))
         have e2 := HV 2 _ rfl (hL 2 (by simp))
         have e3 := HV 3 _ rfl (hL 3 (by simp))
         have e4 := HV 4 _ rfl (hL 4 (by simp))
         have e5 := HV 5 _ rfl (hL 5 (by simp))
         have e6 := HV 6 _ rfl (hL 6 (by simp))
         have e7 := HV 7 _ rfl (hL 7 (by simp))
         have e8 := HV 8 _ rfl (hL 8 (by simp))
         have e9 := HV 9 _ rfl (hL 9 (by simp))
         have e10 := HV 10 _ rfl (hL 10 (by simp))
         have e11 := HV 11 _ rfl (hL 11 (by simp))
         have e12 := HV 12 _ rfl (hL 12 (by simp))
         have e13 := HV 13 _ rfl (hL 13 (by simp))
         have e14 := HV 14 _ rfl (hL 14 (by simp))
         have e15 := HV 15 _ rfl (hL 15 (by simp))
         have e16 := HV 16 _ rfl (hL 16 (by simp))
         have e17 := HV 17 _ rfl (hL 17 (by simp))
         have e18 := HV 18 _ rfl (hL 18 (by simp))
         have e19 := HV 19 _ rfl (hL 19 (by simp))
         have e20 := HV 20 _ rfl (hL 20 (by simp))
         have hA := s0
         rw [HFR.out, e0, e1, e2, e3, e4, e5, e6, e7, e8, e9, e10, e11, e12, e13, e14, e15, e16, e17, e18, e19, e20]
         clear hL HV HFR e0 e1 e2 e3 e4 e5 e6 e7 e8 e9 e10 e11 e12 e13 e14 e15 e16 e17 e18 e19 e20 s0
         have HEJ := Lib.hid hA.2.2
         have HAB := Lib.hid hA.1
         clear hA hrb
         cases rb with
         | true =>
          have HF := Lib.hid (HSTOP.out (m + 1) hlt (by rw [HS3.out]; rw [HRR.out, HRB.out] at HCM; simpa using HCM.out.symm))
          go_wp2_with fail
          go_ret
          exact ⟨by rw [HF.out]; rfl, HEJ.out⟩
         | false =>
          have HN := Lib.hid (show ∀ i, i < m + 1 + 1 → slB a.store i = true from fun i hi => by
           by_cases e : i = m + 1
           ·rw [e, HS3.out]; rw [HRR.out, HRB.out] at HCM; simpa using HCM.out.symm
           ·exact HJ.out.1 i (by omega))
          go_wp2_with fail
          exact ⟨⟨m + 1 + 1, by omega, by go_num, Lib.hid ⟨HN.out, HAB.out, HEJ.out⟩⟩, by simp [intOf]; omega⟩
     ·obtain rfl : k = a.store.length := by omega
      have hF := Lib.hid (HYES.out HA1.out HA2.out HA3.out HJ.out.1)
      go_wp2_with fail
      go_ret
      exact ⟨by rw [hF.out]; rfl, HJ.out.2.2⟩
   ·have hs1 : decide ((24 : Int) < (a.store.length : Int)) = true := decide_eq_true (by omega)
    have hs2 : decide (24 < a.store.length) = true := decide_eq_true (by omega)
    have hF := Lib.hid (ckE_no a (by unfold Ac.rightB; simp; omega))
    clear e3
    go_wp2_with fail
    go_ret
    exact ⟨by rw [hF.out]; rfl, HE.out⟩
  ·have hl1 : decide ((200 : Int) < (a.code.length : Int)) = true := decide_eq_true (by omega)
   have hl2 : decide (200 < a.code.length) = true := decide_eq_true (by omega)
   have hF := Lib.hid (ckE_no a (by unfold Ac.rightB; simp; omega))
   clear e2
   go_wp2_with fail
   go_ret
   exact ⟨by rw [hF.out]; rfl, HE.out⟩
end Go.Proofs.YtnjpdchmdimaaaaGreat
