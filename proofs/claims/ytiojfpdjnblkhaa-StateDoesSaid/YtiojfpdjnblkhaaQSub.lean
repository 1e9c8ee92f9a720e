/- The document's own answers of layer 6: SameAccount, Same, Right. -/
import Derived.Test.YtiojfpdjnblkhaaQSua
namespace Go.Proofs.Ytiojfpdjnblkhaa
open Go.ChangeShapes Go.WideShapes Go.ChangeAt Go.RowKit Go.Shelf

theorem Bs.byte {W : World} {A : Option Addr} {n c : Nat} {l : List UInt8} (h : Bs W (.slice A n c) l) (k : Nat) (hk : k < l.length) : ∃ b o, A = some ⟨b, o, none⟩ ∧ W.cell? ⟨b, o + k, none⟩ = some (.int .u8 ((l.getD k 0).toNat : Int)) := by
 obtain ⟨A', c', e, _, _, h3⟩ := h
 injection e with e1 e2 e3
 subst e1
 obtain ⟨b, o, e, hc⟩ := h3 (by omega)
 exact ⟨b, o, e, hc k hk⟩
theorem eqB_addr {p q : Ac} (h : p.addr ≠ q.addr) : p.eqB q = false := by unfold Ac.eqB; rw [decide_eq_false h]; rfl
theorem eqB_bal {p q : Ac} (h : p.bal ≠ q.bal) : p.eqB q = false := by unfold Ac.eqB; rw [decide_eq_false h]; simp
theorem eqB_nonce {p q : Ac} (h : p.nonce ≠ q.nonce) : p.eqB q = false := by unfold Ac.eqB; rw [decide_eq_false h]; simp
theorem eqB_code {p q : Ac} (h : (p.code == q.code) = false) : p.eqB q = false := by unfold Ac.eqB; rw [h]; simp
theorem eqB_store {p q : Ac} (h : (p.store == q.store) = false) : p.eqB q = false := by unfold Ac.eqB; rw [h]; simp
theorem beq_len {α : Type} [BEq α] [LawfulBEq α] {a b : List α} (h : a.length ≠ b.length) : (a == b) = false := by
 rw [beq_eq_false_iff_ne]
 intro e
 exact h (by rw [e])
set_option maxRecDepth 100000 in
set_option maxHeartbeats 8000000 in
theorem refSameAccount_any (p q : Ac) (u v u2 v2 : Value) (w : World) (hp : p.ok) (hq : q.ok) (hu : Bs w u p.code) (hv : Pks w v p.store) (hu2 : Bs w u2 q.code) (hv2 : Pks w v2 q.store) :
  Calls Try.prog 49 #[.agg (acc p u v), .agg (acc q u2 v2)] w fun e w' => e = .returned (.bool (p.eqB q)) ∧ Ext w w' := by
 have HPB := Lib.hid hp.2.1
 have HQB := Lib.hid hq.2.1
 have HU := Lib.hid hu
 have HV := Lib.hid hv
 have HU2 := Lib.hid hu2
 have HV2 := Lib.hid hv2
 obtain ⟨A1, c1, rfl, a1, a2, _⟩ := hu
 obtain ⟨A2, c2, rfl, b1, b2, _⟩ := hu2
 obtain ⟨A3, c3, rfl, a3, a4⟩ := hv.len
 obtain ⟨A4, c4, rfl, b3, b4⟩ := hv2.len
 unfold maxLen at a2 b2 a4 b4
 clear hv hv2
 obtain ⟨ca, hca⟩ : ∃ ca, acc p (.slice A1 p.code.length c1) (.slice A3 p.store.length c3) = ca := ⟨_, rfl⟩
 obtain ⟨cb, hcb⟩ : ∃ cb, acc q (.slice A2 q.code.length c2) (.slice A4 q.store.length c4) = cb := ⟨_, rfl⟩
 obtain ⟨w0, hw0⟩ : ∃ w0, ((w.alloc (.cells ca 37)).alloc (.cells cb 37)) = w0 := ⟨_, rfl⟩
 have HW0 := Lib.hid hw0
 have HB0 : Hid (Ab w0 w.heap.size p (.slice A1 p.code.length c1) (.slice A3 p.store.length c3) ∧ Ab w0 (w.heap.size + 1) q (.slice A2 q.code.length c2) (.slice A4 q.store.length c4) ∧ Ext w w0) := by
  rw [← hw0, ← hca, ← hcb]
  exact Lib.hid ⟨Cs.alloc (Cs.new _ _ _ _ rfl) _, Cs.new _ _ _ _ (by simp), ((Ext.refl w).alloc _).alloc _⟩
 have BP := Lib.hid HB0.out.1.bal
 have BQ := Lib.hid HB0.out.2.1.bal
 have x1 := HB0.out.1.addr
 have x2 := HB0.out.2.1.addr
 have x3 := HB0.out.1.nonce
 have x4 := HB0.out.2.1.nonce
 have x5 := HB0.out.1.code
 have x6 := HB0.out.2.1.code
 have x7 := HB0.out.1.store
 have x8 := HB0.out.2.1.store
 have hpa := hp.1
 have hqa := hq.1
 have hpn := hp.2.2
 have hqn := hq.2.2
 rw [hca, hcb]
 clear hca hcb hw0 hp hq
 go_enter Try.func49, Try.ntmps49
 go_upto_region 1 with fail
 rw [HW0.out]
 clear HW0
 by_cases e1 : p.addr = q.addr
 case neg =>
  have dA : ((p.addr : Int) != (q.addr : Int)) = true := by rw [bne_iff_ne]; omega
  have HF := Lib.hid (eqB_addr e1)
  clear e1
  go_wp2_with fail
  go_ret
  exact ⟨by rw [HF.out]; rfl, HB0.out.2.2⟩
 have dA : ((p.addr : Int) != (q.addr : Int)) = false := by rw [bne_eq_false_iff_eq]; omega
 have E1 := Lib.hid e1
 clear e1
 by_cases e2 : p.bal = q.bal
 case neg =>
  have dB : (p.bal != q.bal) = true := by rw [bne_iff_ne]; exact e2
  have HF := Lib.hid (eqB_bal e2)
  clear e2
  go_wp2_with (first
   | ((with_reducible refine wpList_load_wordIn ?_ (.tmp 13) ?_ (w.heap.size) 1 (p.bal) ?_ ?_ ?_); (exact rfl); (exact rfl); (exact rfl); (exact BP.out))
   | ((with_reducible refine wpList_load_wordIn ?_ (.tmp 15) ?_ (w.heap.size + 1) 1 (q.bal) ?_ ?_ ?_); (exact rfl); (exact rfl); (exact rfl); (exact BQ.out))
   | ((with_reducible refine wpList_neq_word ?_ (.tmp 14) (.tmp 16) ?_ p.bal q.bal HPB.out HQB.out ?_ ?_ ?_); (exact rfl); (exact rfl); (exact rfl); (exact rfl); rw [dB]))
  go_ret
  exact ⟨by rw [HF.out]; rfl, HB0.out.2.2⟩
 have dB : (p.bal != q.bal) = false := by rw [bne_eq_false_iff_eq]; exact e2
 have E2 := Lib.hid e2
 clear e2
 by_cases e3 : p.nonce = q.nonce
 case neg =>
  have dC : ((p.nonce : Int) != (q.nonce : Int)) = true := by rw [bne_iff_ne]; omega
  have HF := Lib.hid (eqB_nonce e3)
  clear e3
  go_wp2_with (first
   | ((with_reducible refine wpList_load_wordIn ?_ (.tmp 13) ?_ (w.heap.size) 1 (p.bal) ?_ ?_ ?_); (exact rfl); (exact rfl); (exact rfl); (exact BP.out))
   | ((with_reducible refine wpList_load_wordIn ?_ (.tmp 15) ?_ (w.heap.size + 1) 1 (q.bal) ?_ ?_ ?_); (exact rfl); (exact rfl); (exact rfl); (exact BQ.out))
   | ((with_reducible refine wpList_neq_word ?_ (.tmp 14) (.tmp 16) ?_ p.bal q.bal HPB.out HQB.out ?_ ?_ ?_); (exact rfl); (exact rfl); (exact rfl); (exact rfl); rw [dB]))
  go_ret
  exact ⟨by rw [HF.out]; rfl, HB0.out.2.2⟩
 have dC : ((p.nonce : Int) != (q.nonce : Int)) = false := by rw [bne_eq_false_iff_eq]; omega
 have E3 := Lib.hid e3
 clear e3
 by_cases e4 : p.code.length = q.code.length
 case neg =>
  have dD : ((p.code.length : Int) != (q.code.length : Int)) = true := by rw [bne_iff_ne]; omega
  have HF := Lib.hid (eqB_code (beq_len e4))
  clear e4
  go_wp2_with (first
   | ((with_reducible refine wpList_load_wordIn ?_ (.tmp 13) ?_ (w.heap.size) 1 (p.bal) ?_ ?_ ?_); (exact rfl); (exact rfl); (exact rfl); (exact BP.out))
   | ((with_reducible refine wpList_load_wordIn ?_ (.tmp 15) ?_ (w.heap.size + 1) 1 (q.bal) ?_ ?_ ?_); (exact rfl); (exact rfl); (exact rfl); (exact BQ.out))
   | ((with_reducible refine wpList_neq_word ?_ (.tmp 14) (.tmp 16) ?_ p.bal q.bal HPB.out HQB.out ?_ ?_ ?_); (exact rfl); (exact rfl); (exact rfl); (exact rfl); rw [dB]))
  go_ret
  exact ⟨by rw [HF.out]; rfl, HB0.out.2.2⟩
 have HLC := Lib.hid e4
 rw [← e4] at HB0 x6
 have dD : ((p.code.length : Int) != (p.code.length : Int)) = false := by rw [bne_eq_false_iff_eq]
 clear e4
 by_cases e5 : p.store.length = q.store.length
 case neg =>
  have dE : ((p.store.length : Int) != (q.store.length : Int)) = true := by rw [bne_iff_ne]; omega
  have HF := Lib.hid (eqB_store (beq_len e5))
  clear e5
  go_wp2_with (first
   | ((with_reducible refine wpList_load_wordIn ?_ (.tmp 13) ?_ (w.heap.size) 1 (p.bal) ?_ ?_ ?_); (exact rfl); (exact rfl); (exact rfl); (exact BP.out))
   | ((with_reducible refine wpList_load_wordIn ?_ (.tmp 15) ?_ (w.heap.size + 1) 1 (q.bal) ?_ ?_ ?_); (exact rfl); (exact rfl); (exact rfl); (exact BQ.out))
   | ((with_reducible refine wpList_neq_word ?_ (.tmp 14) (.tmp 16) ?_ p.bal q.bal HPB.out HQB.out ?_ ?_ ?_); (exact rfl); (exact rfl); (exact rfl); (exact rfl); rw [dB]))
  go_ret
  exact ⟨by rw [HF.out]; rfl, HB0.out.2.2⟩
 have HLS := Lib.hid e5
 rw [← e5] at HB0 x8
 have dE : ((p.store.length : Int) != (p.store.length : Int)) = false := by rw [bne_eq_false_iff_eq]
 clear e5
 go_wp2_with (first
  | ((with_reducible refine wpList_load_wordIn ?_ (.tmp 13) ?_ (w.heap.size) 1 (p.bal) ?_ ?_ ?_); (exact rfl); (exact rfl); (exact rfl); (exact BP.out))
  | ((with_reducible refine wpList_load_wordIn ?_ (.tmp 15) ?_ (w.heap.size + 1) 1 (q.bal) ?_ ?_ ?_); (exact rfl); (exact rfl); (exact rfl); (exact BQ.out))
  | ((with_reducible refine wpList_neq_word ?_ (.tmp 14) (.tmp 16) ?_ p.bal q.bal HPB.out HQB.out ?_ ?_ ?_); (exact rfl); (exact rfl); (exact rfl); (exact rfl); rw [dB]))
 clear x1 x2 x3 x4 x5 x6 x7 x8 dA dB dC dD dE BP BQ
 go_loopw [47] (fun iv wr => ∃ k : Nat, k ≤ p.code.length ∧ iv = .int .i64 k ∧ Hid ((∀ j, j < k → p.code.getD j 0 = q.code.getD j 0) ∧ Ext w0 wr)) (fun iv _ => p.code.length - (intOf iv).toNat)
 case atStart => exact ⟨0, by omega, rfl, Lib.hid ⟨fun j hj => by omega, Ext.refl _⟩⟩
 case round =>
  obtain ⟨k, hk, rfl, HJ⟩ := hrel
  have HE := Lib.hid (show Ext w0 wr from HJ.out.2)
  have HE0 := Lib.hid (HB0.out.2.2.trans HE.out)
  by_cases hlt : k < p.code.length
  ·have hd : decide (k < p.code.length) = true := decide_eq_true hlt
   obtain ⟨b1, o1, rfl, x1⟩ := (HU.out.ext HE0.out).byte k hlt
   obtain ⟨b2, o2, rfl, x2⟩ := (HU2.out.ext HE0.out).byte k (by rw [← HLC.out]; exact hlt)
   have X1 := Lib.hid x1
   have X2 := Lib.hid x2
   clear x1 x2
   have hxb : (p.code.getD k 0).toNat < 256 := UInt8.toNat_lt _
   have hyb : (q.code.getD k 0).toNat < 256 := UInt8.toNat_lt _
   have HXY := Lib.hid (show (p.code.getD k 0).toNat = (q.code.getD k 0).toNat → p.code.getD k 0 = q.code.getD k 0 from UInt8.toNat_inj.1)
   generalize hxx : (p.code.getD k 0).toNat = x at *
   generalize hyy : (q.code.getD k 0).toNat = y at *
   have HXX := Lib.hid (And.intro hxx hyy)
   clear hxx hyy

   by_cases hxy : x = y
   ·have hne : ((x : Int) != (y : Int)) = false := by rw [bne_eq_false_iff_eq]; omega
    have hne2 : (x != y) = false := by rw [bne_eq_false_iff_eq]; exact hxy

    have HS := Lib.hid (show ∀ j, j < k + 1 → p.code.getD j 0 = q.code.getD j 0 from fun j hj => by
     rcases Nat.lt_succ_iff_lt_or_eq.1 hj with h | rfl
     ·exact HJ.out.1 j h
     ·exact HXY.out hxy)
    clear hxy
    go_upto_region 6 with fail
    refine wp_named fun a0 ha0 => ?_
    obtain ⟨fr, hfr⟩ : ∃ fr : (Nat → Value) → Act, ∀ V, fr V = (((((((((((a0.put (some 50) (V 0)).put (some 51) (V 1)).put (some 52) (V 2)).put (some 53) (V 3)).put (some 54) (V 4)).put (some 55) (V 5)).put (some 56) (V 6)).put (some 57) (V 7)).put (some 58) (V 8)).put (some 59) (V 9)).put (some 60) (V 10)) := ⟨_, fun _ => rfl⟩
    rw [ha0] at hfr
    simp only [Act.put, List.setIfInBounds_toArray, List.set_cons_zero, List.set_cons_succ] at hfr
    have HFR := Lib.hid hfr
    clear hfr
    refine wp_region_inv (by kernel_rfl) (by kernel_rfl) (fun L A W => ∃ V : Nat → Value, A = fr V ∧ Vals (fun j => ([some (.pointer (some ⟨w.heap.size, 6, none⟩)), some (.slice (some ⟨b1, o1, none⟩) p.code.length c1), some (.int .i64 (k : Nat)), some (.pointer (some ⟨b1, o1 + k, none⟩)), some (.int .u8 (x : Nat)), some (.pointer (some ⟨w.heap.size + 1, 6, none⟩)), some (.slice (some ⟨b2, o2, none⟩) p.code.length c2), some (.int .i64 (k : Nat)), some (.pointer (some ⟨b2, o2 + k, none⟩)), some (.int .u8 (y : Nat)), some (.bool false)] : List (Option Value)).getD j none) L V ∧ (Ext wr W)) ?_ ⟨?_, ?_, ?_, ?_, ?_, ?_, ?_, ?_, ?_, ?_, ?_, trivial⟩ ?_
    ·refine ⟨fun j => a0.tmps.getD (([50, 51, 52, 53, 54, 55, 56, 57, 58, 59, 60] : List Nat).getD j 0) undef, ?_, Vals.no _ _ _ (far_none _ _ rfl), (Ext.refl _).drew⟩
     rw [HFR.out, ha0]
     rfl
    all_goals clear ha0
    ·rintro L A W K hL hC hW ⟨V, rfl, HV, s0⟩ hK
     have H := Lib.hid (show ∀ W', Ext W W' → K (fr (upd V 0 (.pointer (some ⟨w.heap.size, 6, none⟩)))) W' from fun W' he => hK _ _ ⟨_, rfl, HV.us 0 _ rfl, Ext.trans s0 he⟩)
     clear hK hC hW hL HV s0
     rw [HFR.out]
     go_wp2_with fail
     show K _ _; have := H.out _ (Ext.refl _); rw [HFR.out] at this
     exact this
    ·rintro L A W K hL hC hW ⟨V, rfl, HV, s0⟩ hK
     have e0 := HV 0 _ rfl (hW 0 rfl)
     have hB := s0
     have H := Lib.hid (show ∀ W', Ext W W' → K (fr (upd V 1 (.slice (some ⟨b1, o1, none⟩) p.code.length c1))) W' from fun W' he => hK _ _ ⟨_, rfl, HV.us 1 _ rfl, Ext.trans s0 he⟩)
     have HU := Lib.hid (show (upd V 1 (.slice (some ⟨b1, o1, none⟩) p.code.length c1)) 0 = .pointer (some ⟨w.heap.size, 6, none⟩) from e0)
     clear hK hC hW hL HV s0
     rw [HFR.out, e0]
     clear e0
     have hcl := (Cs.ext HB0.out.1 (HE.out.trans hB)).cell 6 _ rfl
     clear hB
     go_wp2_with fail
     show K _ _; have := H.out _ (Ext.refl _); rw [HFR.out] at this
     obtain u0 := HU.out
     rw [u0] at this
     exact this
    ·rintro L A W K hL hC hW ⟨V, rfl, HV, s0⟩ hK
     have H := Lib.hid (show ∀ W', Ext W W' → K (fr (upd V 2 (.int .i64 (k : Nat)))) W' from fun W' he => hK _ _ ⟨_, rfl, HV.us 2 _ rfl, Ext.trans s0 he⟩)
     clear hK hC hW hL HV s0
     rw [HFR.out]
     go_wp2_with fail
     show K _ _; have := H.out _ (Ext.refl _); rw [HFR.out] at this
     exact this
    ·rintro L A W K hL hC hW ⟨V, rfl, HV, s0⟩ hK
     have e1 := HV 1 _ rfl (hW 1 rfl)
     have e2 := HV 2 _ rfl (hW 2 rfl)
     have H := Lib.hid (show ∀ W', Ext W W' → K (fr (upd V 3 (.pointer (some ⟨b1, o1 + k, none⟩)))) W' from fun W' he => hK _ _ ⟨_, rfl, HV.us 3 _ rfl, Ext.trans s0 he⟩)
     have HU := Lib.hid (show (upd V 3 (.pointer (some ⟨b1, o1 + k, none⟩))) 1 = .slice (some ⟨b1, o1, none⟩) p.code.length c1 ∧ (upd V 3 (.pointer (some ⟨b1, o1 + k, none⟩))) 2 = .int .i64 (k : Nat) from ⟨e1, e2⟩)
     clear hK hC hW hL HV s0
     rw [HFR.out, e1, e2]
     clear e1 e2
     go_wp2_with fail
     show K _ _; have := H.out _ (Ext.refl _); rw [HFR.out] at this
     obtain ⟨u1, u2⟩ := HU.out
     rw [u1, u2] at this
     exact this
    ·rintro L A W K hL hC hW ⟨V, rfl, HV, s0⟩ hK
     have e3 := HV 3 _ rfl (hW 3 rfl)
     have hB := s0
     have H := Lib.hid (show ∀ W', Ext W W' → K (fr (upd V 4 (.int .u8 (x : Nat)))) W' from fun W' he => hK _ _ ⟨_, rfl, HV.us 4 _ rfl, Ext.trans s0 he⟩)
     have HU := Lib.hid (show (upd V 4 (.int .u8 (x : Nat))) 3 = .pointer (some ⟨b1, o1 + k, none⟩) from e3)
     clear hK hC hW hL HV s0
     rw [HFR.out, e3]
     clear e3
     have hcl := hB.cell X1.out
     clear hB
     go_wp2_with fail
     show K _ _; have := H.out _ (Ext.refl _); rw [HFR.out] at this
     obtain u3 := HU.out
     rw [u3] at this
     exact this
    ·rintro L A W K hL hC hW ⟨V, rfl, HV, s0⟩ hK
     have H := Lib.hid (show ∀ W', Ext W W' → K (fr (upd V 5 (.pointer (some ⟨w.heap.size + 1, 6, none⟩)))) W' from fun W' he => hK _ _ ⟨_, rfl, HV.us 5 _ rfl, Ext.trans s0 he⟩)
     clear hK hC hW hL HV s0
     rw [HFR.out]
     go_wp2_with fail
     show K _ _; have := H.out _ (Ext.refl _); rw [HFR.out] at this
     exact this
    ·rintro L A W K hL hC hW ⟨V, rfl, HV, s0⟩ hK
     have e5 := HV 5 _ rfl (hW 5 rfl)
     have hB := s0
     have H := Lib.hid (show ∀ W', Ext W W' → K (fr (upd V 6 (.slice (some ⟨b2, o2, none⟩) p.code.length c2))) W' from fun W' he => hK _ _ ⟨_, rfl, HV.us 6 _ rfl, Ext.trans s0 he⟩)
     have HU := Lib.hid (show (upd V 6 (.slice (some ⟨b2, o2, none⟩) p.code.length c2)) 5 = .pointer (some ⟨w.heap.size + 1, 6, none⟩) from e5)
     clear hK hC hW hL HV s0
     rw [HFR.out, e5]
     clear e5
     have hcl := (Cs.ext HB0.out.2.1 (HE.out.trans hB)).cell 6 _ rfl
     clear hB
     go_wp2_with fail
     show K _ _; have := H.out _ (Ext.refl _); rw [HFR.out] at this
     obtain u5 := HU.out
     rw [u5] at this
     exact this
    ·rintro L A W K hL hC hW ⟨V, rfl, HV, s0⟩ hK
     have H := Lib.hid (show ∀ W', Ext W W' → K (fr (upd V 7 (.int .i64 (k : Nat)))) W' from fun W' he => hK _ _ ⟨_, rfl, HV.us 7 _ rfl, Ext.trans s0 he⟩)
     clear hK hC hW hL HV s0
     rw [HFR.out]
     go_wp2_with fail
     show K _ _; have := H.out _ (Ext.refl _); rw [HFR.out] at this
     exact this
    ·rintro L A W K hL hC hW ⟨V, rfl, HV, s0⟩ hK
     have e6 := HV 6 _ rfl (hW 6 rfl)
     have e7 := HV 7 _ rfl (hW 7 rfl)
     have H := Lib.hid (show ∀ W', Ext W W' → K (fr (upd V 8 (.pointer (some ⟨b2, o2 + k, none⟩)))) W' from fun W' he => hK _ _ ⟨_, rfl, HV.us 8 _ rfl, Ext.trans s0 he⟩)
     have HU := Lib.hid (show (upd V 8 (.pointer (some ⟨b2, o2 + k, none⟩))) 6 = .slice (some ⟨b2, o2, none⟩) p.code.length c2 ∧ (upd V 8 (.pointer (some ⟨b2, o2 + k, none⟩))) 7 = .int .i64 (k : Nat) from ⟨e6, e7⟩)
     clear hK hC hW hL HV s0
     rw [HFR.out, e6, e7]
     clear e6 e7
     go_wp2_with fail
     show K _ _; have := H.out _ (Ext.refl _); rw [HFR.out] at this
     obtain ⟨u6, u7⟩ := HU.out
     rw [u6, u7] at this
     exact this
    ·rintro L A W K hL hC hW ⟨V, rfl, HV, s0⟩ hK
     have e8 := HV 8 _ rfl (hW 8 rfl)
     have hB := s0
     have H := Lib.hid (show ∀ W', Ext W W' → K (fr (upd V 9 (.int .u8 (y : Nat)))) W' from fun W' he => hK _ _ ⟨_, rfl, HV.us 9 _ rfl, Ext.trans s0 he⟩)
     have HU := Lib.hid (show (upd V 9 (.int .u8 (y : Nat))) 8 = .pointer (some ⟨b2, o2 + k, none⟩) from e8)
     clear hK hC hW hL HV s0
     rw [HFR.out, e8]
     clear e8
     have hcl := hB.cell X2.out
     clear hB
     go_wp2_with fail
     show K _ _; have := H.out _ (Ext.refl _); rw [HFR.out] at this
     obtain u8 := HU.out
     rw [u8] at this
     exact this
    ·rintro L A W K hL hC hW ⟨V, rfl, HV, s0⟩ hK
     have e4 := HV 4 _ rfl (hW 4 rfl)
     have e9 := HV 9 _ rfl (hW 9 rfl)
     have H := Lib.hid (show ∀ W', Ext W W' → K (fr (upd V 10 (.bool false))) W' from fun W' he => hK _ _ ⟨_, rfl, HV.us 10 _ rfl, Ext.trans s0 he⟩)
     have HU := Lib.hid (show (upd V 10 (.bool false)) 4 = .int .u8 (x : Nat) ∧ (upd V 10 (.bool false)) 9 = .int .u8 (y : Nat) from ⟨e4, e9⟩)
     clear hK hC hW hL HV s0
     rw [HFR.out, e4, e9]
     clear e4 e9
     go_wp2_with fail
     show K _ _; have := H.out _ (Ext.refl _); rw [HFR.out] at this
     obtain ⟨u4, u9⟩ := HU.out
     rw [u4, u9] at this
     exact this
    ·rintro L A W hL ⟨V, rfl, HV, s0⟩
     have e0 := HV 0 _ rfl (hL 0 (by simp))
     have e1 := HV 1 _ rfl (hL 1 (by simp))
     have e2 := HV 2 _ rfl (hL 2 (by simp))
     have e3 := HV 3 _ rfl (hL 3 (by simp))
     have e4 := HV 4 _ rfl (hL 4 (by simp))
     have e5 := HV 5 _ rfl (hL 5 (by simp))
     have e6 := HV 6 _ rfl (hL 6 (by simp))
     have e7 := HV 7 _ rfl (hL 7 (by simp))
     have e8 := HV 8 _ rfl (hL 8 (by simp))
     have e9 := HV 9 _ rfl (hL 9 (by simp))
     have e10 := HV 10 _ rfl (hL 10 (by simp))
     have hA := s0
     rw [HFR.out, e0, e1, e2, e3, e4, e5, e6, e7, e8, e9, e10]
     clear hL HV HFR e0 e1 e2 e3 e4 e5 e6 e7 e8 e9 e10 s0
     have HA := Lib.hid hA
     clear hA
     go_wp2_with fail
     exact ⟨⟨k + 1, by omega, by go_num, Lib.hid ⟨HS.out, HJ.out.2.trans HA.out⟩⟩, by simp [intOf]; omega⟩
   ·have hne : ((x : Int) != (y : Int)) = true := by rw [bne_iff_ne]; omega
    have hne2 : (x != y) = true := by rw [bne_iff_ne]; exact hxy

    have HF := Lib.hid (show p.eqB q = false from eqB_code (lst_ne p.code q.code k 0 (by rw [beq_eq_false_iff_ne]; intro e; exact hxy (by rw [← HXX.out.1, ← HXX.out.2, e]))))
    clear hxy
    go_upto_region 6 with fail
    refine wp_named fun a0 ha0 => ?_
    obtain ⟨fr, hfr⟩ : ∃ fr : (Nat → Value) → Act, ∀ V, fr V = (((((((((((a0.put (some 50) (V 0)).put (some 51) (V 1)).put (some 52) (V 2)).put (some 53) (V 3)).put (some 54) (V 4)).put (some 55) (V 5)).put (some 56) (V 6)).put (some 57) (V 7)).put (some 58) (V 8)).put (some 59) (V 9)).put (some 60) (V 10)) := ⟨_, fun _ => rfl⟩
    rw [ha0] at hfr
    simp only [Act.put, List.setIfInBounds_toArray, List.set_cons_zero, List.set_cons_succ] at hfr
    have HFR := Lib.hid hfr
    clear hfr
    refine wp_region_inv (by kernel_rfl) (by kernel_rfl) (fun L A W => ∃ V : Nat → Value, A = fr V ∧ Vals (fun j => ([some (.pointer (some ⟨w.heap.size, 6, none⟩)), some (.slice (some ⟨b1, o1, none⟩) p.code.length c1), some (.int .i64 (k : Nat)), some (.pointer (some ⟨b1, o1 + k, none⟩)), some (.int .u8 (x : Nat)), some (.pointer (some ⟨w.heap.size + 1, 6, none⟩)), some (.slice (some ⟨b2, o2, none⟩) p.code.length c2), some (.int .i64 (k : Nat)), some (.pointer (some ⟨b2, o2 + k, none⟩)), some (.int .u8 (y : Nat)), some (.bool true)] : List (Option Value)).getD j none) L V ∧ (Ext wr W)) ?_ ⟨?_, ?_, ?_, ?_, ?_, ?_, ?_, ?_, ?_, ?_, ?_, trivial⟩ ?_
    ·refine ⟨fun j => a0.tmps.getD (([50, 51, 52, 53, 54, 55, 56, 57, 58, 59, 60] : List Nat).getD j 0) undef, ?_, Vals.no _ _ _ (far_none _ _ rfl), (Ext.refl _).drew⟩
     rw [HFR.out, ha0]
     rfl
    all_goals clear ha0
    ·rintro L A W K hL hC hW ⟨V, rfl, HV, s0⟩ hK
     have H := Lib.hid (show ∀ W', Ext W W' → K (fr (upd V 0 (.pointer (some ⟨w.heap.size, 6, none⟩)))) W' from fun W' he => hK _ _ ⟨_, rfl, HV.us 0 _ rfl, Ext.trans s0 he⟩)
     clear hK hC hW hL HV s0
     rw [HFR.out]
     go_wp2_with fail
     show K _ _; have := H.out _ (Ext.refl _); rw [HFR.out] at this
     exact this
    ·rintro L A W K hL hC hW ⟨V, rfl, HV, s0⟩ hK
     have e0 := HV 0 _ rfl (hW 0 rfl)
     have hB := s0
     have H := Lib.hid (show ∀ W', Ext W W' → K (fr (upd V 1 (.slice (some ⟨b1, o1, none⟩) p.code.length c1))) W' from fun W' he => hK _ _ ⟨_, rfl, HV.us 1 _ rfl, Ext.trans s0 he⟩)
     have HU := Lib.hid (show (upd V 1 (.slice (some ⟨b1, o1, none⟩) p.code.length c1)) 0 = .pointer (some ⟨w.heap.size, 6, none⟩) from e0)
     clear hK hC hW hL HV s0
     rw [HFR.out, e0]
     clear e0
     have hcl := (Cs.ext HB0.out.1 (HE.out.trans hB)).cell 6 _ rfl
     clear hB
     go_wp2_with fail
     show K _ _; have := H.out _ (Ext.refl _); rw [HFR.out] at this
     obtain u0 := HU.out
     rw [u0] at this
     exact this
    ·rintro L A W K hL hC hW ⟨V, rfl, HV, s0⟩ hK
     have H := Lib.hid (show ∀ W', Ext W W' → K (fr (upd V 2 (.int .i64 (k : Nat)))) W' from fun W' he => hK _ _ ⟨_, rfl, HV.us 2 _ rfl, Ext.trans s0 he⟩)
     clear hK hC hW hL HV s0
     rw [HFR.out]
     go_wp2_with fail
     show K _ _; have := H.out _ (Ext.refl _); rw [HFR.out] at this
     exact this
    ·rintro L A W K hL hC hW ⟨V, rfl, HV, s0⟩ hK
     have e1 := HV 1 _ rfl (hW 1 rfl)
     have e2 := HV 2 _ rfl (hW 2 rfl)
     have H := Lib.hid (show ∀ W', Ext W W' → K (fr (upd V 3 (.pointer (some ⟨b1, o1 + k, none⟩)))) W' from fun W' he => hK _ _ ⟨_, rfl, HV.us 3 _ rfl, Ext.trans s0 he⟩)
     have HU := Lib.hid (show (upd V 3 (.pointer (some ⟨b1, o1 + k, none⟩))) 1 = .slice (some ⟨b1, o1, none⟩) p.code.length c1 ∧ (upd V 3 (.pointer (some ⟨b1, o1 + k, none⟩))) 2 = .int .i64 (k : Nat) from ⟨e1, e2⟩)
     clear hK hC hW hL HV s0
     rw [HFR.out, e1, e2]
     clear e1 e2
     go_wp2_with fail
     show K _ _; have := H.out _ (Ext.refl _); rw [HFR.out] at this
     obtain ⟨u1, u2⟩ := HU.out
     rw [u1, u2] at this
     exact this
    ·rintro L A W K hL hC hW ⟨V, rfl, HV, s0⟩ hK
     have e3 := HV 3 _ rfl (hW 3 rfl)
     have hB := s0
     have H := Lib.hid (show ∀ W', Ext W W' → K (fr (upd V 4 (.int .u8 (x : Nat)))) W' from fun W' he => hK _ _ ⟨_, rfl, HV.us 4 _ rfl, Ext.trans s0 he⟩)
     have HU := Lib.hid (show (upd V 4 (.int .u8 (x : Nat))) 3 = .pointer (some ⟨b1, o1 + k, none⟩) from e3)
     clear hK hC hW hL HV s0
     rw [HFR.out, e3]
     clear e3
     have hcl := hB.cell X1.out
     clear hB
     go_wp2_with fail
     show K _ _; have := H.out _ (Ext.refl _); rw [HFR.out] at this
     obtain u3 := HU.out
     rw [u3] at this
     exact this
    ·rintro L A W K hL hC hW ⟨V, rfl, HV, s0⟩ hK
     have H := Lib.hid (show ∀ W', Ext W W' → K (fr (upd V 5 (.pointer (some ⟨w.heap.size + 1, 6, none⟩)))) W' from fun W' he => hK _ _ ⟨_, rfl, HV.us 5 _ rfl, Ext.trans s0 he⟩)
     clear hK hC hW hL HV s0
     rw [HFR.out]
     go_wp2_with fail
     show K _ _; have := H.out _ (Ext.refl _); rw [HFR.out] at this
     exact this
    ·rintro L A W K hL hC hW ⟨V, rfl, HV, s0⟩ hK
     have e5 := HV 5 _ rfl (hW 5 rfl)
     have hB := s0
     have H := Lib.hid (show ∀ W', Ext W W' → K (fr (upd V 6 (.slice (some ⟨b2, o2, none⟩) p.code.length c2))) W' from fun W' he => hK _ _ ⟨_, rfl, HV.us 6 _ rfl, Ext.trans s0 he⟩)
     have HU := Lib.hid (show (upd V 6 (.slice (some ⟨b2, o2, none⟩) p.code.length c2)) 5 = .pointer (some ⟨w.heap.size + 1, 6, none⟩) from e5)
     clear hK hC hW hL HV s0
     rw [HFR.out, e5]
     clear e5
     have hcl := (Cs.ext HB0.out.2.1 (HE.out.trans hB)).cell 6 _ rfl
     clear hB
     go_wp2_with fail
     show K _ _; have := H.out _ (Ext.refl _); rw [HFR.out] at this
     obtain u5 := HU.out
     rw [u5] at this
     exact this
    ·rintro L A W K hL hC hW ⟨V, rfl, HV, s0⟩ hK
     have H := Lib.hid (show ∀ W', Ext W W' → K (fr (upd V 7 (.int .i64 (k : Nat)))) W' from fun W' he => hK _ _ ⟨_, rfl, HV.us 7 _ rfl, Ext.trans s0 he⟩)
     clear hK hC hW hL HV s0
     rw [HFR.out]
     go_wp2_with fail
     show K _ _; have := H.out _ (Ext.refl _); rw [HFR.out] at this
     exact this
    ·rintro L A W K hL hC hW ⟨V, rfl, HV, s0⟩ hK
     have e6 := HV 6 _ rfl (hW 6 rfl)
     have e7 := HV 7 _ rfl (hW 7 rfl)
     have H := Lib.hid (show ∀ W', Ext W W' → K (fr (upd V 8 (.pointer (some ⟨b2, o2 + k, none⟩)))) W' from fun W' he => hK _ _ ⟨_, rfl, HV.us 8 _ rfl, Ext.trans s0 he⟩)
     have HU := Lib.hid (show (upd V 8 (.pointer (some ⟨b2, o2 + k, none⟩))) 6 = .slice (some ⟨b2, o2, none⟩) p.code.length c2 ∧ (upd V 8 (.pointer (some ⟨b2, o2 + k, none⟩))) 7 = .int .i64 (k : Nat) from ⟨e6, e7⟩)
     clear hK hC hW hL HV s0
     rw [HFR.out, e6, e7]
     clear e6 e7
     go_wp2_with fail
     show K _ _; have := H.out _ (Ext.refl _); rw [HFR.out] at this
     obtain ⟨u6, u7⟩ := HU.out
     rw [u6, u7] at this
     exact this
    ·rintro L A W K hL hC hW ⟨V, rfl, HV, s0⟩ hK
     have e8 := HV 8 _ rfl (hW 8 rfl)
     have hB := s0
     have H := Lib.hid (show ∀ W', Ext W W' → K (fr (upd V 9 (.int .u8 (y : Nat)))) W' from fun W' he => hK _ _ ⟨_, rfl, HV.us 9 _ rfl, Ext.trans s0 he⟩)
     have HU := Lib.hid (show (upd V 9 (.int .u8 (y : Nat))) 8 = .pointer (some ⟨b2, o2 + k, none⟩) from e8)
     clear hK hC hW hL HV s0
     rw [HFR.out, e8]
     clear e8
     have hcl := hB.cell X2.out
     clear hB
     go_wp2_with fail
     show K _ _; have := H.out _ (Ext.refl _); rw [HFR.out] at this
     obtain u8 := HU.out
     rw [u8] at this
     exact this
    ·rintro L A W K hL hC hW ⟨V, rfl, HV, s0⟩ hK
     have e4 := HV 4 _ rfl (hW 4 rfl)
     have e9 := HV 9 _ rfl (hW 9 rfl)
     have H := Lib.hid (show ∀ W', Ext W W' → K (fr (upd V 10 (.bool true))) W' from fun W' he => hK _ _ ⟨_, rfl, HV.us 10 _ rfl, Ext.trans s0 he⟩)
     have HU := Lib.hid (show (upd V 10 (.bool true)) 4 = .int .u8 (x : Nat) ∧ (upd V 10 (.bool true)) 9 = .int .u8 (y : Nat) from ⟨e4, e9⟩)
     clear hK hC hW hL HV s0
     rw [HFR.out, e4, e9]
     clear e4 e9
     go_wp2_with fail
     show K _ _; have := H.out _ (Ext.refl _); rw [HFR.out] at this
     obtain ⟨u4, u9⟩ := HU.out
     rw [u4, u9] at this
     exact this
    ·rintro L A W hL ⟨V, rfl, HV, s0⟩
     have e0 := HV 0 _ rfl (hL 0 (by simp))
     have e1 := HV 1 _ rfl (hL 1 (by simp))
     have e2 := HV 2 _ rfl (hL 2 (by simp))
     have e3 := HV 3 _ rfl (hL 3 (by simp))
     have e4 := HV 4 _ rfl (hL 4 (by simp))
     have e5 := HV 5 _ rfl (hL 5 (by simp))
     have e6 := HV 6 _ rfl (hL 6 (by simp))
     have e7 := HV 7 _ rfl (hL 7 (by simp))
     have e8 := HV 8 _ rfl (hL 8 (by simp))
     have e9 := HV 9 _ rfl (hL 9 (by simp))
     have e10 := HV 10 _ rfl (hL 10 (by simp))
     have hA := s0
     rw [HFR.out, e0, e1, e2, e3, e4, e5, e6, e7, e8, e9, e10]
     clear hL HV HFR e0 e1 e2 e3 e4 e5 e6 e7 e8 e9 e10 s0
     have HA := Lib.hid hA
     clear hA
     go_wp2_with fail
     go_ret
     exact ⟨by rw [HF.out]; rfl, HE0.out.trans HA.out⟩
  ·obtain rfl : k = p.code.length := by omega
   have HC0 := Lib.hid (show Ext w0 wr from HE.out)
   have HCE := Lib.hid HJ.out.1
   have x7 : wr.cell? ⟨w.heap.size, 7, none⟩ = some (.slice A3 p.store.length c3) := (Ab.ext HB0.out.1 HE.out).store
   obtain ⟨wc0, hwc0⟩ : ∃ wc0, wr = wc0 := ⟨_, rfl⟩
   rw [hwc0] at HC0 x7 ⊢
   clear hwc0 HE HJ
   go_wp2_with fail
   clear x7
   go_loopw [65] (fun iv wr => ∃ k : Nat, k ≤ p.store.length ∧ iv = .int .i64 k ∧ Hid ((∀ j, j < k → p.store.getD j (0, 0) = q.store.getD j (0, 0)) ∧ Ext wc0 wr)) (fun iv _ => p.store.length - (intOf iv).toNat)
   case atStart => exact ⟨0, by omega, rfl, Lib.hid ⟨fun j hj => by omega, Ext.refl _⟩⟩
   case round =>
    obtain ⟨k, hk, rfl, HJ⟩ := hrel
    have HE := Lib.hid (show Ext w0 wr from HC0.out.trans HJ.out.2)
    have HE0 := Lib.hid (HB0.out.2.2.trans HE.out)
    by_cases hlt : k < p.store.length
    ·have hd : decide (k < p.store.length) = true := decide_eq_true hlt
     obtain ⟨b1, o1, rfl, x1, x1a, x1b⟩ := (HV.out.ext HE0.out).at k hlt
     obtain ⟨b2, o2, rfl, x2, x2a, x2b⟩ := (HV2.out.ext HE0.out).at k (by rw [← HLS.out]; exact hlt)
     have X1 := Lib.hid x1
     have X2 := Lib.hid x2
     have HXW := Lib.hid (And.intro x1a x1b)
     have HYW := Lib.hid (And.intro x2a x2b)
     clear x1 x2 x1a x1b x2a x2b
     obtain ⟨x, hxx⟩ : ∃ x, p.store.getD k (0, 0) = x := ⟨_, rfl⟩
     obtain ⟨y, hyy⟩ : ∃ y, q.store.getD k (0, 0) = y := ⟨_, rfl⟩
     have HXX := Lib.hid (And.intro hxx hyy)
     rw [hxx] at X1 HXW
     rw [hyy] at X2 HYW
     clear hxx hyy

     by_cases hxy : x = y
     ·have hne : (x != y) = false := by rw [bne_eq_false_iff_eq]; exact hxy

      have HS := Lib.hid (show ∀ j, j < k + 1 → p.store.getD j (0, 0) = q.store.getD j (0, 0) from fun j hj => by
       rcases Nat.lt_succ_iff_lt_or_eq.1 hj with h | rfl
       ·exact HJ.out.1 j h
       ·exact (by rw [HXX.out.1, HXX.out.2]; exact hxy))
      clear hxy
      go_upto_region 12 with fail
      refine wp_named fun a0 ha0 => ?_
      obtain ⟨fr, hfr⟩ : ∃ fr : (Nat → Value) → Act, ∀ V, fr V = (((((((((((a0.put (some 68) (V 0)).put (some 69) (V 1)).put (some 70) (V 2)).put (some 71) (V 3)).put (some 72) (V 4)).put (some 73) (V 5)).put (some 74) (V 6)).put (some 75) (V 7)).put (some 76) (V 8)).put (some 77) (V 9)).put (some 78) (V 10)) := ⟨_, fun _ => rfl⟩
      rw [ha0] at hfr
      simp only [Act.put, List.setIfInBounds_toArray, List.set_cons_zero, List.set_cons_succ] at hfr
      have HFR := Lib.hid hfr
      clear hfr
      refine wp_region_inv (by kernel_rfl) (by kernel_rfl) (fun L A W => ∃ V : Nat → Value, A = fr V ∧ Vals (fun j => ([some (.pointer (some ⟨w.heap.size, 7, none⟩)), some (.slice (some ⟨b1, o1, none⟩) p.store.length c3), some (.int .i64 (k : Nat)), some (.pointer (some ⟨b1, o1 + k * 8, none⟩)), some (.agg (pkc x)), some (.pointer (some ⟨w.heap.size + 1, 7, none⟩)), some (.slice (some ⟨b2, o2, none⟩) p.store.length c4), some (.int .i64 (k : Nat)), some (.pointer (some ⟨b2, o2 + k * 8, none⟩)), some (.agg (pkc y)), some (.bool false)] : List (Option Value)).getD j none) L V ∧ (Ext wr W)) ?_ ⟨?_, ?_, ?_, ?_, ?_, ?_, ?_, ?_, ?_, ?_, ?_, trivial⟩ ?_
      ·refine ⟨fun j => a0.tmps.getD (([68, 69, 70, 71, 72, 73, 74, 75, 76, 77, 78] : List Nat).getD j 0) undef, ?_, Vals.no _ _ _ (far_none _ _ rfl), (Ext.refl _).drew⟩
       rw [HFR.out, ha0]
       rfl
      all_goals clear ha0
      ·rintro L A W K hL hC hW ⟨V, rfl, HV, s0⟩ hK
       have H := Lib.hid (show ∀ W', Ext W W' → K (fr (upd V 0 (.pointer (some ⟨w.heap.size, 7, none⟩)))) W' from fun W' he => hK _ _ ⟨_, rfl, HV.us 0 _ rfl, Ext.trans s0 he⟩)
       clear hK hC hW hL HV s0
       rw [HFR.out]
       go_wp2_with fail
       show K _ _; have := H.out _ (Ext.refl _); rw [HFR.out] at this
       exact this
      ·rintro L A W K hL hC hW ⟨V, rfl, HV, s0⟩ hK
       have e0 := HV 0 _ rfl (hW 0 rfl)
       have hB := s0
       have H := Lib.hid (show ∀ W', Ext W W' → K (fr (upd V 1 (.slice (some ⟨b1, o1, none⟩) p.store.length c3))) W' from fun W' he => hK _ _ ⟨_, rfl, HV.us 1 _ rfl, Ext.trans s0 he⟩)
       have HU := Lib.hid (show (upd V 1 (.slice (some ⟨b1, o1, none⟩) p.store.length c3)) 0 = .pointer (some ⟨w.heap.size, 7, none⟩) from e0)
       clear hK hC hW hL HV s0
       rw [HFR.out, e0]
       clear e0
       have hcl := (Cs.ext HB0.out.1 (HE.out.trans hB)).cell 7 _ rfl
       clear hB
       go_wp2_with fail
       show K _ _; have := H.out _ (Ext.refl _); rw [HFR.out] at this
       obtain u0 := HU.out
       rw [u0] at this
       exact this
      ·rintro L A W K hL hC hW ⟨V, rfl, HV, s0⟩ hK
       have H := Lib.hid (show ∀ W', Ext W W' → K (fr (upd V 2 (.int .i64 (k : Nat)))) W' from fun W' he => hK _ _ ⟨_, rfl, HV.us 2 _ rfl, Ext.trans s0 he⟩)
       clear hK hC hW hL HV s0
       rw [HFR.out]
       go_wp2_with fail
       show K _ _; have := H.out _ (Ext.refl _); rw [HFR.out] at this
       exact this
      ·rintro L A W K hL hC hW ⟨V, rfl, HV, s0⟩ hK
       have e1 := HV 1 _ rfl (hW 1 rfl)
       have e2 := HV 2 _ rfl (hW 2 rfl)
       have H := Lib.hid (show ∀ W', Ext W W' → K (fr (upd V 3 (.pointer (some ⟨b1, o1 + k * 8, none⟩)))) W' from fun W' he => hK _ _ ⟨_, rfl, HV.us 3 _ rfl, Ext.trans s0 he⟩)
       have HU := Lib.hid (show (upd V 3 (.pointer (some ⟨b1, o1 + k * 8, none⟩))) 1 = .slice (some ⟨b1, o1, none⟩) p.store.length c3 ∧ (upd V 3 (.pointer (some ⟨b1, o1 + k * 8, none⟩))) 2 = .int .i64 (k : Nat) from ⟨e1, e2⟩)
       clear hK hC hW hL HV s0
       rw [HFR.out, e1, e2]
       clear e1 e2
       go_wp2_with fail
       show K _ _; have := H.out _ (Ext.refl _); rw [HFR.out] at this
       obtain ⟨u1, u2⟩ := HU.out
       rw [u1, u2] at this
       exact this
      ·rintro L A W K hL hC hW ⟨V, rfl, HV, s0⟩ hK
       have e3 := HV 3 _ rfl (hW 3 rfl)
       have hB := s0
       have H := Lib.hid (show ∀ W', Ext W W' → K (fr (upd V 4 (.agg (pkc x)))) W' from fun W' he => hK _ _ ⟨_, rfl, HV.us 4 _ rfl, Ext.trans s0 he⟩)
       have HU := Lib.hid (show (upd V 4 (.agg (pkc x))) 3 = .pointer (some ⟨b1, o1 + k * 8, none⟩) from e3)
       clear hK hC hW hL HV s0
       rw [HFR.out, e3]
       clear e3
       have HCR := Lib.hid (fun (j : Nat) (z : Value) (hz : (pkc x).toList[j]? = some z) => hB.cell (X1.out j z hz))
       clear hB
       ((with_reducible refine wpList_load_pair ?_ (.tmp 71) ?_ b1 (o1 + k * 8) x ?_ ?_ ?_); (exact rfl); (exact rfl); (exact rfl); (exact HCR.out))
       show K _ _; have := H.out _ (Ext.refl _); rw [HFR.out] at this
       obtain u3 := HU.out
       rw [u3] at this
       exact this
      ·rintro L A W K hL hC hW ⟨V, rfl, HV, s0⟩ hK
       have H := Lib.hid (show ∀ W', Ext W W' → K (fr (upd V 5 (.pointer (some ⟨w.heap.size + 1, 7, none⟩)))) W' from fun W' he => hK _ _ ⟨_, rfl, HV.us 5 _ rfl, Ext.trans s0 he⟩)
       clear hK hC hW hL HV s0
       rw [HFR.out]
       go_wp2_with fail
       show K _ _; have := H.out _ (Ext.refl _); rw [HFR.out] at this
       exact this
      ·rintro L A W K hL hC hW ⟨V, rfl, HV, s0⟩ hK
       have e5 := HV 5 _ rfl (hW 5 rfl)
       have hB := s0
       have H := Lib.hid (show ∀ W', Ext W W' → K (fr (upd V 6 (.slice (some ⟨b2, o2, none⟩) p.store.length c4))) W' from fun W' he => hK _ _ ⟨_, rfl, HV.us 6 _ rfl, Ext.trans s0 he⟩)
       have HU := Lib.hid (show (upd V 6 (.slice (some ⟨b2, o2, none⟩) p.store.length c4)) 5 = .pointer (some ⟨w.heap.size + 1, 7, none⟩) from e5)
       clear hK hC hW hL HV s0
       rw [HFR.out, e5]
       clear e5
       have hcl := (Cs.ext HB0.out.2.1 (HE.out.trans hB)).cell 7 _ rfl
       clear hB
       go_wp2_with fail
       show K _ _; have := H.out _ (Ext.refl _); rw [HFR.out] at this
       obtain u5 := HU.out
       rw [u5] at this
       exact this
      ·rintro L A W K hL hC hW ⟨V, rfl, HV, s0⟩ hK
       have H := Lib.hid (show ∀ W', Ext W W' → K (fr (upd V 7 (.int .i64 (k : Nat)))) W' from fun W' he => hK _ _ ⟨_, rfl, HV.us 7 _ rfl, Ext.trans s0 he⟩)
       clear hK hC hW hL HV s0
       rw [HFR.out]
       go_wp2_with fail
       show K _ _; have := H.out _ (Ext.refl _); rw [HFR.out] at this
       exact this
      ·rintro L A W K hL hC hW ⟨V, rfl, HV, s0⟩ hK
       have e6 := HV 6 _ rfl (hW 6 rfl)
       have e7 := HV 7 _ rfl (hW 7 rfl)
       have H := Lib.hid (show ∀ W', Ext W W' → K (fr (upd V 8 (.pointer (some ⟨b2, o2 + k * 8, none⟩)))) W' from fun W' he => hK _ _ ⟨_, rfl, HV.us 8 _ rfl, Ext.trans s0 he⟩)
       have HU := Lib.hid (show (upd V 8 (.pointer (some ⟨b2, o2 + k * 8, none⟩))) 6 = .slice (some ⟨b2, o2, none⟩) p.store.length c4 ∧ (upd V 8 (.pointer (some ⟨b2, o2 + k * 8, none⟩))) 7 = .int .i64 (k : Nat) from ⟨e6, e7⟩)
       clear hK hC hW hL HV s0
       rw [HFR.out, e6, e7]
       clear e6 e7
       go_wp2_with fail
       show K _ _; have := H.out _ (Ext.refl _); rw [HFR.out] at this
       obtain ⟨u6, u7⟩ := HU.out
       rw [u6, u7] at this
       exact this
      ·rintro L A W K hL hC hW ⟨V, rfl, HV, s0⟩ hK
       have e8 := HV 8 _ rfl (hW 8 rfl)
       have hB := s0
       have H := Lib.hid (show ∀ W', Ext W W' → K (fr (upd V 9 (.agg (pkc y)))) W' from fun W' he => hK _ _ ⟨_, rfl, HV.us 9 _ rfl, Ext.trans s0 he⟩)
       have HU := Lib.hid (show (upd V 9 (.agg (pkc y))) 8 = .pointer (some ⟨b2, o2 + k * 8, none⟩) from e8)
       clear hK hC hW hL HV s0
       rw [HFR.out, e8]
       clear e8
       have HCR := Lib.hid (fun (j : Nat) (z : Value) (hz : (pkc y).toList[j]? = some z) => hB.cell (X2.out j z hz))
       clear hB
       ((with_reducible refine wpList_load_pair ?_ (.tmp 76) ?_ b2 (o2 + k * 8) y ?_ ?_ ?_); (exact rfl); (exact rfl); (exact rfl); (exact HCR.out))
       show K _ _; have := H.out _ (Ext.refl _); rw [HFR.out] at this
       obtain u8 := HU.out
       rw [u8] at this
       exact this
      ·rintro L A W K hL hC hW ⟨V, rfl, HV, s0⟩ hK
       have e4 := HV 4 _ rfl (hW 4 rfl)
       have e9 := HV 9 _ rfl (hW 9 rfl)
       have hB := s0
       have H := Lib.hid (show ∀ W', Ext W W' → K (fr (upd V 10 (.bool false))) W' from fun W' he => hK _ _ ⟨_, rfl, HV.us 10 _ rfl, Ext.trans s0 he⟩)
       have HU := Lib.hid (show (upd V 10 (.bool false)) 4 = .agg (pkc x) ∧ (upd V 10 (.bool false)) 9 = .agg (pkc y) from ⟨e4, e9⟩)
       clear hK hC hW hL HV s0
       rw [HFR.out, e4, e9]
       clear e4 e9
       clear hB
       ((with_reducible refine wpList_neq_pair ?_ (.tmp 72) (.tmp 77) ?_ x y HXW.out HYW.out ?_ ?_ ?_); (exact rfl); (exact rfl); (exact rfl); (exact rfl); rw [hne])
       show K _ _; have := H.out _ (Ext.refl _); rw [HFR.out] at this
       obtain ⟨u4, u9⟩ := HU.out
       rw [u4, u9] at this
       exact this
      ·rintro L A W hL ⟨V, rfl, HV, s0⟩
       have e0 := HV 0 _ rfl (hL 0 (by simp))
       have e1 := HV 1 _ rfl (hL 1 (by simp))
       have e2 := HV 2 _ rfl (hL 2 (by simp))
       have e3 := HV 3 _ rfl (hL 3 (by simp))
       have e4 := HV 4 _ rfl (hL 4 (by simp))
       have e5 := HV 5 _ rfl (hL 5 (by simp))
       have e6 := HV 6 _ rfl (hL 6 (by simp))
       have e7 := HV 7 _ rfl (hL 7 (by simp))
       have e8 := HV 8 _ rfl (hL 8 (by simp))
       have e9 := HV 9 _ rfl (hL 9 (by simp))
       have e10 := HV 10 _ rfl (hL 10 (by simp))
       have hA := s0
       rw [HFR.out, e0, e1, e2, e3, e4, e5, e6, e7, e8, e9, e10]
       clear hL HV HFR e0 e1 e2 e3 e4 e5 e6 e7 e8 e9 e10 s0
       have HA := Lib.hid hA
       clear hA
       go_wp2_with fail
       exact ⟨⟨k + 1, by omega, by go_num, Lib.hid ⟨HS.out, HJ.out.2.trans HA.out⟩⟩, by simp [intOf]; omega⟩
     ·have hne : (x != y) = true := by rw [bne_iff_ne]; exact hxy

      have HF := Lib.hid (show p.eqB q = false from eqB_store (lst_ne p.store q.store k (0, 0) (by rw [beq_eq_false_iff_ne, HXX.out.1, HXX.out.2]; exact hxy)))
      clear hxy
      go_upto_region 12 with fail
      refine wp_named fun a0 ha0 => ?_
      obtain ⟨fr, hfr⟩ : ∃ fr : (Nat → Value) → Act, ∀ V, fr V = (((((((((((a0.put (some 68) (V 0)).put (some 69) (V 1)).put (some 70) (V 2)).put (some 71) (V 3)).put (some 72) (V 4)).put (some 73) (V 5)).put (some 74) (V 6)).put (some 75) (V 7)).put (some 76) (V 8)).put (some 77) (V 9)).put (some 78) (V 10)) := ⟨_, fun _ => rfl⟩
      rw [ha0] at hfr
      simp only [Act.put, List.setIfInBounds_toArray, List.set_cons_zero, List.set_cons_succ] at hfr
      have HFR := Lib.hid hfr
      clear hfr
      refine wp_region_inv (by kernel_rfl) (by kernel_rfl) (fun L A W => ∃ V : Nat → Value, A = fr V ∧ Vals (fun j => ([some (.pointer (some ⟨w.heap.size, 7, none⟩)), some (.slice (some ⟨b1, o1, none⟩) p.store.length c3), some (.int .i64 (k : Nat)), some (.pointer (some ⟨b1, o1 + k * 8, none⟩)), some (.agg (pkc x)), some (.pointer (some ⟨w.heap.size + 1, 7, none⟩)), some (.slice (some ⟨b2, o2, none⟩) p.store.length c4), some (.int .i64 (k : Nat)), some (.pointer (some ⟨b2, o2 + k * 8, none⟩)), some (.agg (pkc y)), some (.bool true)] : List (Option Value)).getD j none) L V ∧ (Ext wr W)) ?_ ⟨?_, ?_, ?_, ?_, ?_, ?_, ?_, ?_, ?_, ?_, ?_, trivial⟩ ?_
      ·refine ⟨fun j => a0.tmps.getD (([68, 69, 70, 71, 72, 73, 74, 75, 76, 77, 78] : List Nat).getD j 0) undef, ?_, Vals.no _ _ _ (far_none _ _ rfl), (Ext.refl _).drew⟩
       rw [HFR.out, ha0]
       rfl
      all_goals clear ha0
      ·rintro L A W K hL hC hW ⟨V, rfl, HV, s0⟩ hK
       have H := Lib.hid (show ∀ W', Ext W W' → K (fr (upd V 0 (.pointer (some ⟨w.heap.size, 7, none⟩)))) W' from fun W' he => hK _ _ ⟨_, rfl, HV.us 0 _ rfl, Ext.trans s0 he⟩)
       clear hK hC hW hL HV s0
       rw [HFR.out]
       go_wp2_with fail
       show K _ _; have := H.out _ (Ext.refl _); rw [HFR.out] at this
       exact this
      ·rintro L A W K hL hC hW ⟨V, rfl, HV, s0⟩ hK
       have e0 := HV 0 _ rfl (hW 0 rfl)
       have hB := s0
       have H := Lib.hid (show ∀ W', Ext W W' → K (fr (upd V 1 (.slice (some ⟨b1, o1, none⟩) p.store.length c3))) W' from fun W' he => hK _ _ ⟨_, rfl, HV.us 1 _ rfl, Ext.trans s0 he⟩)
       have HU := Lib.hid (show (upd V 1 (.slice (some ⟨b1, o1, none⟩) p.store.length c3)) 0 = .pointer (some ⟨w.heap.size, 7, none⟩) from e0)
       clear hK hC hW hL HV s0
       rw [HFR.out, e0]
       clear e0
       have hcl := (Cs.ext HB0.out.1 (HE.out.trans hB)).cell 7 _ rfl
       clear hB
       go_wp2_with fail
       show K _ _; have := H.out _ (Ext.refl _); rw [HFR.out] at this
       obtain u0 := HU.out
       rw [u0] at this
       exact this
      ·rintro L A W K hL hC hW ⟨V, rfl, HV, s0⟩ hK
       have H := Lib.hid (show ∀ W', Ext W W' → K (fr (upd V 2 (.int .i64 (k : Nat)))) W' from fun W' he => hK _ _ ⟨_, rfl, HV.us 2 _ rfl, Ext.trans s0 he⟩)
       clear hK hC hW hL HV s0
       rw [HFR.out]
       go_wp2_with fail
       show K _ _; have := H.out _ (Ext.refl _); rw [HFR.out] at this
       exact this
      ·rintro L A W K hL hC hW ⟨V, rfl, HV, s0⟩ hK
       have e1 := HV 1 _ rfl (hW 1 rfl)
       have e2 := HV 2 _ rfl (hW 2 rfl)
       have H := Lib.hid (show ∀ W', Ext W W' → K (fr (upd V 3 (.pointer (some ⟨b1, o1 + k * 8, none⟩)))) W' from fun W' he => hK _ _ ⟨_, rfl, HV.us 3 _ rfl, Ext.trans s0 he⟩)
       have HU := Lib.hid (show (upd V 3 (.pointer (some ⟨b1, o1 + k * 8, none⟩))) 1 = .slice (some ⟨b1, o1, none⟩) p.store.length c3 ∧ (upd V 3 (.pointer (some ⟨b1, o1 + k * 8, none⟩))) 2 = .int .i64 (k : Nat) from ⟨e1, e2⟩)
       clear hK hC hW hL HV s0
       rw [HFR.out, e1, e2]
       clear e1 e2
       go_wp2_with fail
       show K _ _; have := H.out _ (Ext.refl _); rw [HFR.out] at this
       obtain ⟨u1, u2⟩ := HU.out
       rw [u1, u2] at this
       exact this
      ·rintro L A W K hL hC hW ⟨V, rfl, HV, s0⟩ hK
       have e3 := HV 3 _ rfl (hW 3 rfl)
       have hB := s0
       have H := Lib.hid (show ∀ W', Ext W W' → K (fr (upd V 4 (.agg (pkc x)))) W' from fun W' he => hK _ _ ⟨_, rfl, HV.us 4 _ rfl, Ext.trans s0 he⟩)
       have HU := Lib.hid (show (upd V 4 (.agg (pkc x))) 3 = .pointer (some ⟨b1, o1 + k * 8, none⟩) from e3)
       clear hK hC hW hL HV s0
       rw [HFR.out, e3]
       clear e3
       have HCR := Lib.hid (fun (j : Nat) (z : Value) (hz : (pkc x).toList[j]? = some z) => hB.cell (X1.out j z hz))
       clear hB
       ((with_reducible refine wpList_load_pair ?_ (.tmp 71) ?_ b1 (o1 + k * 8) x ?_ ?_ ?_); (exact rfl); (exact rfl); (exact rfl); (exact HCR.out))
       show K _ _; have := H.out _ (Ext.refl _); rw [HFR.out] at this
       obtain u3 := HU.out
       rw [u3] at this
       exact this
      ·rintro L A W K hL hC hW ⟨V, rfl, HV, s0⟩ hK
       have H := Lib.hid (show ∀ W', Ext W W' → K (fr (upd V 5 (.pointer (some ⟨w.heap.size + 1, 7, none⟩)))) W' from fun W' he => hK _ _ ⟨_, rfl, HV.us 5 _ rfl, Ext.trans s0 he⟩)
       clear hK hC hW hL HV s0
       rw [HFR.out]
       go_wp2_with fail
       show K _ _; have := H.out _ (Ext.refl _); rw [HFR.out] at this
       exact this
      ·rintro L A W K hL hC hW ⟨V, rfl, HV, s0⟩ hK
       have e5 := HV 5 _ rfl (hW 5 rfl)
       have hB := s0
       have H := Lib.hid (show ∀ W', Ext W W' → K (fr (upd V 6 (.slice (some ⟨b2, o2, none⟩) p.store.length c4))) W' from fun W' he => hK _ _ ⟨_, rfl, HV.us 6 _ rfl, Ext.trans s0 he⟩)
       have HU := Lib.hid (show (upd V 6 (.slice (some ⟨b2, o2, none⟩) p.store.length c4)) 5 = .pointer (some ⟨w.heap.size + 1, 7, none⟩) from e5)
       clear hK hC hW hL HV s0
       rw [HFR.out, e5]
       clear e5
       have hcl := (Cs.ext HB0.out.2.1 (HE.out.trans hB)).cell 7 _ rfl
       clear hB
       go_wp2_with fail
       show K _ _; have := H.out _ (Ext.refl _); rw [HFR.out] at this
       obtain u5 := HU.out
       rw [u5] at this
       exact this
      ·rintro L A W K hL hC hW ⟨V, rfl, HV, s0⟩ hK
       have H := Lib.hid (show ∀ W', Ext W W' → K (fr (upd V 7 (.int .i64 (k : Nat)))) W' from fun W' he => hK _ _ ⟨_, rfl, HV.us 7 _ rfl, Ext.trans s0 he⟩)
       clear hK hC hW hL HV s0
       rw [HFR.out]
       go_wp2_with fail
       show K _ _; have := H.out _ (Ext.refl _); rw [HFR.out] at this
       exact this
      ·rintro L A W K hL hC hW ⟨V, rfl, HV, s0⟩ hK
       have e6 := HV 6 _ rfl (hW 6 rfl)
       have e7 := HV 7 _ rfl (hW 7 rfl)
       have H := Lib.hid (show ∀ W', Ext W W' → K (fr (upd V 8 (.pointer (some ⟨b2, o2 + k * 8, none⟩)))) W' from fun W' he => hK _ _ ⟨_, rfl, HV.us 8 _ rfl, Ext.trans s0 he⟩)
       have HU := Lib.hid (show (upd V 8 (.pointer (some ⟨b2, o2 + k * 8, none⟩))) 6 = .slice (some ⟨b2, o2, none⟩) p.store.length c4 ∧ (upd V 8 (.pointer (some ⟨b2, o2 + k * 8, none⟩))) 7 = .int .i64 (k : Nat) from ⟨e6, e7⟩)
       clear hK hC hW hL HV s0
       rw [HFR.out, e6, e7]
       clear e6 e7
       go_wp2_with fail
       show K _ _; have := H.out _ (Ext.refl _); rw [HFR.out] at this
       obtain ⟨u6, u7⟩ := HU.out
       rw [u6, u7] at this
       exact this
      ·rintro L A W K hL hC hW ⟨V, rfl, HV, s0⟩ hK
       have e8 := HV 8 _ rfl (hW 8 rfl)
       have hB := s0
       have H := Lib.hid (show ∀ W', Ext W W' → K (fr (upd V 9 (.agg (pkc y)))) W' from fun W' he => hK _ _ ⟨_, rfl, HV.us 9 _ rfl, Ext.trans s0 he⟩)
       have HU := Lib.hid (show (upd V 9 (.agg (pkc y))) 8 = .pointer (some ⟨b2, o2 + k * 8, none⟩) from e8)
       clear hK hC hW hL HV s0
       rw [HFR.out, e8]
       clear e8
       have HCR := Lib.hid (fun (j : Nat) (z : Value) (hz : (pkc y).toList[j]? = some z) => hB.cell (X2.out j z hz))
       clear hB
       ((with_reducible refine wpList_load_pair ?_ (.tmp 76) ?_ b2 (o2 + k * 8) y ?_ ?_ ?_); (exact rfl); (exact rfl); (exact rfl); (exact HCR.out))
       show K _ _; have := H.out _ (Ext.refl _); rw [HFR.out] at this
       obtain u8 := HU.out
       rw [u8] at this
       exact this
      ·rintro L A W K hL hC hW ⟨V, rfl, HV, s0⟩ hK
       have e4 := HV 4 _ rfl (hW 4 rfl)
       have e9 := HV 9 _ rfl (hW 9 rfl)
       have hB := s0
       have H := Lib.hid (show ∀ W', Ext W W' → K (fr (upd V 10 (.bool true))) W' from fun W' he => hK _ _ ⟨_, rfl, HV.us 10 _ rfl, Ext.trans s0 he⟩)
       have HU := Lib.hid (show (upd V 10 (.bool true)) 4 = .agg (pkc x) ∧ (upd V 10 (.bool true)) 9 = .agg (pkc y) from ⟨e4, e9⟩)
       clear hK hC hW hL HV s0
       rw [HFR.out, e4, e9]
       clear e4 e9
       clear hB
       ((with_reducible refine wpList_neq_pair ?_ (.tmp 72) (.tmp 77) ?_ x y HXW.out HYW.out ?_ ?_ ?_); (exact rfl); (exact rfl); (exact rfl); (exact rfl); rw [hne])
       show K _ _; have := H.out _ (Ext.refl _); rw [HFR.out] at this
       obtain ⟨u4, u9⟩ := HU.out
       rw [u4, u9] at this
       exact this
      ·rintro L A W hL ⟨V, rfl, HV, s0⟩
       have e0 := HV 0 _ rfl (hL 0 (by simp))
       have e1 := HV 1 _ rfl (hL 1 (by simp))
       have e2 := HV 2 _ rfl (hL 2 (by simp))
       have e3 := HV 3 _ rfl (hL 3 (by simp))
       have e4 := HV 4 _ rfl (hL 4 (by simp))
       have e5 := HV 5 _ rfl (hL 5 (by simp))
       have e6 := HV 6 _ rfl (hL 6 (by simp))
       have e7 := HV 7 _ rfl (hL 7 (by simp))
       have e8 := HV 8 _ rfl (hL 8 (by simp))
       have e9 := HV 9 _ rfl (hL 9 (by simp))
       have e10 := HV 10 _ rfl (hL 10 (by simp))
       have hA := s0
       rw [HFR.out, e0, e1, e2, e3, e4, e5, e6, e7, e8, e9, e10]
       clear hL HV HFR e0 e1 e2 e3 e4 e5 e6 e7 e8 e9 e10 s0
       have HA := Lib.hid hA
       clear hA
       go_wp2_with fail
       go_ret
       exact ⟨by rw [HF.out]; rfl, HE0.out.trans HA.out⟩
    ·obtain rfl : k = p.store.length := by omega
     have HF := Lib.hid (show p.eqB q = true from by
      unfold Ac.eqB
      rw [decide_eq_true E1.out, decide_eq_true E2.out, decide_eq_true E3.out, lst_eq p.code q.code 0 HLC.out HCE.out, lst_eq p.store q.store (0, 0) HLS.out HJ.out.1]
      rfl)
     go_wp2_with fail
     go_ret
     exact ⟨by rw [HF.out]; rfl, HE0.out⟩
end Go.Proofs.Ytiojfpdjnblkhaa
