/- Package journal: worlds, points, journals in memory. -/
import Derived.Test.YtnjpdchmdimaaaaGreatQLhk
import Derived.Test.YtnjpdchmdimaaaaGreatQSth
import Derived.Test.YtnjpdchmdimaaaaGreatQStv
import Derived.Test.YtnjpdchmdimaaaaGreatQAcz
namespace Go.Proofs.YtnjpdchmdimaaaaGreat
open Go.ChangeShapes Go.WideShapes Go.ChangeAt Go.RowKit Go.Shelf

set_option maxRecDepth 100000 in
set_option maxHeartbeats 2000000 in
theorem equalN_any (v u : Value) (l m : List Nn) (w : World) (hs : Nns w v l) (ht : Nns w u m) : Calls Tryz.prog 106 #[v, u] w fun e w' => e = .returned (.bool (decide (l = m))) ∧ Ext w w' := by
 have HS := Lib.hid hs
 have HT := Lib.hid ht
 obtain ⟨A1, c1, rfl, h1, h2⟩ := hs.len
 obtain ⟨A2, c2, rfl, h3, h4⟩ := ht.len
 unfold maxLen at h2 h4
 clear hs ht
 go_enter Tryz.func106, Tryz.ntmps106
 by_cases hl : l.length = m.length
 case neg =>
  have HF : Hid (decide (l = m) = false) := Lib.hid (decide_eq_false (fun e => hl (by rw [e])))
  have e1 : ((l.length : Int) != (m.length : Int)) = true := by rw [bne_iff_ne]; omega
  have e2 : ((l.length : Int) == (m.length : Int)) = false := by rw [beq_eq_false_iff_ne]; omega
  clear hl
  go_wp2_with fail
  go_ret
  exact ⟨by rw [HF.out]; rfl, Ext.refl _⟩
 have e1 : ((l.length : Int) != (m.length : Int)) = false := by rw [bne_eq_false_iff_eq]; omega
 have e2 : ((l.length : Int) == (m.length : Int)) = true := by rw [beq_iff_eq]; omega
 have HL := Lib.hid hl
 clear hl
 go_wp2_with fail
 clear e1 e2
 go_loopw [13] (fun iv wr => ∃ k : Nat, k ≤ l.length ∧ iv = .int .i64 k ∧ Hid ((∀ i, i < k → l.getD i nz0 = m.getD i nz0) ∧ Ext w wr)) (fun iv _ => l.length - (intOf iv).toNat)
 case atStart => exact ⟨0, by omega, rfl, Lib.hid ⟨fun i hi => absurd hi (by omega), Ext.refl _⟩⟩
 case round =>
  obtain ⟨k, hk, rfl, HJ⟩ := hrel
  by_cases hlt : k < l.length
  ·have hd : decide (k < l.length) = true := decide_eq_true hlt
   have hd2 : decide ((k : Int) < (l.length : Int)) = true := decide_eq_true (by omega)
   have hlm : k < m.length := by have := HL.out; omega
   have hd3 : decide (k < m.length) = true := decide_eq_true hlm
   have hd4 : decide ((k : Int) < (m.length : Int)) = true := decide_eq_true (by omega)
   obtain ⟨bb, oo, rfl, hrg, hp⟩ := (HS.out.ext HJ.out.2).at k hlt
   obtain ⟨b2, o2, rfl, hrg2, hp2⟩ := (HT.out.ext HJ.out.2).at k hlm
   have HR := Lib.hid hrg
   have HR2 := Lib.hid hrg2
   have HPP := Lib.hid hp
   have HPQ := Lib.hid hp2
   have HX := Lib.hid HJ.out.2
   have HNX := Lib.hid (show l.getD k nz0 = m.getD k nz0 → ∀ i, i < k + 1 → l.getD i nz0 = m.getD i nz0 from fun h i hi => by
    rcases Nat.lt_or_ge i k with h1 | h1
    ·exact HJ.out.1 i h1
    ·obtain rfl : i = k := by omega
     exact h)
   have HNO := Lib.hid (show l.getD k nz0 ≠ m.getD k nz0 → decide (l = m) = false from fun h => decide_eq_false (fun e => h (by rw [e])))
   clear hrg hp hrg2 hp2 HJ
   generalize l.getD k nz0 = p at *
   generalize m.getD k nz0 = q at *
   go_upto_region 6 with fail
   refine wp_named fun a0 ha0 => ?_
   obtain ⟨fr, hfr⟩ : ∃ fr : (Nat → Value) → Act, ∀ V, fr V = (((((((((a0.put (some 16) (V 0)).put (some 17) (V 1)).put (some 18) (V 2)).put (some 19) (V 3)).put (some 20) (V 4)).put (some 21) (V 5)).put (some 22) (V 6)).put (some 23) (V 7)).put (some 24) (V 8)) := ⟨_, fun _ => rfl⟩
   rw [ha0] at hfr
   simp only [Act.put, List.setIfInBounds_toArray, List.set_cons_zero, List.set_cons_succ] at hfr
   have HFR := Lib.hid hfr
   clear hfr
   refine wp_region_inv (by kernel_rfl) (by kernel_rfl) (fun L A W => ∃ V : Nat → Value, A = fr V ∧ Vals (fun j => ([some (.slice (some ⟨bb, oo, none⟩) l.length c1), some (.int .i64 (k : Nat)), some (.pointer (some ⟨bb, oo + k * 6, none⟩)), some (.agg (nnc p)), some (.slice (some ⟨b2, o2, none⟩) m.length c2), some (.int .i64 (k : Nat)), some (.pointer (some ⟨b2, o2 + k * 6, none⟩)), some (.agg (nnc q)), some (.bool (!p.eqB q))] : List (Option Value)).getD j none) L V ∧ (Ext wr W)) ?_ ⟨?_, ?_, ?_, ?_, ?_, ?_, ?_, ?_, ?_, trivial⟩ ?_
   ·refine ⟨fun j => a0.tmps.getD (([16, 17, 18, 19, 20, 21, 22, 23, 24] : List Nat).getD j 0) undef, ?_, Vals.no _ _ _ (far_none _ _ rfl), (Ext.refl wr).drew⟩
    rw [HFR.out, ha0]
    rfl
   all_goals clear ha0
   ·rintro L A W K hL hC hW ⟨V, rfl, HV, s0⟩ hK
    have H := Lib.hid (show ∀ W', Ext W W' → K (fr (upd V 0 (.slice (some ⟨bb, oo, none⟩) l.length c1))) W' from fun W' he => hK _ _ ⟨_, rfl, HV.us 0 _ rfl, Ext.trans s0 he⟩)
    clear hK hC hW hL HV s0
    rw [HFR.out]
    go_wp2_with fail
    show K _ _; have := H.out _ (Ext.refl _); rw [HFR.out] at this
    exact this
   ·rintro L A W K hL hC hW ⟨V, rfl, HV, s0⟩ hK
    have H := Lib.hid (show ∀ W', Ext W W' → K (fr (upd V 1 (.int .i64 (k : Nat)))) W' from fun W' he => hK _ _ ⟨_, rfl, HV.us 1 _ rfl, Ext.trans s0 he⟩)
    clear hK hC hW hL HV s0
    rw [HFR.out]
    go_wp2_with fail
    show K _ _; have := H.out _ (Ext.refl _); rw [HFR.out] at this
    exact this
   ·rintro L A W K hL hC hW ⟨V, rfl, HV, s0⟩ hK
    have e0 := HV 0 _ rfl (hW 0 rfl)
    have e1 := HV 1 _ rfl (hW 1 rfl)
    have H := Lib.hid (show ∀ W', Ext W W' → K (fr (upd V 2 (.pointer (some ⟨bb, oo + k * 6, none⟩)))) W' from fun W' he => hK _ _ ⟨_, rfl, HV.us 2 _ rfl, Ext.trans s0 he⟩)
    have HU := Lib.hid (show (upd V 2 (.pointer (some ⟨bb, oo + k * 6, none⟩))) 0 = .slice (some ⟨bb, oo, none⟩) l.length c1 ∧ (upd V 2 (.pointer (some ⟨bb, oo + k * 6, none⟩))) 1 = .int .i64 (k : Nat) from ⟨e0, e1⟩)
    clear hK hC hW hL HV s0
    rw [HFR.out, e0, e1]
    clear e0 e1
    go_wp2_with fail
    show K _ _; have := H.out _ (Ext.refl _); rw [HFR.out] at this
    obtain ⟨u0, u1⟩ := HU.out
    rw [u0, u1] at this
    exact this
   ·rintro L A W K hL hC hW ⟨V, rfl, HV, s0⟩ hK
    have e2 := HV 2 _ rfl (hW 2 rfl)
    have hB := s0
    have H := Lib.hid (show ∀ W', Ext W W' → K (fr (upd V 3 (.agg (nnc p)))) W' from fun W' he => hK _ _ ⟨_, rfl, HV.us 3 _ rfl, Ext.trans s0 he⟩)
    have HU := Lib.hid (show (upd V 3 (.agg (nnc p))) 2 = .pointer (some ⟨bb, oo + k * 6, none⟩) from e2)
    clear hK hC hW hL HV s0
    rw [HFR.out, e2]
    clear e2
    have HWW := Lib.hid (fun (y : Nat) (z : Value) (hz : (nnc p).toList[y]? = some z) => hB.cell (HR.out y z hz))
    clear hB
    refine wpList_load_nn rfl (.tmp 18) rfl bb (oo + k * 6) p rfl HWW.out ?_
    show K _ _; have := H.out _ (Ext.refl _); rw [HFR.out] at this
    obtain u2 := HU.out
    rw [u2] at this
    exact this
   ·rintro L A W K hL hC hW ⟨V, rfl, HV, s0⟩ hK
    have H := Lib.hid (show ∀ W', Ext W W' → K (fr (upd V 4 (.slice (some ⟨b2, o2, none⟩) m.length c2))) W' from fun W' he => hK _ _ ⟨_, rfl, HV.us 4 _ rfl, Ext.trans s0 he⟩)
    clear hK hC hW hL HV s0
    rw [HFR.out]
    go_wp2_with fail
    show K _ _; have := H.out _ (Ext.refl _); rw [HFR.out] at this
    exact this
   ·rintro L A W K hL hC hW ⟨V, rfl, HV, s0⟩ hK
    have H := Lib.hid (show ∀ W', Ext W W' → K (fr (upd V 5 (.int .i64 (k : Nat)))) W' from fun W' he => hK _ _ ⟨_, rfl, HV.us 5 _ rfl, Ext.trans s0 he⟩)
    clear hK hC hW hL HV s0
    rw [HFR.out]
    go_wp2_with fail
    show K _ _; have := H.out _ (Ext.refl _); rw [HFR.out] at this
    exact this
   ·rintro L A W K hL hC hW ⟨V, rfl, HV, s0⟩ hK
    have e4 := HV 4 _ rfl (hW 4 rfl)
    have e5 := HV 5 _ rfl (hW 5 rfl)
    have H := Lib.hid (show ∀ W', Ext W W' → K (fr (upd V 6 (.pointer (some ⟨b2, o2 + k * 6, none⟩)))) W' from fun W' he => hK _ _ ⟨_, rfl, HV.us 6 _ rfl, Ext.trans s0 he⟩)
    have HU := Lib.hid (show (upd V 6 (.pointer (some ⟨b2, o2 + k * 6, none⟩))) 4 = .slice (some ⟨b2, o2, none⟩) m.length c2 ∧ (upd V 6 (.pointer (some ⟨b2, o2 + k * 6, none⟩))) 5 = .int .i64 (k : Nat) from ⟨e4, e5⟩)
    clear hK hC hW hL HV s0
    rw [HFR.out, e4, e5]
    clear e4 e5
    go_wp2_with fail
    show K _ _; have := H.out _ (Ext.refl _); rw [HFR.out] at this
    obtain ⟨u4, u5⟩ := HU.out
    rw [u4, u5] at this
    exact this
   ·rintro L A W K hL hC hW ⟨V, rfl, HV, s0⟩ hK
    have e6 := HV 6 _ rfl (hW 6 rfl)
    have hB := s0
    have H := Lib.hid (show ∀ W', Ext W W' → K (fr (upd V 7 (.agg (nnc q)))) W' from fun W' he => hK _ _ ⟨_, rfl, HV.us 7 _ rfl, Ext.trans s0 he⟩)
    have HU := Lib.hid (show (upd V 7 (.agg (nnc q))) 6 = .pointer (some ⟨b2, o2 + k * 6, none⟩) from e6)
    clear hK hC hW hL HV s0
    rw [HFR.out, e6]
    clear e6
    have HWW := Lib.hid (fun (y : Nat) (z : Value) (hz : (nnc q).toList[y]? = some z) => hB.cell (HR2.out y z hz))
    clear hB
    refine wpList_load_nn rfl (.tmp 22) rfl b2 (o2 + k * 6) q rfl HWW.out ?_
    show K _ _; have := H.out _ (Ext.refl _); rw [HFR.out] at this
    obtain u6 := HU.out
    rw [u6] at this
    exact this
   ·rintro L A W K hL hC hW ⟨V, rfl, HV, s0⟩ hK
    have e3 := HV 3 _ rfl (hW 3 rfl)
    have e7 := HV 7 _ rfl (hW 7 rfl)
    have hB := s0
    have H := Lib.hid (show ∀ W', Ext W W' → K (fr (upd V 8 (.bool (!p.eqB q)))) W' from fun W' he => hK _ _ ⟨_, rfl, HV.us 8 _ rfl, Ext.trans s0 he⟩)
    have HU := Lib.hid (show (upd V 8 (.bool (!p.eqB q))) 3 = .agg (nnc p) ∧ (upd V 8 (.bool (!p.eqB q))) 7 = .agg (nnc q) from ⟨e3, e7⟩)
    clear hK hC hW hL HV s0
    rw [HFR.out, e3, e7]
    clear e3 e7
    clear hB
    refine wpList_neq_nn rfl (.tmp 19) (.tmp 23) rfl p q HPP.out HPQ.out rfl rfl ?_
    show K _ _; have := H.out _ (Ext.refl _); rw [HFR.out] at this
    obtain ⟨u3, u7⟩ := HU.out
    rw [u3, u7] at this
    exact this
   ·rintro L A W hL ⟨V, rfl, HV, s0⟩
    have e0 := HV 0 _ rfl (hL 0 (by simp))
    have e1 := HV 1 _ rfl (hL 1 (by simp))
    have e2 := HV 2 _ rfl (hL 2 (by simp))
    have e3 := HV 3 _ rfl (hL 3 (by simp))
    have e4 := HV 4 _ rfl (hL 4 (by simp))
    have e5 := HV 5 _ rfl (hL 5 (by simp))
    have e6 := HV 6 _ rfl (hL 6 (by simp))
    have e7 := HV 7 _ rfl (hL 7 (by simp))
    have e8 := HV 8 _ rfl (hL 8 (by simp))
    have hA := s0
    rw [HFR.out, e0, e1, e2, e3, e4, e5, e6, e7, e8]
    clear hL HV HFR e0 e1 e2 e3 e4 e5 e6 e7 e8 s0
    cases hb : (!p.eqB q) with
    | true =>
     have HF := Lib.hid (HNO.out (fun e => by rw [e] at hb; simp [Nn.eqB_self] at hb))
     clear hb
     go_wp2_with fail
     refine bodyPost_ret (results_tmp rfl _ _ _) rfl ?_
     exact ⟨by rw [HF.out]; rfl, HX.out.trans hA⟩
    | false =>
     have HN := Lib.hid (HNX.out (by rw [Bool.not_eq_false'] at hb; exact (Nn.eqB_iff p q).1 hb))
     clear hb
     go_wp2_with fail
     exact ⟨⟨k + 1, by omega, by go_num, Lib.hid ⟨HN.out, HX.out.trans hA⟩⟩, by simp [intOf]; omega⟩
  ·obtain rfl : k = l.length := by omega
   have hd : decide (l.length < l.length) = false := decide_eq_false (by omega)
   have hd2 : decide ((l.length : Int) < (l.length : Int)) = false := decide_eq_false (by omega)
   have HF : Hid (decide (l = m) = true) := Lib.hid (decide_eq_true (by
    apply List.ext_getElem HL.out
    intro i hi hj
    have := HJ.out.1 i hi
    rwa [List.getD_eq_getElem?_getD, List.getD_eq_getElem?_getD, List.getElem?_eq_getElem hi, List.getElem?_eq_getElem hj] at this))
   go_wp2_with fail
   refine bodyPost_ret (results_tmp rfl _ _ _) rfl ?_
   exact ⟨by rw [HF.out]; rfl, HJ.out.2⟩
set_option maxRecDepth 100000 in
set_option maxHeartbeats 1000000 in
theorem sameN_any (v u : Value) (l m : List Nn) (w : World) (hs : Nns w v l) (ht : Nns w u m) : Calls Tryz.prog 49 #[v, u] w fun e w' => e = .returned (.bool (decide (l = m))) ∧ Ext w w' := by
 go_enter Tryz.func49, Tryz.ntmps49
 go_wp2_with fail
 refine (equalN_any v u l m _ hs ht).mono ?_
 rintro e w2 ⟨rfl, he⟩
 have HE := Lib.hid he
 clear he
 go_wp2_with fail
 go_ret
 exact ⟨rfl, HE.out⟩
theorem Nns.take {W : World} {A : Option Addr} {n c : Nat} {l : List Nn} (h : Nns W (.slice A n c) l) (k : Nat) (hk : k ≤ l.length) : Nns W (.slice A k c) (l.take k) := by
 obtain ⟨A', c', e, h1, h2, h3⟩ := h
 injection e with e1 e2 e3
 subst e1 e2 e3
 have hlen : (l.take k).length = k := by rw [List.length_take]; omega
 refine ⟨A, c, by rw [hlen], by omega, h2, fun hp => ?_⟩
 obtain ⟨b, o, ea, hc⟩ := h3 (by omega)
 refine ⟨b, o, ea, fun i x hx => hc i x ?_⟩
 have hi : i < (l.take k).length := (List.getElem?_eq_some_iff.1 hx).1
 rw [List.getElem?_take, if_pos (by omega)] at hx
 exact hx
end Go.Proofs.YtnjpdchmdimaaaaGreat
namespace Go.Proofs.YtnjpdchmdimaaaaGreat
open Go.ChangeShapes Go.WideShapes Go.ChangeAt Go.RowKit Go.Shelf

structure Wo where
 s : List Ac
 g : List Hd
 n : List Nn
def WoR (W : World) (u v z : Value) (o : Wo) : Prop := Acs W u o.s ∧ Hds W v o.g ∧ Nns W z o.n
theorem WoR.ext {W W' : World} {u v z : Value} {o : Wo} (h : WoR W u v z o) (he : Ext W W') : WoR W' u v z o := ⟨h.1.ext he, h.2.1.ext he, h.2.2.ext he⟩
def wo0 : Wo := ⟨[], [], []⟩
structure Po where
 w : Wo
 x : Ax
def po0 : Po := ⟨wo0, ax0⟩
def PoR (W : World) (cs : List Value) (p : Po) : Prop := ∃ u v z a s q, cs = [u, v, z, a, s, q] ∧ WoR W u v z p.w ∧ AxR W a s q p.x
theorem PoR.ext {W W' : World} {cs : List Value} {p : Po} (h : PoR W cs p) (he : Ext W W') : PoR W' cs p := by
 obtain ⟨u, v, z, a, s, q, e, h1, h2⟩ := h
 exact ⟨u, v, z, a, s, q, e, h1.ext he, h2.ext he⟩
def Pos (W : World) (v : Value) (l : List Po) : Prop := Sl W 6 (PoR W) v l
theorem Pos.ext {W W' : World} {v : Value} {l : List Po} (h : Pos W v l) (he : Ext W W') : Pos W' v l := Sl.mono h (fun _ _ hc => he.cell hc) fun _ _ h => h.ext he
theorem Pos.len {W : World} {v : Value} {l : List Po} (h : Pos W v l) : ∃ A c, v = .slice A l.length c ∧ l.length ≤ c ∧ c ≤ maxLen := by
 obtain ⟨A, c, e, h1, h2, _⟩ := h
 exact ⟨A, c, e, h1, h2⟩
theorem Pos.nil (W : World) : Pos W (.slice none 0 0) [] := ⟨none, 0, rfl, Nat.le_refl _, Nat.zero_le _, fun h => absurd h (by simp)⟩
theorem Pos.at {W : World} {A : Option Addr} {n c : Nat} {l : List Po} (h : Pos W (.slice A n c) l) (i : Nat) (hi : i < l.length) : ∃ b o u v z a s q, A = some ⟨b, o, none⟩ ∧ W.rangeAt b (o + i * 6) [u, v, z, a, s, q] ∧ WoR W u v z (l.getD i po0).w ∧ AxR W a s q (l.getD i po0).x := by
 obtain ⟨A', c', e, _, _, h3⟩ := h
 injection e with e1 e2 e3
 subst e1
 obtain ⟨b, o, rfl, hc⟩ := h3 (by omega)
 obtain ⟨cs, _, ⟨u, v, z, a, s, q, rfl, k1, k2⟩, k3⟩ := hc i _ (List.getElem?_eq_getElem hi)
 have e : l.getD i po0 = l[i] := by simp [List.getD, List.getElem?_eq_getElem hi]
 rw [e]
 exact ⟨b, o, u, v, z, a, s, q, rfl, k3, k1, k2⟩
structure Jn where
 p : Po
 m : List Po
def jn0 : Jn := ⟨po0, []⟩
def JnR (W : World) (cs : Array Value) (j : Jn) : Prop := ∃ u v z a s q m, cs = #[u, v, z, a, s, q, m] ∧ WoR W u v z j.p.w ∧ AxR W a s q j.p.x ∧ Pos W m j.m
theorem JnR.ext {W W' : World} {cs : Array Value} {j : Jn} (h : JnR W cs j) (he : Ext W W') : JnR W' cs j := by
 obtain ⟨u, v, z, a, s, q, m, e, h1, h2, h3⟩ := h
 exact ⟨u, v, z, a, s, q, m, e, h1.ext he, h2.ext he, h3.ext he⟩
def sameWo (a b : Wo) : Bool := eqL a.s b.s && (sameG a.g b.g && decide (a.n = b.n))
theorem sameWo_iff {a b : Wo} : sameWo a b = true ↔ a = b := by
 cases a; cases b
 unfold sameWo
 rw [Bool.and_eq_true, Bool.and_eq_true, eqL_iff, sameG_iff, decide_eq_true_eq]
 simp
def samePo (a b : Po) : Bool := sameWo a.w b.w && sameX a.x b.x
theorem samePo_iff {a b : Po} : samePo a b = true ↔ a = b := by
 cases a; cases b
 unfold samePo
 rw [Bool.and_eq_true, sameWo_iff, sameX_iff]
 simp
def rightWo (o : Wo) : Bool := rightL o.s && (rightG o.g && rightN o.n)
def chkWo (o : Wo) : Int := if rightWo o then 0 else 200
def rightPo (p : Po) : Bool := rightWo p.w && rightX p.x
def rightJn (j : Jn) : Bool := decide (j.m.length ≤ 16) && (rightPo j.p && j.m.all rightPo)
def chkJn (j : Jn) : Int := if rightJn j then 0 else 200
def SzW (o : Wo) : Prop := o.s.length ≤ 100000
def SzJ (j : Jn) : Prop := SzW j.p.w ∧ ∀ p ∈ j.m, SzW p.w
set_option maxRecDepth 100000 in
theorem infoWo : (Tryz.prog.info? 30).map (·.size) = some 3 := by kernel_rfl
set_option maxRecDepth 100000 in
theorem wpList_loadWo {ops : Array Oper} {rest : List Oper} {o : Oper} {a0 : Act} {w : World} {Q : Exit → Act → World → Prop} (hgd : Region.wanted o (yielded ops a0.tmps) = true) (x : Operand) (ho : o.op = .load 30 x)
  (g k : Nat) (u v z : Value) (hx : a0.eval x = .pointer (some ⟨g, k, none⟩)) (hg : w.rangeAt g k [u, v, z]) (h : wpList Tryz.prog ops Q rest (a0.put o.dst (.agg #[u, v, z])) w) : wpList Tryz.prog ops Q (o :: rest) a0 w := by
 refine wpList_step fun K hK => ?_
 rw [if_pos hgd]
 refine wp_load_mid 30 x ho g k hx [u, v, z] _ hg Tryz.underlying30 rfl infoWo ?_
 exact hK _ _ h
set_option maxRecDepth 100000 in
theorem wpList_storeWo {ops : Array Oper} {rest : List Oper} {o : Oper} {a0 : Act} {w : World} {Q : Exit → Act → World → Prop} (hgd : o.guard = none) (hd : o.dst = none) (x y : Operand) (ho : o.op = .store 30 x y)
  (g : Nat) (u' v' z' u v z : Value) (hx : a0.eval x = .pointer (some ⟨g, 0, none⟩)) (hy : a0.eval y = .agg #[u, v, z]) (h1 : (#[u, v, z] : Array Value).all (·.oneCell') = true) (hg : Cs w g 30 #[u', v', z'])
  (h : ∀ w', Cs w' g 30 #[u, v, z] → w.grownBy w' (some g) → wpList Tryz.prog ops Q rest a0 w') : wpList Tryz.prog ops Q (o :: rest) a0 w := by
 have h' : ∀ w', Cs w' g 30 #[u, v, z] → w.grownBy w' (some g) → wpList Tryz.prog ops Q rest (a0.put o.dst undef) w' := by rw [hd]; exact h
 refine wpList_store_row hgd 30 x y ho g #[u, v, z] hx hy 30 #[u', v', z'] hg infoWo rfl h1 (h' _ ?_ ?_)
 ·exact setRow_heap w g _ _ 30 (0, 0) hg
 ·exact ⟨rfl, rfl, rfl, by simp [World.setRow], fun k _ hk => setRow_other w g k _ (fun e => hk (by simp [e]))⟩
set_option maxRecDepth 100000 in
theorem infoSt : (Tryz.prog.info? 24).map (·.size) = some 1 := by kernel_rfl
set_option maxRecDepth 100000 in
theorem wpList_loadSt {ops : Array Oper} {rest : List Oper} {o : Oper} {a0 : Act} {w : World} {Q : Exit → Act → World → Prop} (hgd : Region.wanted o (yielded ops a0.tmps) = true) (x : Operand) (ho : o.op = .load 24 x)
  (g k : Nat) (u : Value) (hx : a0.eval x = .pointer (some ⟨g, k, none⟩)) (hg : w.rangeAt g k [u]) (h : wpList Tryz.prog ops Q rest (a0.put o.dst (.agg #[u])) w) : wpList Tryz.prog ops Q (o :: rest) a0 w := by
 refine wpList_step fun K hK => ?_
 rw [if_pos hgd]
 refine wp_load_mid 24 x ho g k hx [u] _ hg Tryz.underlying24 rfl infoSt ?_
 exact hK _ _ h
set_option maxRecDepth 100000 in
theorem infoLd : (Tryz.prog.info? 27).map (·.size) = some 1 := by kernel_rfl
set_option maxRecDepth 100000 in
theorem wpList_loadLd {ops : Array Oper} {rest : List Oper} {o : Oper} {a0 : Act} {w : World} {Q : Exit → Act → World → Prop} (hgd : Region.wanted o (yielded ops a0.tmps) = true) (x : Operand) (ho : o.op = .load 27 x)
  (g k : Nat) (u : Value) (hx : a0.eval x = .pointer (some ⟨g, k, none⟩)) (hg : w.rangeAt g k [u]) (h : wpList Tryz.prog ops Q rest (a0.put o.dst (.agg #[u])) w) : wpList Tryz.prog ops Q (o :: rest) a0 w := by
 refine wpList_step fun K hK => ?_
 rw [if_pos hgd]
 refine wp_load_mid 27 x ho g k hx [u] _ hg Tryz.underlying27 rfl infoLd ?_
 exact hK _ _ h
set_option maxRecDepth 100000 in
theorem infoPo : (Tryz.prog.info? 37).map (·.size) = some 6 := by kernel_rfl
set_option maxRecDepth 100000 in
theorem wpList_loadPo {ops : Array Oper} {rest : List Oper} {o : Oper} {a0 : Act} {w : World} {Q : Exit → Act → World → Prop} (hgd : Region.wanted o (yielded ops a0.tmps) = true) (x : Operand) (ho : o.op = .load 37 x)
  (g k : Nat) (u v z a s q : Value) (hx : a0.eval x = .pointer (some ⟨g, k, none⟩)) (hg : w.rangeAt g k [u, v, z, a, s, q]) (h : wpList Tryz.prog ops Q rest (a0.put o.dst (.agg #[u, v, z, a, s, q])) w) : wpList Tryz.prog ops Q (o :: rest) a0 w := by
 refine wpList_step fun K hK => ?_
 rw [if_pos hgd]
 refine wp_load_mid 37 x ho g k hx [u, v, z, a, s, q] _ hg Tryz.underlying37 rfl infoPo ?_
 exact hK _ _ h
set_option maxRecDepth 100000 in
theorem wpList_storePo {ops : Array Oper} {rest : List Oper} {o : Oper} {a0 : Act} {w : World} {Q : Exit → Act → World → Prop} (hgd : o.guard = none) (hd : o.dst = none) (x y : Operand) (ho : o.op = .store 37 x y)
  (g : Nat) (u' v' z' a' s' q' u v z a s q : Value) (hx : a0.eval x = .pointer (some ⟨g, 0, none⟩)) (hy : a0.eval y = .agg #[u, v, z, a, s, q]) (h1 : (#[u, v, z, a, s, q] : Array Value).all (·.oneCell') = true) (hg : Cs w g 37 #[u', v', z', a', s', q'])
  (h : ∀ w', Cs w' g 37 #[u, v, z, a, s, q] → w.grownBy w' (some g) → wpList Tryz.prog ops Q rest a0 w') : wpList Tryz.prog ops Q (o :: rest) a0 w := by
 have h' : ∀ w', Cs w' g 37 #[u, v, z, a, s, q] → w.grownBy w' (some g) → wpList Tryz.prog ops Q rest (a0.put o.dst undef) w' := by rw [hd]; exact h
 refine wpList_store_row hgd 37 x y ho g #[u, v, z, a, s, q] hx hy 37 #[u', v', z', a', s', q'] hg infoPo rfl h1 (h' _ ?_ ?_)
 ·exact setRow_heap w g _ _ 37 (0, 0) hg
 ·exact ⟨rfl, rfl, rfl, by simp [World.setRow], fun k _ hk => setRow_other w g k _ (fun e => hk (by simp [e]))⟩
set_option maxRecDepth 100000 in
theorem infoJn : (Tryz.prog.info? 40).map (·.size) = some 7 := by kernel_rfl
set_option maxRecDepth 100000 in
theorem wpList_loadJn {ops : Array Oper} {rest : List Oper} {o : Oper} {a0 : Act} {w : World} {Q : Exit → Act → World → Prop} (hgd : Region.wanted o (yielded ops a0.tmps) = true) (x : Operand) (ho : o.op = .load 40 x)
  (g k : Nat) (u v z a s q m : Value) (hx : a0.eval x = .pointer (some ⟨g, k, none⟩)) (hg : w.rangeAt g k [u, v, z, a, s, q, m]) (h : wpList Tryz.prog ops Q rest (a0.put o.dst (.agg #[u, v, z, a, s, q, m])) w) : wpList Tryz.prog ops Q (o :: rest) a0 w := by
 refine wpList_step fun K hK => ?_
 rw [if_pos hgd]
 refine wp_load_mid 40 x ho g k hx [u, v, z, a, s, q, m] _ hg Tryz.underlying40 rfl infoJn ?_
 exact hK _ _ h
set_option maxRecDepth 100000 in
theorem wpList_storeJn {ops : Array Oper} {rest : List Oper} {o : Oper} {a0 : Act} {w : World} {Q : Exit → Act → World → Prop} (hgd : o.guard = none) (hd : o.dst = none) (x y : Operand) (ho : o.op = .store 40 x y)
  (g : Nat) (u' v' z' a' s' q' m' u v z a s q m : Value) (hx : a0.eval x = .pointer (some ⟨g, 0, none⟩)) (hy : a0.eval y = .agg #[u, v, z, a, s, q, m]) (h1 : (#[u, v, z, a, s, q, m] : Array Value).all (·.oneCell') = true) (hg : Cs w g 40 #[u', v', z', a', s', q', m'])
  (h : ∀ w', Cs w' g 40 #[u, v, z, a, s, q, m] → w.grownBy w' (some g) → wpList Tryz.prog ops Q rest a0 w') : wpList Tryz.prog ops Q (o :: rest) a0 w := by
 have h' : ∀ w', Cs w' g 40 #[u, v, z, a, s, q, m] → w.grownBy w' (some g) → wpList Tryz.prog ops Q rest (a0.put o.dst undef) w' := by rw [hd]; exact h
 refine wpList_store_row hgd 40 x y ho g #[u, v, z, a, s, q, m] hx hy 40 #[u', v', z', a', s', q', m'] hg infoJn rfl h1 (h' _ ?_ ?_)
 ·exact setRow_heap w g _ _ 40 (0, 0) hg
 ·exact ⟨rfl, rfl, rfl, by simp [World.setRow], fun k _ hk => setRow_other w g k _ (fun e => hk (by simp [e]))⟩
set_option maxRecDepth 100000 in
theorem infoXk : (Tryz.prog.info? 35).map (·.size) = some 3 := by kernel_rfl
set_option maxRecDepth 100000 in
theorem wpList_loadXk {ops : Array Oper} {rest : List Oper} {o : Oper} {a0 : Act} {w : World} {Q : Exit → Act → World → Prop} (hgd : Region.wanted o (yielded ops a0.tmps) = true) (x : Operand) (ho : o.op = .load 35 x)
  (g k : Nat) (u v z : Value) (hx : a0.eval x = .pointer (some ⟨g, k, none⟩)) (hg : w.rangeAt g k [u, v, z]) (h : wpList Tryz.prog ops Q rest (a0.put o.dst (.agg #[u, v, z])) w) : wpList Tryz.prog ops Q (o :: rest) a0 w := by
 refine wpList_step fun K hK => ?_
 rw [if_pos hgd]
 refine wp_load_mid 35 x ho g k hx [u, v, z] _ hg Tryz.underlying35 rfl infoXk ?_
 exact hK _ _ h
theorem rg_part {W : World} {b o : Nat} {cs ds : List Value} (k : Nat) (h : W.rangeAt b o cs) (hd : ∀ (j : Nat) (x : Value), ds[j]? = some x → cs[k + j]? = some x) : W.rangeAt b (o + k) ds := fun j x hx => by
 have := h (k + j) x (hd j x hx)
 rwa [show o + (k + j) = o + k + j by omega] at this
theorem acs_one {W : World} {v : Value} {l : List Ac} (h : Acs W v l) : v.oneCell' = true := by obtain ⟨A, c, rfl, _⟩ := h.len; rfl
theorem hds_one {W : World} {v : Value} {l : List Hd} (h : Hds W v l) : v.oneCell' = true := by obtain ⟨A, c, rfl, _⟩ := h.len; rfl
theorem nns_one {W : World} {v : Value} {l : List Nn} (h : Nns W v l) : v.oneCell' = true := by obtain ⟨A, c, rfl, _⟩ := h.len; rfl
theorem pos_one {W : World} {v : Value} {l : List Po} (h : Pos W v l) : v.oneCell' = true := by obtain ⟨A, c, rfl, _⟩ := h.len; rfl
theorem axr_one {W : World} {a s q : Value} {x : Ax} (h : AxR W a s q x) : a.oneCell' = true ∧ s.oneCell' = true ∧ q.oneCell' = true := by
 obtain ⟨A1, c1, rfl, _⟩ := h.1.len
 obtain ⟨A2, c2, rfl, _⟩ := h.2.1.len
 obtain ⟨A3, c3, rfl, _⟩ := h.2.2.len
 exact ⟨rfl, rfl, rfl⟩
end Go.Proofs.YtnjpdchmdimaaaaGreat
