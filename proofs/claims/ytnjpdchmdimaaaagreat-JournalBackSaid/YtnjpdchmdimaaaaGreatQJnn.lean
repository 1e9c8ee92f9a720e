/- Package journal: Back, Keep. -/
import Derived.Test.YtnjpdchmdimaaaaGreatQJnl
import Derived.BigQuiet
namespace Go.Proofs.YtnjpdchmdimaaaaGreat
open Go.ChangeShapes Go.WideShapes Go.ChangeAt Go.RowKit Go.Shelf

theorem ext_drewNJ {a w : World} (h : Ext a w) (n : Nat) : Ext a (w.drewN n) := ⟨h.os, h.tape, h.output, h.size, fun i hi => Below.block h i hi⟩
def endE (j : Jn) (n : Int) : Int := if n < 0 ∨ (j.m.length : Int) ≤ n then 4 else 0
def endJ (j : Jn) (n : Int) (p : Po) : Jn × Int := jchg j (endE j n) ⟨p, j.m.take n.toNat⟩
set_option maxRecDepth 100000 in
theorem infoLPo : (Tryz.prog.info? 38).map (·.size) = some 1 := by kernel_rfl
def DoJ (F : FuncId) (cap : Array Value) (w W0 : World) (g gn : Nat) (n : Int) (pv : Array Value) (m : Value) (yp : Po) : Prop :=
 ∃ yu yv yz ya ys yq, (∀ W, EnJ w W0 g gn n pv W → Calls Tryz.prog F (#[.pointer (some ⟨g, 0, none⟩)] ++ cap) W fun e w' => e = .returned (.tuple #[]) ∧ EnJ w W0 g gn n #[yu, yv, yz, ya, ys, yq, m] w') ∧ WoR w yu yv yz yp.w ∧ AxR w ya ys yq yp.x
set_option maxRecDepth 100000 in
set_option maxHeartbeats 8000000 in
theorem ended1_any (g gn gd : Nat) (n : Int) (xu xv xz xa xs xq : Value) (AM : Option Addr) (c : Nat) (jj : Jn) (yp : Po) (F2 : FuncId) (cap2 : Array Value) (w W0 : World) (hw : w.heap.size ≤ g) (hn : gn ≠ g) (hE : Ext w W0)
  (hc : Cs W0 g 40 #[xu, xv, xz, xa, xs, xq, .slice AM jj.m.length c]) (hg : Cs W0 gn 3 #[.int .i64 n]) (hd : Cs W0 gd 125 #[.func (.func F2) #[] cap2]) (hm : Pos w (.slice AM jj.m.length c) jj.m)
  (hF : ∀ (args : Array Value) (u : World), (callFunc F2 args).run Tryz.prog u = .ok (.enter F2 args) u)
  (hD : ∀ k : Nat, n = (k : Int) → k < jj.m.length → DoJ F2 cap2 w W0 g gn n #[xu, xv, xz, xa, xs, xq, .slice AM jj.m.length c] (.slice AM jj.m.length c) yp) :
  Calls Tryz.prog 112 #[.pointer (some ⟨g, 0, none⟩), .pointer (some ⟨gn, 0, none⟩), .pointer (some ⟨gd, 0, none⟩)] W0 fun e w' => e = .returned (.int .i64 (endE jj n)) ∧ Below g W0 w' ∧ (endE jj n = 0 → ∃ cs, Cs w' g 40 cs ∧ JnR w' cs ⟨yp, jj.m.take n.toNat⟩) := by
 have HC := Lib.hid hc
 have HG := Lib.hid hg
 have HDD := Lib.hid hd
 have HM := Lib.hid hm
 have HFF := Lib.hid hF
 have HD := Lib.hid hD
 have HE := Lib.hid hE
 have HDEF : Hid (endE jj n = if n < 0 ∨ (jj.m.length : Int) ≤ n then 4 else 0) := Lib.hid rfl
 have HLC := Lib.hid (show jj.m.length ≤ c by obtain ⟨A', c', e, h1, h2⟩ := hm.len; injection e with e1 e2 e3; omega)
 have hcn := hg.cell 0 _ rfl
 have hcm := hc.cell 6 _ rfl
 clear hc hg hd hm hF hD hE
 by_cases h1 : n < 0
 ·have f1 : decide (n < 0) = true := decide_eq_true h1
  have HEND := Lib.hid (show endE jj n = 4 by rw [HDEF.out, if_pos (Or.inl h1)])
  clear h1
  ·go_enter Tryz.func112, Tryz.ntmps112
   go_wp2_with fail
   go_quiet (fail)
   have HE2 := Lib.hid (ext_drewNJ (Ext.refl W0) nq)
   go_wp2_with fail
   go_ret
   exact ⟨by rw [HEND.out]; rfl, Below.mono HE2.out (Nat.le_of_lt HC.out.lt), fun h => absurd h (by rw [HEND.out]; decide)⟩
 ·by_cases h2 : (jj.m.length : Int) ≤ n
  ·have f1 : decide (n < 0) = false := decide_eq_false h1
   have f2 : decide ((jj.m.length : Int) ≤ n) = true := decide_eq_true h2
   have HEND := Lib.hid (show endE jj n = 4 by rw [HDEF.out, if_pos (Or.inr h2)])
   clear h1 h2
   go_enter Tryz.func112, Tryz.ntmps112
   go_wp2_with fail
   go_quiet (fail)
   have HE2 := Lib.hid (ext_drewNJ (Ext.refl W0) nq)
   go_wp2_with fail
   go_ret
   exact ⟨by rw [HEND.out]; rfl, Below.mono HE2.out (Nat.le_of_lt HC.out.lt), fun h => absurd h (by rw [HEND.out]; decide)⟩
  ·have HEND := Lib.hid (show endE jj n = 0 by rw [HDEF.out, if_neg (fun h => h.elim h1 h2)])
   obtain ⟨k, rfl⟩ : ∃ k : Nat, n = (k : Int) := ⟨n.toNat, by omega⟩
   have hk : k < jj.m.length := by omega
   have f1 : decide ((k : Int) < 0) = false := decide_eq_false h1
   have f2 : decide ((jj.m.length : Int) ≤ (k : Int)) = false := decide_eq_false h2
   have f3 : decide (jj.m.length ≤ k) = false := decide_eq_false (by omega)
   obtain ⟨yu, yv, yz, ya, ys, yq, hcall, hy1, hy2⟩ := HD.out k rfl hk
   obtain ⟨A1, hA1, hpa⟩ := pos_ahead HM.out k (Nat.le_of_lt hk)
   have HCALL := Lib.hid hcall
   have HY := Lib.hid (And.intro hy1 hy2)
   have HA1 := Lib.hid hA1
   have HPA := Lib.hid hpa
   have HKC := Lib.hid (show k ≤ c by have := HLC.out; omega)
   clear h1 h2 hcall hy1 hy2 hA1 hpa HD HDEF
   go_enter Tryz.func112, Tryz.ntmps112
   go_wp2_with fail
   go_quiet (fail)
   have HE2 := Lib.hid (ext_drewNJ (Ext.refl W0) nq)
   have hcd := (Cs.ext HDD.out HE2.out).cell 0 _ rfl
   go_wp2_with fail
   rw [HFF.out, Oper.upon_enter]
   refine (HCALL.out _ ⟨Cs.ext HC.out HE2.out, Cs.ext HG.out HE2.out, Below.mono HE2.out (Nat.le_of_lt HC.out.lt), HE.out.trans HE2.out, HE2.out.size⟩).mono ?_
   rintro e w2 ⟨rfl, hj⟩
   have HJ := Lib.hid hj
   clear hj hcd hcn hcm
   go_upto_region 4 with fail
   refine wp_named fun a0 ha0 => ?_
   obtain ⟨fr, hfr⟩ : ∃ fr : (Nat → Value) → Act, ∀ V, fr V = (((((((((a0.put (some 19) (V 0)).put (some 20) (V 1)).put (some 21) (V 2)).put (some 22) (V 3)).put (some 23) (V 4)).put (some 24) (V 5)).put (some 25) (V 6)).put (some 26) (V 7)).put (some 27) (V 8)) := ⟨_, fun _ => rfl⟩
   rw [ha0] at hfr
   simp only [Act.put, List.setIfInBounds_toArray, List.set_cons_zero, List.set_cons_succ] at hfr
   have HFR := Lib.hid hfr
   clear hfr
   refine wp_region_inv (by kernel_rfl) (by kernel_rfl) (fun L A W => ∃ V : Nat → Value, A = fr V ∧ Vals (fun j => ([some (.pointer (some ⟨g, 0, none⟩)), some (.pointer (some ⟨g, 0, none⟩)), some (.pointer (some ⟨g, 0, none⟩)), some (.pointer (some ⟨g, 6, none⟩)), some (.slice AM jj.m.length c), some (.int .i64 (k : Nat)), some (.slice A1 k k), some (.pointer (some ⟨g, 0, none⟩)), some (.pointer (some ⟨g, 6, none⟩)), none] : List (Option Value)).getD j none) L V ∧ (L 9 = false → EnJ w W0 g gn (k : Nat) #[yu, yv, yz, ya, ys, yq, .slice AM jj.m.length c] W) ∧ (L 9 = true → EnJ w W0 g gn (k : Nat) #[yu, yv, yz, ya, ys, yq, .slice A1 k k] W)) ?_ ⟨?_, ?_, ?_, ?_, ?_, ?_, ?_, ?_, ?_, ?_, trivial⟩ ?_
   ·refine ⟨fun j => a0.tmps.getD (([19, 20, 21, 22, 23, 24, 25, 26, 27, 0] : List Nat).getD j 0) undef, ?_, Vals.no _ _ _ (far_none _ _ rfl), fun _ => HJ.out.ext (Ext.refl _).drew, fun h0 => absurd h0 (by decide)⟩
    rw [HFR.out, ha0]
    rfl
   all_goals clear ha0
   ·rintro L A W K hL hC hW ⟨V, rfl, HV, s0, s1⟩ hK
    have H := Lib.hid (show ∀ W', Ext W W' → K (fr (upd V 0 (.pointer (some ⟨g, 0, none⟩)))) W' from fun W' he => hK _ _ ⟨_, rfl, HV.us 0 _ rfl, fun h0 => EnJ.ext (s0 (mnf h0 rfl)) he, fun h0 => EnJ.ext (s1 (more_ne h0 rfl)) he⟩)
    clear hK hC hW hL HV s0 s1
    rw [HFR.out]
    go_wp2_with fail
    show K _ _; have := H.out _ (Ext.refl _); rw [HFR.out] at this
    exact this
   ·rintro L A W K hL hC hW ⟨V, rfl, HV, s0, s1⟩ hK
    have H := Lib.hid (show ∀ W', Ext W W' → K (fr (upd V 1 (.pointer (some ⟨g, 0, none⟩)))) W' from fun W' he => hK _ _ ⟨_, rfl, HV.us 1 _ rfl, fun h0 => EnJ.ext (s0 (mnf h0 rfl)) he, fun h0 => EnJ.ext (s1 (more_ne h0 rfl)) he⟩)
    clear hK hC hW hL HV s0 s1
    rw [HFR.out]
    go_wp2_with fail
    show K _ _; have := H.out _ (Ext.refl _); rw [HFR.out] at this
    exact this
   ·rintro L A W K hL hC hW ⟨V, rfl, HV, s0, s1⟩ hK
    have e1 := HV 1 _ rfl (hW 1 rfl)
    have H := Lib.hid (show ∀ W', Ext W W' → K (fr (upd V 2 (.pointer (some ⟨g, 0, none⟩)))) W' from fun W' he => hK _ _ ⟨_, rfl, HV.us 2 _ rfl, fun h0 => EnJ.ext (s0 (mnf h0 rfl)) he, fun h0 => EnJ.ext (s1 (more_ne h0 rfl)) he⟩)
    have HU := Lib.hid (show (upd V 2 (.pointer (some ⟨g, 0, none⟩))) 1 = .pointer (some ⟨g, 0, none⟩) from e1)
    clear hK hC hW hL HV s0 s1
    rw [HFR.out, e1]
    clear e1
    go_wp2_with fail
    show K _ _; have := H.out _ (Ext.refl _); rw [HFR.out] at this
    obtain u1 := HU.out
    rw [u1] at this
    exact this
   ·rintro L A W K hL hC hW ⟨V, rfl, HV, s0, s1⟩ hK
    have e2 := HV 2 _ rfl (hW 2 rfl)
    have H := Lib.hid (show ∀ W', Ext W W' → K (fr (upd V 3 (.pointer (some ⟨g, 6, none⟩)))) W' from fun W' he => hK _ _ ⟨_, rfl, HV.us 3 _ rfl, fun h0 => EnJ.ext (s0 (mnf h0 rfl)) he, fun h0 => EnJ.ext (s1 (more_ne h0 rfl)) he⟩)
    have HU := Lib.hid (show (upd V 3 (.pointer (some ⟨g, 6, none⟩))) 2 = .pointer (some ⟨g, 0, none⟩) from e2)
    clear hK hC hW hL HV s0 s1
    rw [HFR.out, e2]
    clear e2
    go_wp2_with fail
    show K _ _; have := H.out _ (Ext.refl _); rw [HFR.out] at this
    obtain u2 := HU.out
    rw [u2] at this
    exact this
   ·rintro L A W K hL hC hW ⟨V, rfl, HV, s0, s1⟩ hK
    have e3 := HV 3 _ rfl (hW 3 rfl)
    have hB := s0 (hC.no (hC.no hL 6 _ rfl rfl) 9 _ rfl rfl)
    have H := Lib.hid (show ∀ W', Ext W W' → K (fr (upd V 4 (.slice AM jj.m.length c))) W' from fun W' he => hK _ _ ⟨_, rfl, HV.us 4 _ rfl, fun h0 => EnJ.ext (s0 (mnf h0 rfl)) he, fun h0 => EnJ.ext (s1 (more_ne h0 rfl)) he⟩)
    have HU := Lib.hid (show (upd V 4 (.slice AM jj.m.length c)) 3 = .pointer (some ⟨g, 6, none⟩) from e3)
    clear hK hC hW hL HV s0 s1
    rw [HFR.out, e3]
    clear e3
    have hcl := hB.1.cell 6 _ rfl
    clear hB
    go_wp2_with fail
    show K _ _; have := H.out _ (Ext.refl _); rw [HFR.out] at this
    obtain u3 := HU.out
    rw [u3] at this
    exact this
   ·rintro L A W K hL hC hW ⟨V, rfl, HV, s0, s1⟩ hK
    have hB := s0 (hC.no (hC.no hL 6 _ rfl rfl) 9 _ rfl rfl)
    have H := Lib.hid (show ∀ W', Ext W W' → K (fr (upd V 5 (.int .i64 (k : Nat)))) W' from fun W' he => hK _ _ ⟨_, rfl, HV.us 5 _ rfl, fun h0 => EnJ.ext (s0 (mnf h0 rfl)) he, fun h0 => EnJ.ext (s1 (more_ne h0 rfl)) he⟩)
    clear hK hC hW hL HV s0 s1
    rw [HFR.out]
    have hcl := hB.2.1.cell 0 _ rfl
    clear hB
    go_wp2_with fail
    show K _ _; have := H.out _ (Ext.refl _); rw [HFR.out] at this
    exact this
   ·rintro L A W K hL hC hW ⟨V, rfl, HV, s0, s1⟩ hK
    have e4 := HV 4 _ rfl (hW 4 rfl)
    have e5 := HV 5 _ rfl (hW 5 rfl)
    have hB := s0 (hC.no hL 9 _ rfl rfl)
    have H := Lib.hid (show ∀ W', Ext W W' → K (fr (upd V 6 (.slice A1 k k))) W' from fun W' he => hK _ _ ⟨_, rfl, HV.us 6 _ rfl, fun h0 => EnJ.ext (s0 (mnf h0 rfl)) he, fun h0 => EnJ.ext (s1 (more_ne h0 rfl)) he⟩)
    have HU := Lib.hid (show (upd V 6 (.slice A1 k k)) 4 = .slice AM jj.m.length c ∧ (upd V 6 (.slice A1 k k)) 5 = .int .i64 (k : Nat) from ⟨e4, e5⟩)
    clear hK hC hW hL HV s0 s1
    rw [HFR.out, e4, e5]
    clear e4 e5
    clear hB
    go_wp2_with fail
    refine (ahead_any AM A1 jj.m.length c k _ HKC.out HA1.out).mono ?_
    rintro e wx ⟨rfl, he⟩
    have := H.out _ he
    clear H
    go_wp2_with fail
    show K _ _
    rw [HFR.out] at this
    obtain ⟨u4, u5⟩ := HU.out
    rw [u4, u5] at this
    exact this
   ·rintro L A W K hL hC hW ⟨V, rfl, HV, s0, s1⟩ hK
    have e0 := HV 0 _ rfl (hW 0 rfl)
    have H := Lib.hid (show ∀ W', Ext W W' → K (fr (upd V 7 (.pointer (some ⟨g, 0, none⟩)))) W' from fun W' he => hK _ _ ⟨_, rfl, HV.us 7 _ rfl, fun h0 => EnJ.ext (s0 (mnf h0 rfl)) he, fun h0 => EnJ.ext (s1 (more_ne h0 rfl)) he⟩)
    have HU := Lib.hid (show (upd V 7 (.pointer (some ⟨g, 0, none⟩))) 0 = .pointer (some ⟨g, 0, none⟩) from e0)
    clear hK hC hW hL HV s0 s1
    rw [HFR.out, e0]
    clear e0
    go_wp2_with fail
    show K _ _; have := H.out _ (Ext.refl _); rw [HFR.out] at this
    obtain u0 := HU.out
    rw [u0] at this
    exact this
   ·rintro L A W K hL hC hW ⟨V, rfl, HV, s0, s1⟩ hK
    have e7 := HV 7 _ rfl (hW 7 rfl)
    have H := Lib.hid (show ∀ W', Ext W W' → K (fr (upd V 8 (.pointer (some ⟨g, 6, none⟩)))) W' from fun W' he => hK _ _ ⟨_, rfl, HV.us 8 _ rfl, fun h0 => EnJ.ext (s0 (mnf h0 rfl)) he, fun h0 => EnJ.ext (s1 (more_ne h0 rfl)) he⟩)
    have HU := Lib.hid (show (upd V 8 (.pointer (some ⟨g, 6, none⟩))) 7 = .pointer (some ⟨g, 0, none⟩) from e7)
    clear hK hC hW hL HV s0 s1
    rw [HFR.out, e7]
    clear e7
    go_wp2_with fail
    show K _ _; have := H.out _ (Ext.refl _); rw [HFR.out] at this
    obtain u7 := HU.out
    rw [u7] at this
    exact this
   ·rintro L A W K hL hC hW ⟨V, rfl, HV, s0, s1⟩ hK
    have e8 := HV 8 _ rfl (hW 8 rfl)
    have e6 := HV 6 _ rfl (hW 6 rfl)
    have hB := s0 hL
    have H := Lib.hid (show ∀ W', (EnJ w W0 g gn (k : Nat) #[yu, yv, yz, ya, ys, yq, .slice A1 k k] W') → K (fr (V)) W' from fun W' hA => hK _ _ ⟨V, rfl, HV.st 9 rfl, fun h0 => msf h0, fun h0 => hA⟩)
    have HU := Lib.hid (show (V) 8 = .pointer (some ⟨g, 6, none⟩) ∧ (V) 6 = .slice A1 k k from ⟨e8, e6⟩)
    clear hK hC hW hL HV s0 s1
    rw [HFR.out, e8, e6]
    clear e8 e6
    have HB := Lib.hid hB
    clear hB
    refine wpList_store_one rfl rfl 38 (.tmp 27) (.tmp 25) rfl g 6 40 #[yu, yv, yz, ya, ys, yq, .slice AM jj.m.length c] (.slice A1 k k) rfl rfl rfl HB.out.1 infoLPo (of_decide_eq_true rfl) rfl ?_
    intro w' kk gg
    have HA := Lib.hid (show EnJ w W0 g gn (k : Nat) #[yu, yv, yz, ya, ys, yq, .slice A1 k k] w' from HB.out.put kk gg hn hw)
    clear kk gg
    show K _ _; have := H.out _ HA.out; rw [HFR.out] at this
    obtain ⟨u8, u6⟩ := HU.out
    rw [u8, u6] at this
    exact this
   ·rintro L A W hL ⟨V, rfl, HV, s0, s1⟩
    have e0 := HV 0 _ rfl (hL 0 (by simp))
    have e1 := HV 1 _ rfl (hL 1 (by simp))
    have e2 := HV 2 _ rfl (hL 2 (by simp))
    have e3 := HV 3 _ rfl (hL 3 (by simp))
    have e4 := HV 4 _ rfl (hL 4 (by simp))
    have e5 := HV 5 _ rfl (hL 5 (by simp))
    have e6 := HV 6 _ rfl (hL 6 (by simp))
    have e7 := HV 7 _ rfl (hL 7 (by simp))
    have e8 := HV 8 _ rfl (hL 8 (by simp))
    have hA := s1 (hL 9 (by simp))
    rw [HFR.out, e0, e1, e2, e3, e4, e5, e6, e7, e8]
    clear hL HV HFR e0 e1 e2 e3 e4 e5 e6 e7 e8 s0 s1
    have HA := Lib.hid hA
    clear hA
    go_wp2_with fail
    go_ret
    refine ⟨by rw [HEND.out]; rfl, HA.out.2.2.1, fun _ => ⟨_, HA.out.1, ?_⟩⟩
    rw [Int.toNat_natCast]
    exact ⟨_, _, _, _, _, _, _, rfl, HY.out.1.ext HA.out.2.2.2.1, HY.out.2.ext HA.out.2.2.2.1, HPA.out.ext HA.out.2.2.2.1⟩
theorem endJ_sz {j : Jn} {n : Int} {p : Po} (hs : SzJ j) (hr : rightJn j = true) (hp : SzO p.w ∧ SzX p.x) : SzJn ⟨p, j.m.take n.toNat⟩ := by
 have hj := szJn_of hs hr
 exact ⟨hp, Nat.le_trans (by rw [List.length_take]; exact Nat.min_le_right _ _) hj.2.1, fun p hp => hj.2.2 p (List.mem_of_mem_take hp)⟩
set_option maxRecDepth 100000 in
set_option maxHeartbeats 8000000 in
theorem endedJ_any (xu xv xz xa xs xq : Value) (A : Option Addr) (c : Nat) (j : Jn) (n : Int) (yp : Po) (F2 : FuncId) (cap2 : Array Value) (w : World) (hx : WoR w xu xv xz j.p.w ∧ AxR w xa xs xq j.p.x ∧ Pos w (.slice A j.m.length c) j.m) (hz : SzJ j)
  (hp : rightJn j = true → endE j n = 0 → SzO yp.w ∧ SzX yp.x)
  (hF : ∀ (args : Array Value) (u : World), (callFunc F2 args).run Tryz.prog u = .ok (.enter F2 args) u)
  (hD : ∀ (W0 : World) (g gn k : Nat), gn ≠ g → w.heap.size ≤ g → n = (k : Int) → k < j.m.length → DoJ F2 cap2 w W0 g gn n #[xu, xv, xz, xa, xs, xq, .slice A j.m.length c] (.slice A j.m.length c) yp) :
  Calls Tryz.prog 71 #[.agg #[xu, xv, xz, xa, xs, xq, .slice A j.m.length c], .int .i64 n, .func (.func F2) #[] cap2] w fun e w' => ∃ v', e = .returned (.tuple #[v', .int .i64 (endJ j n yp).2]) ∧ RetJn w.heap.size w' v' (endJ j n yp).1 ∧ Ext w w' := by
 have HX := Lib.hid hx
 have HZ := Lib.hid hz
 have HP := Lib.hid hp
 have HFF := Lib.hid hF
 have HD := Lib.hid hD
 have HON : Hid ((#[xu, xv, xz, xa, xs, xq, .slice A j.m.length c] : Array Value).all (·.oneCell') = true) := Lib.hid (by
  obtain ⟨y1, y2, y3⟩ := axr_one hx.2.1
  have y4 := acs_one hx.1.1
  have y5 := hds_one hx.1.2.1
  have y6 := nns_one hx.1.2.2
  have y7 := pos_one hx.2.2
  simp [y1, y2, y3, y4, y5, y6, y7])
 obtain ⟨w0, hw0⟩ : ∃ w0, (((w.alloc (.cells #[xu, xv, xz, xa, xs, xq, .slice A j.m.length c] 40)).alloc (.cells #[.int .i64 n] 3)).alloc (.cells #[.func (.func F2) #[] cap2] 125)).alloc (.cells #[.slice none 0 0, .slice none 0 0, .slice none 0 0, .slice none 0 0, .slice none 0 0, .slice none 0 0, .slice none 0 0] 40) = w0 := ⟨_, rfl⟩
 have HC0 : Hid (Cs w0 w.heap.size 40 #[xu, xv, xz, xa, xs, xq, .slice A j.m.length c]) := Lib.hid (by rw [← hw0]; exact Cs.alloc (Cs.alloc (Cs.alloc (Cs.new _ _ _ _ rfl) _) _) _)
 have HN0 : Hid (Cs w0 (w.heap.size + 1) 3 #[.int .i64 n]) := Lib.hid (by rw [← hw0]; exact Cs.alloc (Cs.alloc (Cs.new _ _ _ _ (by simp)) _) _)
 have HQ0 : Hid (Cs w0 (w.heap.size + 1 + 1) 125 #[.func (.func F2) #[] cap2]) := Lib.hid (by rw [← hw0]; exact Cs.alloc (Cs.new _ _ _ _ (by simp)) _)
 have HR0 : Hid (Cs w0 (w.heap.size + 1 + 1 + 1) 40 #[.slice none 0 0, .slice none 0 0, .slice none 0 0, .slice none 0 0, .slice none 0 0, .slice none 0 0, .slice none 0 0]) := Lib.hid (by rw [← hw0]; exact Cs.new _ _ _ _ (by simp))
 have HE0 : Hid (Ext w w0) := Lib.hid (by rw [← hw0]; exact ((((Ext.refl w).alloc _).alloc _).alloc _).alloc _)
 have HL0 := Lib.hid (show w.heap.size + 1 + 1 + 1 < w0.heap.size from HR0.out.lt)
 have HW0 := Lib.hid hw0
 have HDF : Hid (endJ j n yp = jchg j (endE j n) ⟨yp, j.m.take n.toNat⟩) := Lib.hid rfl
 have HO1 := HON.out
 clear hx hw0 hz hp hF hD
 go_enter Tryz.func71, Tryz.ntmps71
 go_upto_region 1 with fail
 rw [HW0.out]
 clear HW0 HO1
 have HRG := Lib.hid (Cs.rg HC0.out)
 go_wp2_with ((with_reducible refine wpList_loadJn ?_ (.tmp 3) ?_ w.heap.size 0 xu xv xz xa xs xq (.slice A j.m.length c) ?_ HRG.out ?_); (exact rfl); (exact rfl); (exact rfl))
 refine (jchanged_any _ _ _ _ _ _ _ j 112 _ (endE j n) ⟨yp, j.m.take n.toNat⟩ _ ⟨HX.out.1.ext HE0.out, HX.out.2.1.ext HE0.out, HX.out.2.2.ext HE0.out⟩ HZ.out (fun hr h => endJ_sz HZ.out hr (HP.out hr h)) (enters_of Tryz.func112 (by kernel_rfl) rfl) ?_).mono ?_
 ·intro hr W g hW hg hc
  exact ended1_any g (w.heap.size + 1) (w.heap.size + 1 + 1) n xu xv xz xa xs xq A c j yp F2 cap2 w W (Nat.le_trans HE0.out.size hg) (by have := HL0.out; omega) (HE0.out.trans hW) hc (Cs.ext HN0.out hW) (Cs.ext HQ0.out hW) HX.out.2.2 HFF.out (fun k e hk => HD.out W g (w.heap.size + 1) k (by have := HL0.out; omega) (Nat.le_trans HE0.out.size hg) e hk)
 rintro e w1 ⟨v1, rfl, ho, he⟩
 rw [← HDF.out]
 rw [← HDF.out] at ho
 obtain ⟨a1, b1, c1, d1, e1, f1', m1, rfl, ho⟩ := retJn_shp ho
 have HE1 := Lib.hid (HE0.out.trans he)
 have HR1 := Lib.hid (Cs.ext HR0.out he)
 have HA1 := Lib.hid ho
 clear he ho HC0 HQ0 HR0 HRG HN0
 go_wp2_with ((with_reducible refine wpList_storeJn ?_ ?_ (.tmp 6) (.tmp 11) ?_ (w.heap.size + 1 + 1 + 1) (.slice none 0 0) (.slice none 0 0) (.slice none 0 0) (.slice none 0 0) (.slice none 0 0) (.slice none 0 0) (.slice none 0 0) a1 b1 c1 d1 e1 f1' m1 ?_ ?_ HA1.out.one HR1.out ?_); (exact rfl); (exact rfl); (exact rfl); (exact rfl); (exact rfl); intro w3 k3 g3; have K3 := Lib.hid k3; have G3 := Lib.hid g3; clear k3 g3)
 refine bodyPost_ret (results_jnt Tryz.results71 _ _ (w.heap.size + 1 + 1 + 1) _ _ _ _ _ _ _ rfl K3.out) rfl ?_
 exact ⟨_, rfl, (HA1.out.old G3.out HL0.out).low HE0.out.size, HE1.out.grown G3.out (by omega)⟩
end Go.Proofs.YtnjpdchmdimaaaaGreat
namespace Go.Proofs.YtnjpdchmdimaaaaGreat
open Go.ChangeShapes Go.WideShapes Go.ChangeAt Go.RowKit Go.Shelf

def backJ (j : Jn) (n : Int) : Jn × Int := endJ j n (j.m.getD n.toNat po0)
def keepJ (j : Jn) (n : Int) : Jn × Int := endJ j n j.p
theorem endE_zero {j : Jn} {n : Int} (h : endE j n = 0) : 0 ≤ n ∧ n < (j.m.length : Int) := by
 unfold endE at h
 split at h
 ·cases h
 ·omega
theorem backJ_sz {j : Jn} {n : Int} (hs : SzJ j) (hr : rightJn j = true) (h : endE j n = 0) : SzO (j.m.getD n.toNat po0).w ∧ SzX (j.m.getD n.toNat po0).x := by
 have h1 := endE_zero h
 have h2 : n.toNat < j.m.length := by omega
 exact (szJn_of hs hr).2.2 _ (List.mem_of_getElem? (po_getD h2))
set_option maxRecDepth 100000 in
set_option maxHeartbeats 8000000 in
theorem backJ_any (xu xv xz xa xs xq : Value) (A : Option Addr) (c : Nat) (j : Jn) (n : Int) (w : World) (hx : WoR w xu xv xz j.p.w ∧ AxR w xa xs xq j.p.x ∧ Pos w (.slice A j.m.length c) j.m) (hz : SzJ j) :
  Calls Tryz.prog 28 #[.agg #[xu, xv, xz, xa, xs, xq, .slice A j.m.length c], .int .i64 n] w fun e w' => ∃ v', e = .returned (.tuple #[v', .int .i64 (backJ j n).2]) ∧ RetJn w.heap.size w' v' (backJ j n).1 ∧ Ext w w' := by
 have HX := Lib.hid hx
 have HZ := Lib.hid hz
 have HON : Hid ((#[xu, xv, xz, xa, xs, xq, .slice A j.m.length c] : Array Value).all (·.oneCell') = true) := Lib.hid (by
  obtain ⟨y1, y2, y3⟩ := axr_one hx.2.1
  have y4 := acs_one hx.1.1
  have y5 := hds_one hx.1.2.1
  have y6 := nns_one hx.1.2.2
  have y7 := pos_one hx.2.2
  simp [y1, y2, y3, y4, y5, y6, y7])
 obtain ⟨w0, hw0⟩ : ∃ w0, ((w.alloc (.cells #[xu, xv, xz, xa, xs, xq, .slice A j.m.length c] 40)).alloc (.cells #[.int .i64 n] 3)).alloc (.cells #[.slice none 0 0, .slice none 0 0, .slice none 0 0, .slice none 0 0, .slice none 0 0, .slice none 0 0, .slice none 0 0] 40) = w0 := ⟨_, rfl⟩
 have HC0 : Hid (Cs w0 w.heap.size 40 #[xu, xv, xz, xa, xs, xq, .slice A j.m.length c]) := Lib.hid (by rw [← hw0]; exact Cs.alloc (Cs.alloc (Cs.new _ _ _ _ rfl) _) _)
 have HN0 : Hid (Cs w0 (w.heap.size + 1) 3 #[.int .i64 n]) := Lib.hid (by rw [← hw0]; exact Cs.alloc (Cs.new _ _ _ _ (by simp)) _)
 have HR0 : Hid (Cs w0 (w.heap.size + 1 + 1) 40 #[.slice none 0 0, .slice none 0 0, .slice none 0 0, .slice none 0 0, .slice none 0 0, .slice none 0 0, .slice none 0 0]) := Lib.hid (by rw [← hw0]; exact Cs.new _ _ _ _ (by simp))
 have HE0 : Hid (Ext w w0) := Lib.hid (by rw [← hw0]; exact (((Ext.refl w).alloc _).alloc _).alloc _)
 have HL0 := Lib.hid (show (w.heap.size + 1 + 1) < w0.heap.size from HR0.out.lt)
 have HW0 := Lib.hid hw0
 have HDF : Hid (backJ j n = endJ j n (j.m.getD n.toNat po0)) := Lib.hid rfl
 have HO1 := HON.out
 clear hx hw0 hz
 go_enter Tryz.func28, Tryz.ntmps28
 go_upto_region 1 with fail
 rw [HW0.out]
 clear HW0 HO1
 have HRG := Lib.hid (Cs.rg HC0.out)
 have hcn := HN0.out.cell 0 _ rfl
 go_wp2_with ((with_reducible refine wpList_loadJn ?_ (.tmp 2) ?_ w.heap.size 0 xu xv xz xa xs xq (.slice A j.m.length c) ?_ HRG.out ?_); (exact rfl); (exact rfl); (exact rfl))
 clear hcn
 refine (endedJ_any xu xv xz xa xs xq A c j n (j.m.getD n.toNat po0) 72 #[.pointer (some ⟨w.heap.size + 1, 0, none⟩)] _ ⟨HX.out.1.ext HE0.out, HX.out.2.1.ext HE0.out, HX.out.2.2.ext HE0.out⟩ HZ.out (fun hr h => backJ_sz HZ.out hr h) (enters_of Tryz.func72 (by kernel_rfl) rfl) ?_).mono ?_
 ·intro W0 g gn k hn hg hk0 hk
  obtain ⟨b, o, yu, yv, yz, ya, ys, yq, rfl, h1, h2, h3⟩ := Pos.at (HX.out.2.2.ext HE0.out) k hk
  refine ⟨yu, yv, yz, ya, ys, yq, fun W h => backAt_any g gn (w.heap.size + 1) k b o c n j.m xu xv xz xa xs xq yu yv yz ya ys yq w0 W0 W hk hn hg h (by have := HN0.out; rw [hk0] at this; exact this) h1 ?_, by rw [hk0, Int.toNat_natCast]; exact h2, by rw [hk0, Int.toNat_natCast]; exact h3⟩
  obtain ⟨y1, y2, y3⟩ := axr_one h3
  simp [y1, y2, y3, acs_one h2.1, hds_one h2.2.1, nns_one h2.2.2]
 rintro e w1 ⟨v1, rfl, ho, he⟩
 rw [← HDF.out]
 rw [← HDF.out] at ho
 obtain ⟨a1, b1, c1, d1, e1, f1', m1, rfl, ho⟩ := retJn_shp ho
 have HE1 := Lib.hid (HE0.out.trans he)
 have HR1 := Lib.hid (Cs.ext HR0.out he)
 have HA1 := Lib.hid ho
 clear he ho HC0 HR0 HRG HN0
 go_wp2_with ((with_reducible refine wpList_storeJn ?_ ?_ (.tmp 4) (.tmp 10) ?_ (w.heap.size + 1 + 1) (.slice none 0 0) (.slice none 0 0) (.slice none 0 0) (.slice none 0 0) (.slice none 0 0) (.slice none 0 0) (.slice none 0 0) a1 b1 c1 d1 e1 f1' m1 ?_ ?_ HA1.out.one HR1.out ?_); (exact rfl); (exact rfl); (exact rfl); (exact rfl); (exact rfl); intro w3 k3 g3; have K3 := Lib.hid k3; have G3 := Lib.hid g3; clear k3 g3)
 refine bodyPost_ret (results_jnt Tryz.results28 _ _ (w.heap.size + 1 + 1) _ _ _ _ _ _ _ rfl K3.out) rfl ?_
 exact ⟨_, rfl, (HA1.out.old G3.out HL0.out).low HE0.out.size, HE1.out.grown G3.out (by omega)⟩
set_option maxRecDepth 100000 in
set_option maxHeartbeats 8000000 in
theorem keepJ_any (xu xv xz xa xs xq : Value) (A : Option Addr) (c : Nat) (j : Jn) (n : Int) (w : World) (hx : WoR w xu xv xz j.p.w ∧ AxR w xa xs xq j.p.x ∧ Pos w (.slice A j.m.length c) j.m) (hz : SzJ j) :
  Calls Tryz.prog 29 #[.agg #[xu, xv, xz, xa, xs, xq, .slice A j.m.length c], .int .i64 n] w fun e w' => ∃ v', e = .returned (.tuple #[v', .int .i64 (keepJ j n).2]) ∧ RetJn w.heap.size w' v' (keepJ j n).1 ∧ Ext w w' := by
 have HX := Lib.hid hx
 have HZ := Lib.hid hz
 have HON : Hid ((#[xu, xv, xz, xa, xs, xq, .slice A j.m.length c] : Array Value).all (·.oneCell') = true) := Lib.hid (by
  obtain ⟨y1, y2, y3⟩ := axr_one hx.2.1
  have y4 := acs_one hx.1.1
  have y5 := hds_one hx.1.2.1
  have y6 := nns_one hx.1.2.2
  have y7 := pos_one hx.2.2
  simp [y1, y2, y3, y4, y5, y6, y7])
 obtain ⟨w0, hw0⟩ : ∃ w0, (w.alloc (.cells #[xu, xv, xz, xa, xs, xq, .slice A j.m.length c] 40)).alloc (.cells #[.slice none 0 0, .slice none 0 0, .slice none 0 0, .slice none 0 0, .slice none 0 0, .slice none 0 0, .slice none 0 0] 40) = w0 := ⟨_, rfl⟩
 have HC0 : Hid (Cs w0 w.heap.size 40 #[xu, xv, xz, xa, xs, xq, .slice A j.m.length c]) := Lib.hid (by rw [← hw0]; exact Cs.alloc (Cs.new _ _ _ _ rfl) _)
 have HR0 : Hid (Cs w0 (w.heap.size + 1) 40 #[.slice none 0 0, .slice none 0 0, .slice none 0 0, .slice none 0 0, .slice none 0 0, .slice none 0 0, .slice none 0 0]) := Lib.hid (by rw [← hw0]; exact Cs.new _ _ _ _ (by simp))
 have HE0 : Hid (Ext w w0) := Lib.hid (by rw [← hw0]; exact ((Ext.refl w).alloc _).alloc _)
 have HL0 := Lib.hid (show (w.heap.size + 1) < w0.heap.size from HR0.out.lt)
 have HW0 := Lib.hid hw0
 have HDF : Hid (keepJ j n = endJ j n j.p) := Lib.hid rfl
 have HO1 := HON.out
 clear hx hw0 hz
 go_enter Tryz.func29, Tryz.ntmps29
 go_upto_region 1 with fail
 rw [HW0.out]
 clear HW0 HO1
 have HRG := Lib.hid (Cs.rg HC0.out)
 go_wp2_with ((with_reducible refine wpList_loadJn ?_ (.tmp 2) ?_ w.heap.size 0 xu xv xz xa xs xq (.slice A j.m.length c) ?_ HRG.out ?_); (exact rfl); (exact rfl); (exact rfl))
 refine (endedJ_any xu xv xz xa xs xq A c j n j.p 73 #[] _ ⟨HX.out.1.ext HE0.out, HX.out.2.1.ext HE0.out, HX.out.2.2.ext HE0.out⟩ HZ.out (fun hr _ => (szJn_of HZ.out hr).1) (enters_of Tryz.func73 (by kernel_rfl) rfl) ?_).mono ?_
 ·intro W0 g gn k hn hg hk0 hk
  exact ⟨xu, xv, xz, xa, xs, xq, fun W h => keepAt_any g gn n _ w0 W0 W h, HX.out.1.ext HE0.out, HX.out.2.1.ext HE0.out⟩
 rintro e w1 ⟨v1, rfl, ho, he⟩
 rw [← HDF.out]
 rw [← HDF.out] at ho
 obtain ⟨a1, b1, c1, d1, e1, f1', m1, rfl, ho⟩ := retJn_shp ho
 have HE1 := Lib.hid (HE0.out.trans he)
 have HR1 := Lib.hid (Cs.ext HR0.out he)
 have HA1 := Lib.hid ho
 clear he ho HC0 HR0 HRG
 go_wp2_with ((with_reducible refine wpList_storeJn ?_ ?_ (.tmp 4) (.tmp 9) ?_ (w.heap.size + 1) (.slice none 0 0) (.slice none 0 0) (.slice none 0 0) (.slice none 0 0) (.slice none 0 0) (.slice none 0 0) (.slice none 0 0) a1 b1 c1 d1 e1 f1' m1 ?_ ?_ HA1.out.one HR1.out ?_); (exact rfl); (exact rfl); (exact rfl); (exact rfl); (exact rfl); intro w3 k3 g3; have K3 := Lib.hid k3; have G3 := Lib.hid g3; clear k3 g3)
 refine bodyPost_ret (results_jnt Tryz.results29 _ _ (w.heap.size + 1) _ _ _ _ _ _ _ rfl K3.out) rfl ?_
 exact ⟨_, rfl, (HA1.out.old G3.out HL0.out).low HE0.out.size, HE1.out.grown G3.out (by omega)⟩
end Go.Proofs.YtnjpdchmdimaaaaGreat
