/- StateKeeps: what is done to one address is not seen of another one. -/
import Derived.Test.YteidmoilldheeaaQSmc
import Derived.Test.YteidmoilldheeaaQTch
import Derived.Deep.CutBlock
namespace Go.Proofs.Yteidmoilldheeaa
open Go.ChangeShapes Go.WideShapes Go.ChangeAt Go.RowKit Go.Shelf

set_option maxRecDepth 100000 in
theorem putS_err {l m : List Ac} {a : Nat} {x : Ac} {er : Int} (h : putS l a x = (m, er)) (he : er ≠ 0) : m = [] := by
  unfold putS at h
  split at h
  · injection h with h1 h2; exact h1.symm
  · split at h
    · injection h with h1 h2; exact h1.symm
    · injection h with h1 h2; exact absurd h2.symm he
set_option maxRecDepth 100000 in
theorem ite_err {c : Prop} [Decidable c] {m : List Ac} {er k : Int} {r : List Ac × Int} (h : (if c then ([], k) else r) = (m, er)) (g : r = (m, er) → m = []) : m = [] := by
  split at h
  · injection h with h1 h2; exact h1.symm
  · exact g h
set_option maxRecDepth 100000 in
theorem runS_err {l m : List Ac} {o : Opn} {er : Int} (h : runS l o = (m, er)) (he : er ≠ 0) : m = [] := by
  unfold runS at h
  rcases kdI_cases o with hk | hk | hk | hk | hk
  · rw [if_pos hk] at h
    exact ite_err h fun h => ite_err h fun h => putS_err h he
  · rw [if_neg (by rw [hk]; decide), if_pos hk] at h
    exact ite_err h fun h => ite_err h fun h => putS_err h he
  · rw [if_neg (by rw [hk]; decide), if_neg (by rw [hk]; decide), if_pos hk] at h
    refine ite_err h fun h => ite_err h fun h => ?_
    by_cases hn : o.n ≤ (accF l o.a).1.bal
    · rw [if_pos hn] at h
      exact ite_err h fun h => putS_err h he
    · rw [if_neg hn] at h
      injection h with h1 h2; exact h1.symm
  · rw [if_neg (by rw [hk]; decide), if_neg (by rw [hk]; decide), if_neg (by rw [hk]; decide), if_pos hk] at h
    exact ite_err h fun h => ite_err h fun h => putS_err h he
  · rw [if_neg (by rw [hk]; decide), if_neg (by rw [hk]; decide), if_neg (by rw [hk]; decide), if_neg (by rw [hk]; decide)] at h
    refine ite_err h fun h => ite_err h fun h => ?_
    by_cases hn : o.n ≤ (accF l o.a).1.bal
    · rw [if_pos hn] at h
      exact putS_err h he
    · rw [if_neg hn] at h
      injection h with h1 h2; exact h1.symm
set_option maxRecDepth 100000 in
theorem opinfo : (Try.prog.info? 39).map (·.size) = some 23 := by kernel_rfl
set_option maxRecDepth 100000 in
theorem wpList_load_op {ops : Array Oper} {rest : List Oper} {q : Oper} {a : Act} {w : World} {Q : Exit → Act → World → Prop} (hgd : Region.wanted q (yielded ops a.tmps) = true) (x : Operand) (ho : q.op = .load 39 x)
    (g : Nat) (o : Opn) (u v : Value) (hx : a.eval x = .pointer (some ⟨g, 0, none⟩)) (hg : Cs w g 39 (opc o u v)) (h : wpList Try.prog ops Q rest (a.put q.dst (.agg (opc o u v))) w) : wpList Try.prog ops Q (q :: rest) a w := by
  refine wpList_step fun K hK => ?_
  rw [if_pos hgd]
  refine wp_load_mid 39 x ho g 0 hx (opc o u v).toList _ (fun j z hz => by rw [Nat.zero_add]; exact Cs.cell hg j z (by rwa [Array.getElem?_toList] at hz)) Try.underlying39 rfl opinfo ?_
  exact hK _ _ h
set_option maxRecDepth 100000 in
theorem Cs.rgK {W : World} {g : Nat} {t : TypeId} {cs : Array Value} (h : Cs W g t cs) : W.rangeAt g 0 cs.toList := fun j x hx => by
  rw [Nat.zero_add]
  exact Cs.cell h j x (by rwa [Array.getElem?_toList] at hx)
set_option maxRecDepth 100000 in
theorem op_pair {W : World} {g : Nat} {t : TypeId} {o : Opn} {u v : Value} (h : Cs W g t (opc o u v)) : W.rangeAt g 7 (wc o.pr.1).toList ∧ W.rangeAt g 11 (wc o.pr.2).toList := by
  constructor <;>
  · intro j x hx
    have hj : j < 4 := by
      have h1 := (List.getElem?_eq_some_iff.1 hx).1
      simpa [wc] using h1
    obtain rfl | rfl | rfl | rfl : j = 0 ∨ j = 1 ∨ j = 2 ∨ j = 3 := by omega
    all_goals exact Cs.cell h _ _ (by simpa [wc, opc] using hx)
set_option maxRecDepth 100000 in
theorem wpList_eql_same {ops : Array Oper} {rest : List Oper} {o : Oper} {a : Act} {w : World} {Q : Exit → Act → World → Prop} (hgd : Region.wanted o (yielded ops a.tmps) = true) (x y : Operand) (ho : o.op = .binOp .eql 31 x y 31)
    (n : Nat) (hn : n < M256) (hx : a.eval x = wv n) (hy : a.eval y = wv n) (h : wpList Try.prog ops Q rest (a.put o.dst (.bool true)) w) : wpList Try.prog ops Q (o :: rest) a w :=
  wpList_eql_word hgd x y ho n n hn hn hx hy (by simpa using h)
def OfK (W : World) (q : Ac) (val : Value) : Prop := ∃ u v, val = .agg (acc q u v) ∧ Bs W u q.code ∧ Pks W v q.store
set_option maxRecDepth 100000 in
theorem OfK.ext {W W' : World} {q : Ac} {val : Value} (h : OfK W q val) (he : Ext W W') : OfK W' q val := by
  obtain ⟨u, v, h1, h2, h3⟩ := h
  exact ⟨u, v, h1, h2.ext he, h3.ext he⟩
set_option maxRecDepth 100000 in
theorem idxK0 (A C : Option Addr) (n c m d : Nat) (W : World) : (Instr.index 48 (.agg #[.slice A n c, .slice C m d]) (.int .i64 0)).run Try.prog W = .ok (.agg #[.slice A n c]) W := by kernel_rfl
set_option maxRecDepth 100000 in
theorem idxK1 (A C : Option Addr) (n c m d : Nat) (W : World) : (Instr.index 48 (.agg #[.slice A n c, .slice C m d]) (.int .i64 1)).run Try.prog W = .ok (.agg #[.slice C m d]) W := by kernel_rfl
set_option maxRecDepth 100000 in
theorem totN_rt {l : List Ac} (hl : OkL l) (h : Rt l) : totN l = (bals l).sum := by
  unfold totN
  rw [if_pos ((rt_iff hl).2 h), sumW_eq _ (fun x hx => by
    obtain ⟨p, hp, rfl⟩ := List.mem_map.1 hx
    exact (hl p hp).2.1)]
  exact Nat.mod_eq_of_lt h.fits
set_option maxRecDepth 100000 in
theorem keeps_load {l m : List Ac} {o : Opn} (hl : OkL l) (h : Kp l m o) (e : runS l o = (m, 0)) (hk : kdI o = 1) : loadN m o.a o.pr.1 = o.pr.2 := by
  have hR : rightL l = true := (rt_iff hl).2 h.rl
  have ha : o.a ≠ 0 := by
    intro ha
    unfold runS at e
    rw [if_neg (by rw [hk]; decide), if_pos hk] at e
    unfold saveS at e
    rw [if_neg (by rw [hR]; simp), if_pos ha] at e
    cases e
  unfold loadN
  rw [if_pos ((rt_iff h.okm).2 h.rm), ld_eq (right_rise (h.rm.right ha)).1]
  exact (h.save hk).1
set_option maxRecDepth 100000 in
theorem TcW.ext {w7 W W' : World} {g : Nat} {l : List Nat} (h : TcM W g l ∧ Ext w7 W) (he : Ext W W') : TcM W' g l ∧ Ext w7 W' := ⟨h.1.ext he, h.2.trans he⟩
set_option maxRecDepth 100000 in
theorem fldK (p : Ac) (u v : Value) (W : World) : (Instr.field 37 (.agg (acc p u v)) 1).run Try.prog W = .ok (wv p.bal) W := by kernel_rfl
set_option maxRecDepth 100000 in
theorem keeps_none {a n : Nat} (h : n ≤ a) : und a n = false := by unfold und; exact decide_eq_false (by omega)
set_option maxRecDepth 100000 in
theorem keeps_fits {a n : Nat} (h : a + n < M256) : ovr a n = false := by unfold ovr; exact decide_eq_false (by omega)
set_option maxRecDepth 100000 in
set_option maxHeartbeats 16000000 in
theorem stateKeeps_any (s1 : Value) (x : List Ac) (o : Opn) (uo vo : Value) (w : World) (h1 : Acs w s1 x) (hok : o.ok) (hu : Bs w uo o.ac.code) (hv : Pks w vo o.ac.store) : Calls Try.prog 4 #[.agg #[s1], .agg (opc o uo vo)] w (RetT w) := by
  have HX := Lib.hid h1
  have HO := Lib.hid hok
  have HU := Lib.hid hu
  have HV := Lib.hid hv
  obtain ⟨A1, c1, rfl, p1, p2⟩ := h1.len
  obtain ⟨w0, hw0⟩ : ∃ w0, ((w.alloc (.cells #[.slice A1 x.length c1] 24)).alloc (.cells (opc o uo vo) 39)) = w0 := ⟨_, rfl⟩
  have HW0 := Lib.hid hw0
  have HB0 : Hid (Cs w0 w.heap.size 24 #[.slice A1 x.length c1] ∧ Cs w0 (w.heap.size + 1) 39 (opc o uo vo) ∧ Ext w w0) := by
    rw [← hw0]
    exact Lib.hid ⟨Cs.alloc (Cs.new _ _ _ _ rfl) _, Cs.new _ _ _ _ (by simp), ((Ext.refl w).alloc _).alloc _⟩
  clear h1 hok hw0 hu hv
  go_enter Try.func4, Try.ntmps4
  go_upto_region 1 with fail
  rw [HW0.out]
  clear HW0
  go_wp2_with fail
  refine (stateWakes_any _).mono ?_
  rintro e wk ⟨rfl, he⟩
  have HG3 := Lib.hid (Cs.ext HB0.out.2.1 he)
  have HE := Lib.hid (HB0.out.2.2.trans he)
  have HG2 := Lib.hid (Cs.ext HB0.out.1 he)
  have q2 := HG2.out.cell 0 _ rfl
  clear he HB0
  obtain ⟨g3, hg3⟩ : ∃ g3, w.heap.size + 1 = g3 := ⟨_, rfl⟩
  obtain ⟨g2, hg2⟩ : ∃ g2, w.heap.size = g2 := ⟨_, rfl⟩
  have HG := Lib.hid (And.intro hg2 hg3)
  rw [hg3] at HG3 ⊢
  rw [hg2] at HG2 q2 ⊢
  clear hg2 hg3
  go_wp2_with fail
  refine (stateFew_any _ _ _ (HX.out.ext HE.out)).mono ?_
  rintro e w3 ⟨vs, rfl, hr, he⟩
  have HE3 := Lib.hid (HE.out.trans he)
  have HG3 := Lib.hid (Cs.ext HG3.out he)
  have HS := Lib.hid (fewL_sz x)
  have HL := Lib.hid (fewL_len x)
  obtain ⟨l, hl⟩ : ∃ l, fewL x = l := ⟨_, rfl⟩
  rw [hl] at hr HS HL
  obtain ⟨As, cs, rfl⟩ := hr.shape
  have HA := Lib.hid hr.acs
  have HOK := Lib.hid (Acs.okL hr.acs)
  clear he hr hl HE HG2 q2
  go_upto_region 4 with fail
  obtain ⟨w4, hw4⟩ : ∃ w4, w3.alloc (.cells #[.slice As l.length cs] 24) = w4 := ⟨_, rfl⟩
  have HG5 : Hid (Cs w4 w3.heap.size 24 #[.slice As l.length cs]) := Lib.hid (by rw [← hw4]; exact Cs.new _ _ _ _ rfl)
  have HX4 : Hid (Ext w3 w4) := Lib.hid (by rw [← hw4]; exact (Ext.refl _).alloc _)
  have HE4 := Lib.hid (HE3.out.trans HX4.out)
  have HG3 := Lib.hid (Cs.ext HG3.out HX4.out)
  have HA := Lib.hid (HA.out.ext HX4.out)
  rw [hw4]
  obtain ⟨g5, hg5⟩ : ∃ g5, w3.heap.size = g5 := ⟨_, rfl⟩
  rw [hg5] at HG5 ⊢
  clear hw4 hg5 HX4 HE3
  have q5 := HG5.out.cell 0 _ rfl
  go_wp2_with ((with_reducible refine wpList_load_op ?_ (.tmp 3) ?_ g3 o uo vo ?_ ?_ ?_); (exact rfl); (exact rfl); (exact rfl); (exact HG3.out))
  refine (runOp_any _ l o uo vo _ HA.out (by have := HL.out; omega) (fun q hq => by have := HS.out q hq; omega) HO.out (HU.out.ext HE4.out) (HV.out.ext HE4.out)).mono ?_
  rintro e w5 ⟨vn, rfl, hrn, he⟩
  have HE5 := Lib.hid (HE4.out.trans he)
  replace HG3 := Lib.hid (Cs.ext HG3.out he)
  replace HG5 := Lib.hid (Cs.ext HG5.out he)
  replace HA := Lib.hid (HA.out.ext he)
  have HRN := Lib.hid (fun m (h : runS l o = (m, 0)) => run_keeps HOK.out HO.out h)
  clear he q5 HE4
  obtain ⟨⟨m, er⟩, hm⟩ : ∃ r, runS l o = r := ⟨_, rfl⟩
  rw [hm] at hrn ⊢
  have HM := Lib.hid hm
  clear hm
  dsimp only at hrn ⊢
  obtain ⟨An, cn, rfl⟩ := hrn.shape
  have HB := Lib.hid hrn.acs
  clear hrn
  go_upto_region 5 with fail

  obtain ⟨w6, hw6⟩ : ∃ w6, w5.alloc (.cells #[.slice An m.length cn] 24) = w6 := ⟨_, rfl⟩
  have HG6 : Hid (Cs w6 w5.heap.size 24 #[.slice An m.length cn]) := Lib.hid (by rw [← hw6]; exact Cs.new _ _ _ _ rfl)
  have HX6 : Hid (Ext w5 w6) := Lib.hid (by rw [← hw6]; exact (Ext.refl _).alloc _)
  have HE6 := Lib.hid (HE5.out.trans HX6.out)
  replace HG3 := Lib.hid (Cs.ext HG3.out HX6.out)
  replace HG5 := Lib.hid (Cs.ext HG5.out HX6.out)
  replace HA := Lib.hid (HA.out.ext HX6.out)
  replace HB := Lib.hid (HB.out.ext HX6.out)
  rw [hw6]
  obtain ⟨g6, hg6⟩ : ∃ g6, w5.heap.size = g6 := ⟨_, rfl⟩
  rw [hg6] at HG6 ⊢
  clear hw6 hg6 HX6 HE5
  have q6 := HG6.out.cell 0 _ rfl
  by_cases he0 : er = 0
  · subst he0
    have HKP := Lib.hid (HRN.out m HM.out)
    have HBL := Lib.hid (HKP.out.rm.len)
    go_wp2_with fail
    refine (stateCheck_any _ m _ HB.out (by have := HBL.out; omega)).mono ?_
    rintro e w7 ⟨rfl, he⟩
    rw [show chkE m = 0 by unfold chkE; rw [if_pos ((rt_iff HKP.out.okm).2 HKP.out.rm)]]
    have HE7 := Lib.hid (HE6.out.trans he)
    replace HG3 := Lib.hid (Cs.ext HG3.out he)
    replace HG5 := Lib.hid (Cs.ext HG5.out he)
    replace HA := Lib.hid (HA.out.ext he)
    replace HB := Lib.hid (HB.out.ext he)
    replace HG6 := Lib.hid (Cs.ext HG6.out he)
    clear he q6 HE6
    have q0 : w7.cell? ⟨g3, 0, none⟩ = some (.int .i64 o.kind) := HG3.out.cell 0 _ rfl
    have hkk : (IntKind.u64.wrap o.kind).tmod 5 = kdI o := rfl
    have hmm := @run_makeMap Try.prog
    go_upto_block 0 with fail
    obtain ⟨w8, hw8⟩ : ∃ w8, w7.alloc (.map #[] 0) = w8 := ⟨_, rfl⟩
    have HT : Hid (TcM w8 w7.heap.size []) := Lib.hid (by rw [← hw8]; exact World.ownsMap_made _ _ _ _)
    have HX8 : Hid (Ext w7 w8) := Lib.hid (by rw [← hw8]; exact (Ext.refl _).alloc _)
    rw [hw8]
    have HGM := Lib.hid (Nat.le_refl w7.heap.size)
    obtain ⟨gm, hgm⟩ : ∃ gm, w7.heap.size = gm := ⟨_, rfl⟩
    rw [hgm] at HT ⊢
    have HGM : Hid (w7.heap.size ≤ gm) := Lib.hid (by rw [hgm]; exact Nat.le_refl _)
    have HKC := Lib.hid (kdI_cases o)
    have HOa := Lib.hid (show o.a < 18446744073709551616 from HO.out.2.1)
    have HOb := Lib.hid (show o.b < 18446744073709551616 from HO.out.2.2.1)
    have HOc := Lib.hid (show o.ac.addr < 18446744073709551616 from HO.out.2.2.2.2.2.2.1)
    clear hw8 hgm q0 hmm
    go_cut [9] from 45 to 61 (fun a9 wx => a9 = .map (some gm) ∧ ∃ T, Hid (TcM wx gm T ∧ ∀ b, b ∈ T ↔ tchB o b = true) ∧ Hid (Ext w7 wx))
    case first =>
      have qc : w8.cell? ⟨g3, 15, none⟩ = some (.int .u64 (o.ac.addr : Nat)) := (Cs.ext HG3.out HX8.out).cell 15 _ rfl
      have qa : w8.cell? ⟨g3, 1, none⟩ = some (.int .u64 (o.a : Nat)) := (Cs.ext HG3.out HX8.out).cell 1 _ rfl
      rcases HKC.out with hk | hk | hk | hk | hk
      · have HKO := Lib.hid (show ∀ b, b ∈ [o.ac.addr] ↔ tchB o b = true from fun b => by unfold tchB; rw [hk]; simp)
        have c0 : (kdI o == 0) = true := by rw [hk]; rfl
        have c2 : (kdI o == 2) = false := by rw [hk]; rfl
        clear hk
        go_wp2_with ((with_reducible refine wpList_touch ?_ (.tmp 50) (.tmp 53) (.const (.bool true)) ?_ gm [] (by simp) HT.out (o.ac.addr) HOc.out ?_ ?_ ?_ ?_); (exact rfl); (exact rfl); (exact rfl); (exact rfl); (exact rfl); intro wt kt gt; have KT := Lib.hid kt; have GT := Lib.hid gt; clear kt gt)
        go_meet
        exact ⟨rfl, [o.ac.addr], Lib.hid ⟨KT.out, HKO.out⟩, Lib.hid (HX8.out.grown GT.out HGM.out)⟩
      · have HKO := Lib.hid (show ∀ b, b ∈ [o.a] ↔ tchB o b = true from fun b => by unfold tchB; rw [hk]; simp)
        have c0 : (kdI o == 0) = false := by rw [hk]; rfl
        have c2 : (kdI o == 2) = false := by rw [hk]; rfl
        clear hk
        go_wp2_with ((with_reducible refine wpList_touch ?_ (.tmp 45) (.tmp 47) (.const (.bool true)) ?_ gm [] (by simp) HT.out (o.a) HOa.out ?_ ?_ ?_ ?_); (exact rfl); (exact rfl); (exact rfl); (exact rfl); (exact rfl); intro wt kt gt; have KT := Lib.hid kt; have GT := Lib.hid gt; clear kt gt)
        go_meet
        exact ⟨rfl, [o.a], Lib.hid ⟨KT.out, HKO.out⟩, Lib.hid (HX8.out.grown GT.out HGM.out)⟩
      · have HKO := Lib.hid (show ∀ b, b ∈ [o.b, o.a] ↔ tchB o b = true from fun b => by unfold tchB; rw [hk]; simp [or_comm])
        have c0 : (kdI o == 0) = false := by rw [hk]; rfl
        have c2 : (kdI o == 2) = true := by rw [hk]; rfl
        clear hk
        go_upto_region 16 with fail
        refine wp_named fun a0 ha0 => ?_
        obtain ⟨fr, hfr⟩ : ∃ fr : (Nat → Value) → Act, ∀ V, fr V = ((((((a0.put (some 56) (V 0)).put (some 57) (V 1)).put (some 58) (V 2)).put (some 59) (V 3)).put (some 60) (V 4)).put (some 61) (V 5)) := ⟨fun V => ((((((a0.put (some 56) (V 0)).put (some 57) (V 1)).put (some 58) (V 2)).put (some 59) (V 3)).put (some 60) (V 4)).put (some 61) (V 5)), fun _ => rfl⟩
        rw [ha0] at hfr
        simp only [Act.put, List.setIfInBounds_toArray, List.set_cons_zero, List.set_cons_succ] at hfr
        have HFR := Lib.hid hfr
        clear hfr
        refine wp_region_inv (by kernel_rfl) (by kernel_rfl) (fun L A W => ∃ V : Nat → Value, A = fr V ∧ Vals (fun j => ([some (.map (some gm)), some (.pointer (some ⟨g3, 1, none⟩)), some (.int .u64 (o.a : Nat)), some (.map (some gm)), some (.pointer (some ⟨g3, 2, none⟩)), some (.int .u64 (o.b : Nat)), none, none] : List (Option Value)).getD j none) L V ∧ (L 6 = false → TcM W gm [] ∧ Ext w7 W) ∧ (L 6 = true → L 7 = false → TcM W gm [o.a] ∧ Ext w7 W) ∧ (L 7 = true → TcM W gm [o.b, o.a] ∧ Ext w7 W)) ?_ ⟨?_, ?_, ?_, ?_, ?_, ?_, ?_, ?_, trivial⟩ ?_
        · refine ⟨fun j => a0.tmps.getD (([56, 57, 58, 59, 60, 61, 0, 0] : List Nat).getD j 0) undef, ?_, Vals.no _ _ _ (far_none _ _ rfl), fun _ => ⟨HT.out.ext ((Ext.refl _).drew), HX8.out.trans ((Ext.refl _).drew)⟩, fun h0 h1 => absurd h0 (by decide), fun h0 => absurd h0 (by decide)⟩
          rw [HFR.out, ha0]
          rfl
        all_goals clear ha0
        · rintro L A W K hL hC hW ⟨V, rfl, HV, s0, s1, s2⟩ hK
          have H := Lib.hid (show ∀ W', Ext W W' → K (fr (upd V 0 (.map (some gm)))) W' from fun W' he => hK _ _ ⟨upd V 0 (.map (some gm)), rfl, HV.up 0 _ (fun x hx => Option.some.inj hx), fun h0 => TcW.ext (s0 (by unfold More at h0; rwa [if_neg (by decide)] at h0)) he, fun h0 h1 => TcW.ext (s1 (more_ne h0 rfl) (by unfold More at h1; rwa [if_neg (by decide)] at h1)) he, fun h0 => TcW.ext (s2 (more_ne h0 rfl)) he⟩)
          clear hK hC hW hL HV s0 s1 s2
          rw [HFR.out]
          go_wp2_with fail
          show K _ _
          have := H.out _ (Ext.refl _)
          rw [HFR.out] at this
          exact this
        · rintro L A W K hL hC hW ⟨V, rfl, HV, s0, s1, s2⟩ hK
          have H := Lib.hid (show ∀ W', Ext W W' → K (fr (upd V 1 (.pointer (some ⟨g3, 1, none⟩)))) W' from fun W' he => hK _ _ ⟨upd V 1 (.pointer (some ⟨g3, 1, none⟩)), rfl, HV.up 1 _ (fun x hx => Option.some.inj hx), fun h0 => TcW.ext (s0 (by unfold More at h0; rwa [if_neg (by decide)] at h0)) he, fun h0 h1 => TcW.ext (s1 (more_ne h0 rfl) (by unfold More at h1; rwa [if_neg (by decide)] at h1)) he, fun h0 => TcW.ext (s2 (more_ne h0 rfl)) he⟩)
          clear hK hC hW hL HV s0 s1 s2
          rw [HFR.out]
          go_wp2_with fail
          show K _ _
          have := H.out _ (Ext.refl _)
          rw [HFR.out] at this
          exact this
        · rintro L A W K hL hC hW ⟨V, rfl, HV, s0, s1, s2⟩ hK
          have e1 : V 1 = .pointer (some ⟨g3, 1, none⟩) := HV 1 _ rfl (hW 1 rfl)
          have hB := s0 (hC.no hL 6 _ rfl rfl)
          have H := Lib.hid (show ∀ W', Ext W W' → K (fr (upd V 2 (.int .u64 (o.a : Nat)))) W' from fun W' he => hK _ _ ⟨upd V 2 (.int .u64 (o.a : Nat)), rfl, HV.up 2 _ (fun x hx => Option.some.inj hx), fun h0 => TcW.ext (s0 (by unfold More at h0; rwa [if_neg (by decide)] at h0)) he, fun h0 h1 => TcW.ext (s1 (more_ne h0 rfl) (by unfold More at h1; rwa [if_neg (by decide)] at h1)) he, fun h0 => TcW.ext (s2 (more_ne h0 rfl)) he⟩)
          have HU := Lib.hid (show (upd V 2 (.int .u64 (o.a : Nat))) 1 = .pointer (some ⟨g3, 1, none⟩) from e1)
          clear hK hC hW hL HV s0 s1 s2
          rw [HFR.out]
          rw [e1]
          clear e1
          have hcl := (Cs.ext HG3.out hB.2).cell 1 _ rfl
          clear hB
          go_wp2_with fail
          show K _ _
          have := H.out _ (Ext.refl _)
          rw [HFR.out] at this
          obtain u1 := HU.out
          rw [u1] at this
          exact this
        · rintro L A W K hL hC hW ⟨V, rfl, HV, s0, s1, s2⟩ hK
          have H := Lib.hid (show ∀ W', Ext W W' → K (fr (upd V 3 (.map (some gm)))) W' from fun W' he => hK _ _ ⟨upd V 3 (.map (some gm)), rfl, HV.up 3 _ (fun x hx => Option.some.inj hx), fun h0 => TcW.ext (s0 (by unfold More at h0; rwa [if_neg (by decide)] at h0)) he, fun h0 h1 => TcW.ext (s1 (more_ne h0 rfl) (by unfold More at h1; rwa [if_neg (by decide)] at h1)) he, fun h0 => TcW.ext (s2 (more_ne h0 rfl)) he⟩)
          clear hK hC hW hL HV s0 s1 s2
          rw [HFR.out]
          go_wp2_with fail
          show K _ _
          have := H.out _ (Ext.refl _)
          rw [HFR.out] at this
          exact this
        · rintro L A W K hL hC hW ⟨V, rfl, HV, s0, s1, s2⟩ hK
          have H := Lib.hid (show ∀ W', Ext W W' → K (fr (upd V 4 (.pointer (some ⟨g3, 2, none⟩)))) W' from fun W' he => hK _ _ ⟨upd V 4 (.pointer (some ⟨g3, 2, none⟩)), rfl, HV.up 4 _ (fun x hx => Option.some.inj hx), fun h0 => TcW.ext (s0 (by unfold More at h0; rwa [if_neg (by decide)] at h0)) he, fun h0 h1 => TcW.ext (s1 (more_ne h0 rfl) (by unfold More at h1; rwa [if_neg (by decide)] at h1)) he, fun h0 => TcW.ext (s2 (more_ne h0 rfl)) he⟩)
          clear hK hC hW hL HV s0 s1 s2
          rw [HFR.out]
          go_wp2_with fail
          show K _ _
          have := H.out _ (Ext.refl _)
          rw [HFR.out] at this
          exact this
        · rintro L A W K hL hC hW ⟨V, rfl, HV, s0, s1, s2⟩ hK
          have e4 : V 4 = .pointer (some ⟨g3, 2, none⟩) := HV 4 _ rfl (hW 4 rfl)
          have hB : Ext w7 W := by
            cases h6 : L 6 with
            | false => exact (s0 h6).2
            | true => exact (s1 h6 (hC.no hL 7 _ rfl rfl)).2
          have H := Lib.hid (show ∀ W', Ext W W' → K (fr (upd V 5 (.int .u64 (o.b : Nat)))) W' from fun W' he => hK _ _ ⟨upd V 5 (.int .u64 (o.b : Nat)), rfl, HV.up 5 _ (fun x hx => Option.some.inj hx), fun h0 => TcW.ext (s0 (by unfold More at h0; rwa [if_neg (by decide)] at h0)) he, fun h0 h1 => TcW.ext (s1 (more_ne h0 rfl) (by unfold More at h1; rwa [if_neg (by decide)] at h1)) he, fun h0 => TcW.ext (s2 (more_ne h0 rfl)) he⟩)
          have HU := Lib.hid (show (upd V 5 (.int .u64 (o.b : Nat))) 4 = .pointer (some ⟨g3, 2, none⟩) from e4)
          clear hK hC hW hL HV s0 s1 s2
          rw [HFR.out]
          rw [e4]
          clear e4
          have hcl := (Cs.ext HG3.out hB).cell 2 _ rfl
          clear hB
          go_wp2_with fail
          show K _ _
          have := H.out _ (Ext.refl _)
          rw [HFR.out] at this
          obtain u4 := HU.out
          rw [u4] at this
          exact this
        · rintro L A W K hL hC hW ⟨V, rfl, HV, s0, s1, s2⟩ hK
          have e0 : V 0 = .map (some gm) := HV 0 _ rfl (hW 0 rfl)
          have e2 : V 2 = .int .u64 (o.a : Nat) := HV 2 _ rfl (hW 2 rfl)
          have hB := s0 hL
          have H := Lib.hid (show ∀ W', (TcM W' gm [o.a] ∧ Ext w7 W') → K (fr (V)) W' from fun W' hA => hK _ _ ⟨V, rfl, HV.st 6 rfl, fun h0 => absurd h0 (by unfold More; rw [if_pos rfl]; simp), fun h0 h1 => hA, fun h0 => absurd (more_ne h0 rfl) (by rw [(hC.no hL 7 _ rfl rfl)]; simp)⟩)
          have HU := Lib.hid (show (V) 0 = .map (some gm) ∧ (V) 2 = .int .u64 (o.a : Nat) from ⟨e0, e2⟩)
          clear hK hC hW hL HV s0 s1 s2
          rw [HFR.out]
          rw [e0, e2]
          clear e0 e2
          have HB' := Lib.hid hB
          clear hB
          refine wpList_touch rfl (.tmp 56) (.tmp 58) (.const (.bool true)) rfl gm [] (by simp) HB'.out.1 (o.a) HOa.out rfl rfl rfl ?_
          intro w' kk gg
          have HA := Lib.hid (show TcM w' gm (o.a :: []) ∧ Ext w7 w' from ⟨kk, HB'.out.2.grown gg HGM.out⟩)
          clear kk gg
          show K _ _
          have := H.out _ HA.out
          rw [HFR.out] at this
          obtain ⟨u0, u2⟩ := HU.out
          rw [u0, u2] at this
          exact this
        · rintro L A W K hL hC hW ⟨V, rfl, HV, s0, s1, s2⟩ hK
          have e3 : V 3 = .map (some gm) := HV 3 _ rfl (hW 3 rfl)
          have e5 : V 5 = .int .u64 (o.b : Nat) := HV 5 _ rfl (hW 5 rfl)
          have hB := s1 (hW 6 rfl) hL
          have H := Lib.hid (show ∀ W', (TcM W' gm [o.b, o.a] ∧ Ext w7 W') → K (fr (V)) W' from fun W' hA => hK _ _ ⟨V, rfl, HV.st 7 rfl, fun h0 => absurd (show L 6 = false by unfold More at h0; rwa [if_neg (by decide)] at h0) (by rw [(hW 6 rfl)]; simp), fun h0 h1 => absurd h1 (by unfold More; rw [if_pos rfl]; simp), fun h0 => hA⟩)
          have HU := Lib.hid (show (V) 3 = .map (some gm) ∧ (V) 5 = .int .u64 (o.b : Nat) from ⟨e3, e5⟩)
          clear hK hC hW hL HV s0 s1 s2
          rw [HFR.out]
          rw [e3, e5]
          clear e3 e5
          have HB' := Lib.hid hB
          clear hB
          refine wpList_touch rfl (.tmp 59) (.tmp 61) (.const (.bool true)) rfl gm [o.a] (by simp) HB'.out.1 (o.b) HOb.out rfl rfl rfl ?_
          intro w' kk gg
          have HA := Lib.hid (show TcM w' gm (o.b :: [o.a]) ∧ Ext w7 w' from ⟨kk, HB'.out.2.grown gg HGM.out⟩)
          clear kk gg
          show K _ _
          have := H.out _ HA.out
          rw [HFR.out] at this
          obtain ⟨u3, u5⟩ := HU.out
          rw [u3, u5] at this
          exact this
        · rintro L A W hL ⟨V, rfl, HV, s0, s1, s2⟩
          have e0 : V 0 = .map (some gm) := HV 0 _ rfl (hL 0 (by simp))
          have e1 : V 1 = .pointer (some ⟨g3, 1, none⟩) := HV 1 _ rfl (hL 1 (by simp))
          have e2 : V 2 = .int .u64 (o.a : Nat) := HV 2 _ rfl (hL 2 (by simp))
          have e3 : V 3 = .map (some gm) := HV 3 _ rfl (hL 3 (by simp))
          have e4 : V 4 = .pointer (some ⟨g3, 2, none⟩) := HV 4 _ rfl (hL 4 (by simp))
          have e5 : V 5 = .int .u64 (o.b : Nat) := HV 5 _ rfl (hL 5 (by simp))
          have hA := s2 (hL 7 (by simp))
          rw [HFR.out]
          rw [e0, e1, e2, e3, e4, e5]
          clear hL HV HFR e0 e1 e2 e3 e4 e5 s0 s1 s2
          go_wp2_with fail
          go_meet
          exact ⟨rfl, [o.b, o.a], Lib.hid ⟨hA.1, HKO.out⟩, Lib.hid hA.2⟩
      · have HKO := Lib.hid (show ∀ b, b ∈ [o.a] ↔ tchB o b = true from fun b => by unfold tchB; rw [hk]; simp)
        have c0 : (kdI o == 0) = false := by rw [hk]; rfl
        have c2 : (kdI o == 2) = false := by rw [hk]; rfl
        clear hk
        go_wp2_with ((with_reducible refine wpList_touch ?_ (.tmp 45) (.tmp 47) (.const (.bool true)) ?_ gm [] (by simp) HT.out (o.a) HOa.out ?_ ?_ ?_ ?_); (exact rfl); (exact rfl); (exact rfl); (exact rfl); (exact rfl); intro wt kt gt; have KT := Lib.hid kt; have GT := Lib.hid gt; clear kt gt)
        go_meet
        exact ⟨rfl, [o.a], Lib.hid ⟨KT.out, HKO.out⟩, Lib.hid (HX8.out.grown GT.out HGM.out)⟩
      · have HKO := Lib.hid (show ∀ b, b ∈ [o.a] ↔ tchB o b = true from fun b => by unfold tchB; rw [hk]; simp)
        have c0 : (kdI o == 0) = false := by rw [hk]; rfl
        have c2 : (kdI o == 2) = false := by rw [hk]; rfl
        clear hk
        go_wp2_with ((with_reducible refine wpList_touch ?_ (.tmp 45) (.tmp 47) (.const (.bool true)) ?_ gm [] (by simp) HT.out (o.a) HOa.out ?_ ?_ ?_ ?_); (exact rfl); (exact rfl); (exact rfl); (exact rfl); (exact rfl); intro wt kt gt; have KT := Lib.hid kt; have GT := Lib.hid gt; clear kt gt)
        go_meet
        exact ⟨rfl, [o.a], Lib.hid ⟨KT.out, HKO.out⟩, Lib.hid (HX8.out.grown GT.out HGM.out)⟩
    case rest =>
      obtain ⟨rfl, T, HT0, HX9⟩ := hcut
      clear HT HX8 w8
      generalize hwc : wc = w9 at *
      clear hwc wc
      have HT := Lib.hid HT0.out.1
      have HTB := Lib.hid HT0.out.2
      clear HT0
      replace HG3 := Lib.hid (Cs.ext HG3.out HX9.out)
      replace HG5 := Lib.hid (Cs.ext HG5.out HX9.out)
      replace HA := Lib.hid (HA.out.ext HX9.out)
      replace HB := Lib.hid (HB.out.ext HX9.out)
      replace HG6 := Lib.hid (Cs.ext HG6.out HX9.out)
      have HE9 := Lib.hid (HE7.out.trans HX9.out)
      clear HX9 HE7
      have HRa := Lib.hid ((rt_iff HOK.out).2 HKP.out.rl)
      have HRb := Lib.hid ((rt_iff HKP.out.okm).2 HKP.out.rm)
      have HEQ := Lib.hid (show ∀ b, ¬ b ∈ T → ofA m b = ofA l b from fun b hb => by
        rw [ofA_right HRa.out, ofA_right HRb.out]
        exact HKP.out.others b (by
          cases h : tchB o b with
          | false => rfl
          | true => exact absurd ((HTB.out b).2 h) hb))
      have q5 := HG5.out.cell 0 _ rfl
      have q6 := HG6.out.cell 0 _ rfl
      go_wp2_with fail
      clear q5 q6
      go_loopw [65] (fun iv wr => ∃ i : Nat, i ≤ 2 ∧ iv = .int .i64 i ∧ Hid (Ext w9 wr)) (fun iv _ => 2 - (intOf iv).toNat)
      case atStart => exact ⟨0, by omega, rfl, Lib.hid (Ext.refl _)⟩
      case round =>
        obtain ⟨i, hi, rfl, HE⟩ := hrel
        obtain rfl | rfl | rfl : i = 0 ∨ i = 1 ∨ i = 2 := by omega
        · rw [show ((0 : Nat) : Int) = 0 from rfl]
          have ix0 := idxK0 As An l.length cs m.length cn
          go_wp2_with fail
          go_loopw [71] (fun jv wi => ∃ k : Nat, k ≤ l.length ∧ jv = .int .i64 k ∧ Hid (Ext w9 wi)) (fun jv _ => l.length - (intOf jv).toNat)
          case atStart => exact ⟨0, by omega, rfl, Lib.hid (HE.out.trans ((Ext.refl _).alloc _))⟩
          case round =>
            clear HE
            obtain ⟨k, hk, rfl, HE⟩ := hrel
            by_cases hlt : k < l.length
            · have hd : decide (k < l.length) = true := decide_eq_true hlt
              have h50 : l.length ≤ 50 := by have := HL.out; omega
              obtain ⟨b, oo, u, v, rfl, hrg, hu, hv, hok⟩ := (HA.out.ext HE.out).at k hlt
              have HR := Lib.hid hrg
              have HU2 := Lib.hid hu
              have HV2 := Lib.hid hv
              have HP2 := Lib.hid hok
              clear hrg hu hv hok
              obtain ⟨p, hp⟩ : ∃ p, l.getD k acz = p := ⟨_, rfl⟩
              rw [hp] at HR HU2 HV2 HP2
              clear hp
              go_upto_region 23 with (first
                | ((with_reducible refine wpList_load_ac ?_ (.tmp 73) ?_ b (oo + k * 8) p u v ?_ ?_ ?_); (exact rfl); (exact rfl); (exact rfl); (exact HR.out))
                | ((with_reducible refine wpList_store_ac ?_ ?_ (.tmp 13) (.tmp 74) ?_ wr.heap.size az0 p u v ?_ ?_ ?_ ?_ ?_ ?_ ?_); (exact rfl); (exact rfl); (exact rfl); (exact bs_one HU2.out); (exact pks_one HV2.out); (exact rfl); (exact rfl); (exact Cs.new _ _ _ _ rfl); (exact rfl); intro w4 k4 g4; have K4 := Lib.hid k4; have HX4 := Lib.hid (((Ext.refl wr).alloc _).grown g4 (Nat.le_refl _)); clear k4 g4))
              have HE4 := Lib.hid (HE.out.trans HX4.out)
              have HT4 := Lib.hid (HT.out.ext HE4.out)
              obtain ⟨B, hB'⟩ : ∃ B, wr.heap.size = B := ⟨_, rfl⟩
              rw [hB'] at K4 ⊢
              clear hB' HR HU2 HV2 HX4
              cases hT : decide (p.addr ∈ T) with
              | true =>
                have HTF := Lib.hid hT
                clear hT
                refine wp_named fun a0 ha0 => ?_
                obtain ⟨fr, hfr⟩ : ∃ fr : (Nat → Value) → Act, ∀ V, fr V = (((((((((((((((((a0.put (some 75) (V 0)).put (some 76) (V 1)).put (some 77) (V 2)).put (some 78) (V 3)).put (some 79) (V 4)).put (some 80) (V 5)).put (some 81) (V 6)).put (some 82) (V 7)).put (some 83) (V 8)).put (some 84) (V 9)).put (some 85) (V 10)).put (some 86) (V 11)).put (some 87) (V 12)).put (some 88) (V 13)).put (some 89) (V 14)).put (some 90) (V 15)).put (some 91) (V 16)) := ⟨fun V => (((((((((((((((((a0.put (some 75) (V 0)).put (some 76) (V 1)).put (some 77) (V 2)).put (some 78) (V 3)).put (some 79) (V 4)).put (some 80) (V 5)).put (some 81) (V 6)).put (some 82) (V 7)).put (some 83) (V 8)).put (some 84) (V 9)).put (some 85) (V 10)).put (some 86) (V 11)).put (some 87) (V 12)).put (some 88) (V 13)).put (some 89) (V 14)).put (some 90) (V 15)).put (some 91) (V 16)), fun _ => rfl⟩
                rw [ha0] at hfr
                simp only [Act.put, List.setIfInBounds_toArray, List.set_cons_zero, List.set_cons_succ] at hfr
                have HFR := Lib.hid hfr
                clear hfr
                refine wp_region_inv (by kernel_rfl) (by kernel_rfl) (fun L A W => ∃ V : Nat → Value, A = fr V ∧ Vals (fun j => ([some (.map (some gm)), some (.pointer (some ⟨B, 0, none⟩)), some (.int .u64 (p.addr : Nat)), some (.bool true), some (.bool false), some (.bool false), some (undef), some (undef), some (undef), some (undef), some (undef), some (undef), some (undef), some (undef), some (undef), some (undef), some (.bool false)] : List (Option Value)).getD j none) L V ∧ (Ext w4 W)) ?_ ⟨?_, ?_, ?_, ?_, ?_, ?_, ?_, ?_, ?_, ?_, ?_, ?_, ?_, ?_, ?_, ?_, ?_, trivial⟩ ?_
                · refine ⟨fun j => a0.tmps.getD (([75, 76, 77, 78, 79, 80, 81, 82, 83, 84, 85, 86, 87, 88, 89, 90, 91] : List Nat).getD j 0) undef, ?_, Vals.no _ _ _ (far_none _ _ rfl), (Ext.refl _).drew⟩
                  rw [HFR.out, ha0]
                  rfl
                all_goals clear ha0
                · rintro L A W K hL hC hW ⟨V, rfl, HV, s0⟩ hK
                  have H := Lib.hid (show ∀ W', Ext W W' → K (fr (upd V 0 (.map (some gm)))) W' from fun W' he => hK _ _ ⟨upd V 0 (.map (some gm)), rfl, HV.up 0 _ (fun x hx => Option.some.inj hx), Ext.trans s0 he⟩)
                  clear hK hC hW hL HV s0
                  rw [HFR.out]
                  go_wp2_with fail
                  show K _ _
                  have := H.out _ (Ext.refl _)
                  rw [HFR.out] at this
                  exact this
                · rintro L A W K hL hC hW ⟨V, rfl, HV, s0⟩ hK
                  have H := Lib.hid (show ∀ W', Ext W W' → K (fr (upd V 1 (.pointer (some ⟨B, 0, none⟩)))) W' from fun W' he => hK _ _ ⟨upd V 1 (.pointer (some ⟨B, 0, none⟩)), rfl, HV.up 1 _ (fun x hx => Option.some.inj hx), Ext.trans s0 he⟩)
                  clear hK hC hW hL HV s0
                  rw [HFR.out]
                  go_wp2_with fail
                  show K _ _
                  have := H.out _ (Ext.refl _)
                  rw [HFR.out] at this
                  exact this
                · rintro L A W K hL hC hW ⟨V, rfl, HV, s0⟩ hK
                  have e1 : V 1 = .pointer (some ⟨B, 0, none⟩) := HV 1 _ rfl (hW 1 rfl)
                  have hB := s0
                  have H := Lib.hid (show ∀ W', Ext W W' → K (fr (upd V 2 (.int .u64 (p.addr : Nat)))) W' from fun W' he => hK _ _ ⟨upd V 2 (.int .u64 (p.addr : Nat)), rfl, HV.up 2 _ (fun x hx => Option.some.inj hx), Ext.trans s0 he⟩)
                  have HU := Lib.hid (show (upd V 2 (.int .u64 (p.addr : Nat))) 1 = .pointer (some ⟨B, 0, none⟩) from e1)
                  clear hK hC hW hL HV s0
                  rw [HFR.out]
                  rw [e1]
                  clear e1
                  have hcl := (show Cs W B _ _ from K4.out.ext hB).cell 0 (.int .u64 (p.addr : Nat)) rfl
                  clear hB
                  go_wp2_with fail
                  show K _ _
                  have := H.out _ (Ext.refl _)
                  rw [HFR.out] at this
                  obtain u1 := HU.out
                  rw [u1] at this
                  exact this
                · rintro L A W K hL hC hW ⟨V, rfl, HV, s0⟩ hK
                  have e0 : V 0 = .map (some gm) := HV 0 _ rfl (hW 0 rfl)
                  have e2 : V 2 = .int .u64 (p.addr : Nat) := HV 2 _ rfl (hW 2 rfl)
                  have hB := s0
                  have H := Lib.hid (show ∀ W', Ext W W' → K (fr (upd V 3 (.bool true))) W' from fun W' he => hK _ _ ⟨upd V 3 (.bool true), rfl, HV.up 3 _ (fun x hx => Option.some.inj hx), Ext.trans s0 he⟩)
                  have HU := Lib.hid (show (upd V 3 (.bool true)) 0 = .map (some gm) ∧ (upd V 3 (.bool true)) 2 = .int .u64 (p.addr : Nat) from ⟨e0, e2⟩)
                  clear hK hC hW hL HV s0
                  rw [HFR.out]
                  rw [e0, e2]
                  clear e0 e2
                  have HTW := Lib.hid (HT4.out.ext hB)
                  clear hB
                  refine wpList_touched rfl (.tmp 75) (.tmp 77) rfl gm T HTW.out p.addr HP2.out.1 rfl rfl ?_
                  rw [HTF.out]
                  show K _ _
                  have := H.out _ (Ext.refl _)
                  rw [HFR.out] at this
                  obtain ⟨u0, u2⟩ := HU.out
                  rw [u0, u2] at this
                  exact this
                · rintro L A W K hL hC hW ⟨V, rfl, HV, s0⟩ hK
                  have e3 : V 3 = .bool true := HV 3 _ rfl (hW 3 rfl)
                  have H := Lib.hid (show ∀ W', Ext W W' → K (fr (upd V 4 (.bool false))) W' from fun W' he => hK _ _ ⟨upd V 4 (.bool false), rfl, HV.up 4 _ (fun x hx => Option.some.inj hx), Ext.trans s0 he⟩)
                  have HU := Lib.hid (show (upd V 4 (.bool false)) 3 = .bool true from e3)
                  clear hK hC hW hL HV s0
                  rw [HFR.out]
                  rw [e3]
                  clear e3
                  go_wp2_with fail
                  show K _ _
                  have := H.out _ (Ext.refl _)
                  rw [HFR.out] at this
                  obtain u3 := HU.out
                  rw [u3] at this
                  exact this
                · rintro L A W K hL hC hW ⟨V, rfl, HV, s0⟩ hK
                  have e4 : V 4 = .bool false := HV 4 _ rfl (hW 4 rfl)
                  have H := Lib.hid (show ∀ W', Ext W W' → K (fr (upd V 5 (.bool false))) W' from fun W' he => hK _ _ ⟨upd V 5 (.bool false), rfl, HV.up 5 _ (fun x hx => Option.some.inj hx), Ext.trans s0 he⟩)
                  have HU := Lib.hid (show (upd V 5 (.bool false)) 4 = .bool false from e4)
                  clear hK hC hW hL HV s0
                  rw [HFR.out]
                  rw [e4]
                  clear e4
                  go_wp2_with fail
                  show K _ _
                  have := H.out _ (Ext.refl _)
                  rw [HFR.out] at this
                  obtain u4 := HU.out
                  rw [u4] at this
                  exact this
                · rintro L A W K hL hC hW ⟨V, rfl, HV, s0⟩ hK
                  have e5 : V 5 = .bool false := HV 5 _ rfl (hW 5 rfl)
                  have H := Lib.hid (show ∀ W', Ext W W' → K (fr (upd V 6 (undef))) W' from fun W' he => hK _ _ ⟨upd V 6 (undef), rfl, HV.up 6 _ (fun x hx => Option.some.inj hx), Ext.trans s0 he⟩)
                  have HU := Lib.hid (show (upd V 6 (undef)) 5 = .bool false from e5)
                  clear hK hC hW hL HV s0
                  rw [HFR.out]
                  rw [e5]
                  clear e5
                  go_wp2_with fail
                  show K _ _
                  have := H.out _ (Ext.refl _)
                  rw [HFR.out] at this
                  obtain u5 := HU.out
                  rw [u5] at this
                  exact this
                · rintro L A W K hL hC hW ⟨V, rfl, HV, s0⟩ hK
                  have e5 : V 5 = .bool false := HV 5 _ rfl (hW 5 rfl)
                  have H := Lib.hid (show ∀ W', Ext W W' → K (fr (upd V 7 (undef))) W' from fun W' he => hK _ _ ⟨upd V 7 (undef), rfl, HV.up 7 _ (fun x hx => Option.some.inj hx), Ext.trans s0 he⟩)
                  have HU := Lib.hid (show (upd V 7 (undef)) 5 = .bool false from e5)
                  clear hK hC hW hL HV s0
                  rw [HFR.out]
                  rw [e5]
                  clear e5
                  go_wp2_with fail
                  show K _ _
                  have := H.out _ (Ext.refl _)
                  rw [HFR.out] at this
                  obtain u5 := HU.out
                  rw [u5] at this
                  exact this
                · rintro L A W K hL hC hW ⟨V, rfl, HV, s0⟩ hK
                  have e5 : V 5 = .bool false := HV 5 _ rfl (hW 5 rfl)
                  have e7 : V 7 = undef := HV 7 _ rfl (hW 7 rfl)
                  have H := Lib.hid (show ∀ W', Ext W W' → K (fr (upd V 8 (undef))) W' from fun W' he => hK _ _ ⟨upd V 8 (undef), rfl, HV.up 8 _ (fun x hx => Option.some.inj hx), Ext.trans s0 he⟩)
                  have HU := Lib.hid (show (upd V 8 (undef)) 5 = .bool false ∧ (upd V 8 (undef)) 7 = undef from ⟨e5, e7⟩)
                  clear hK hC hW hL HV s0
                  rw [HFR.out]
                  rw [e5, e7]
                  clear e5 e7
                  go_wp2_with fail
                  show K _ _
                  have := H.out _ (Ext.refl _)
                  rw [HFR.out] at this
                  obtain ⟨u5, u7⟩ := HU.out
                  rw [u5, u7] at this
                  exact this
                · rintro L A W K hL hC hW ⟨V, rfl, HV, s0⟩ hK
                  have e5 : V 5 = .bool false := HV 5 _ rfl (hW 5 rfl)
                  have e6 : V 6 = undef := HV 6 _ rfl (hW 6 rfl)
                  have e8 : V 8 = undef := HV 8 _ rfl (hW 8 rfl)
                  have H := Lib.hid (show ∀ W', Ext W W' → K (fr (upd V 9 (undef))) W' from fun W' he => hK _ _ ⟨upd V 9 (undef), rfl, HV.up 9 _ (fun x hx => Option.some.inj hx), Ext.trans s0 he⟩)
                  have HU := Lib.hid (show (upd V 9 (undef)) 5 = .bool false ∧ (upd V 9 (undef)) 6 = undef ∧ (upd V 9 (undef)) 8 = undef from ⟨e5, e6, e8⟩)
                  clear hK hC hW hL HV s0
                  rw [HFR.out]
                  rw [e5, e6, e8]
                  clear e5 e6 e8
                  go_wp2_with fail
                  show K _ _
                  have := H.out _ (Ext.refl _)
                  rw [HFR.out] at this
                  obtain ⟨u5, u6, u8⟩ := HU.out
                  rw [u5, u6, u8] at this
                  exact this
                · rintro L A W K hL hC hW ⟨V, rfl, HV, s0⟩ hK
                  have e5 : V 5 = .bool false := HV 5 _ rfl (hW 5 rfl)
                  have H := Lib.hid (show ∀ W', Ext W W' → K (fr (upd V 10 (undef))) W' from fun W' he => hK _ _ ⟨upd V 10 (undef), rfl, HV.up 10 _ (fun x hx => Option.some.inj hx), Ext.trans s0 he⟩)
                  have HU := Lib.hid (show (upd V 10 (undef)) 5 = .bool false from e5)
                  clear hK hC hW hL HV s0
                  rw [HFR.out]
                  rw [e5]
                  clear e5
                  go_wp2_with fail
                  show K _ _
                  have := H.out _ (Ext.refl _)
                  rw [HFR.out] at this
                  obtain u5 := HU.out
                  rw [u5] at this
                  exact this
                · rintro L A W K hL hC hW ⟨V, rfl, HV, s0⟩ hK
                  have e5 : V 5 = .bool false := HV 5 _ rfl (hW 5 rfl)
                  have H := Lib.hid (show ∀ W', Ext W W' → K (fr (upd V 11 (undef))) W' from fun W' he => hK _ _ ⟨upd V 11 (undef), rfl, HV.up 11 _ (fun x hx => Option.some.inj hx), Ext.trans s0 he⟩)
                  have HU := Lib.hid (show (upd V 11 (undef)) 5 = .bool false from e5)
                  clear hK hC hW hL HV s0
                  rw [HFR.out]
                  rw [e5]
                  clear e5
                  go_wp2_with fail
                  show K _ _
                  have := H.out _ (Ext.refl _)
                  rw [HFR.out] at this
                  obtain u5 := HU.out
                  rw [u5] at this
                  exact this
                · rintro L A W K hL hC hW ⟨V, rfl, HV, s0⟩ hK
                  have e5 : V 5 = .bool false := HV 5 _ rfl (hW 5 rfl)
                  have e11 : V 11 = undef := HV 11 _ rfl (hW 11 rfl)
                  have H := Lib.hid (show ∀ W', Ext W W' → K (fr (upd V 12 (undef))) W' from fun W' he => hK _ _ ⟨upd V 12 (undef), rfl, HV.up 12 _ (fun x hx => Option.some.inj hx), Ext.trans s0 he⟩)
                  have HU := Lib.hid (show (upd V 12 (undef)) 5 = .bool false ∧ (upd V 12 (undef)) 11 = undef from ⟨e5, e11⟩)
                  clear hK hC hW hL HV s0
                  rw [HFR.out]
                  rw [e5, e11]
                  clear e5 e11
                  go_wp2_with fail
                  show K _ _
                  have := H.out _ (Ext.refl _)
                  rw [HFR.out] at this
                  obtain ⟨u5, u11⟩ := HU.out
                  rw [u5, u11] at this
                  exact this
                · rintro L A W K hL hC hW ⟨V, rfl, HV, s0⟩ hK
                  have e5 : V 5 = .bool false := HV 5 _ rfl (hW 5 rfl)
                  have e10 : V 10 = undef := HV 10 _ rfl (hW 10 rfl)
                  have e12 : V 12 = undef := HV 12 _ rfl (hW 12 rfl)
                  have H := Lib.hid (show ∀ W', Ext W W' → K (fr (upd V 13 (undef))) W' from fun W' he => hK _ _ ⟨upd V 13 (undef), rfl, HV.up 13 _ (fun x hx => Option.some.inj hx), Ext.trans s0 he⟩)
                  have HU := Lib.hid (show (upd V 13 (undef)) 5 = .bool false ∧ (upd V 13 (undef)) 10 = undef ∧ (upd V 13 (undef)) 12 = undef from ⟨e5, e10, e12⟩)
                  clear hK hC hW hL HV s0
                  rw [HFR.out]
                  rw [e5, e10, e12]
                  clear e5 e10 e12
                  go_wp2_with fail
                  show K _ _
                  have := H.out _ (Ext.refl _)
                  rw [HFR.out] at this
                  obtain ⟨u5, u10, u12⟩ := HU.out
                  rw [u5, u10, u12] at this
                  exact this
                · rintro L A W K hL hC hW ⟨V, rfl, HV, s0⟩ hK
                  have e5 : V 5 = .bool false := HV 5 _ rfl (hW 5 rfl)
                  have e9 : V 9 = undef := HV 9 _ rfl (hW 9 rfl)
                  have e13 : V 13 = undef := HV 13 _ rfl (hW 13 rfl)
                  have H := Lib.hid (show ∀ W', Ext W W' → K (fr (upd V 14 (undef))) W' from fun W' he => hK _ _ ⟨upd V 14 (undef), rfl, HV.up 14 _ (fun x hx => Option.some.inj hx), Ext.trans s0 he⟩)
                  have HU := Lib.hid (show (upd V 14 (undef)) 5 = .bool false ∧ (upd V 14 (undef)) 9 = undef ∧ (upd V 14 (undef)) 13 = undef from ⟨e5, e9, e13⟩)
                  clear hK hC hW hL HV s0
                  rw [HFR.out]
                  rw [e5, e9, e13]
                  clear e5 e9 e13
                  go_wp2_with fail
                  show K _ _
                  have := H.out _ (Ext.refl _)
                  rw [HFR.out] at this
                  obtain ⟨u5, u9, u13⟩ := HU.out
                  rw [u5, u9, u13] at this
                  exact this
                · rintro L A W K hL hC hW ⟨V, rfl, HV, s0⟩ hK
                  have e5 : V 5 = .bool false := HV 5 _ rfl (hW 5 rfl)
                  have e14 : V 14 = undef := HV 14 _ rfl (hW 14 rfl)
                  have H := Lib.hid (show ∀ W', Ext W W' → K (fr (upd V 15 (undef))) W' from fun W' he => hK _ _ ⟨upd V 15 (undef), rfl, HV.up 15 _ (fun x hx => Option.some.inj hx), Ext.trans s0 he⟩)
                  have HU := Lib.hid (show (upd V 15 (undef)) 5 = .bool false ∧ (upd V 15 (undef)) 14 = undef from ⟨e5, e14⟩)
                  clear hK hC hW hL HV s0
                  rw [HFR.out]
                  rw [e5, e14]
                  clear e5 e14
                  go_wp2_with fail
                  show K _ _
                  have := H.out _ (Ext.refl _)
                  rw [HFR.out] at this
                  obtain ⟨u5, u14⟩ := HU.out
                  rw [u5, u14] at this
                  exact this
                · rintro L A W K hL hC hW ⟨V, rfl, HV, s0⟩ hK
                  have e5 : V 5 = .bool false := HV 5 _ rfl (hW 5 rfl)
                  have e15 : V 15 = undef := HV 15 _ rfl (hW 15 rfl)
                  have H := Lib.hid (show ∀ W', Ext W W' → K (fr (upd V 16 (.bool false))) W' from fun W' he => hK _ _ ⟨upd V 16 (.bool false), rfl, HV.up 16 _ (fun x hx => Option.some.inj hx), Ext.trans s0 he⟩)
                  have HU := Lib.hid (show (upd V 16 (.bool false)) 5 = .bool false ∧ (upd V 16 (.bool false)) 15 = undef from ⟨e5, e15⟩)
                  clear hK hC hW hL HV s0
                  rw [HFR.out]
                  rw [e5, e15]
                  clear e5 e15
                  go_wp2_with fail
                  show K _ _
                  have := H.out _ (Ext.refl _)
                  rw [HFR.out] at this
                  obtain ⟨u5, u15⟩ := HU.out
                  rw [u5, u15] at this
                  exact this
                · rintro L A W hL ⟨V, rfl, HV, s0⟩
                  have e0 : V 0 = .map (some gm) := HV 0 _ rfl (hL 0 (by simp))
                  have e1 : V 1 = .pointer (some ⟨B, 0, none⟩) := HV 1 _ rfl (hL 1 (by simp))
                  have e2 : V 2 = .int .u64 (p.addr : Nat) := HV 2 _ rfl (hL 2 (by simp))
                  have e3 : V 3 = .bool true := HV 3 _ rfl (hL 3 (by simp))
                  have e4 : V 4 = .bool false := HV 4 _ rfl (hL 4 (by simp))
                  have e5 : V 5 = .bool false := HV 5 _ rfl (hL 5 (by simp))
                  have e6 : V 6 = undef := HV 6 _ rfl (hL 6 (by simp))
                  have e7 : V 7 = undef := HV 7 _ rfl (hL 7 (by simp))
                  have e8 : V 8 = undef := HV 8 _ rfl (hL 8 (by simp))
                  have e9 : V 9 = undef := HV 9 _ rfl (hL 9 (by simp))
                  have e10 : V 10 = undef := HV 10 _ rfl (hL 10 (by simp))
                  have e11 : V 11 = undef := HV 11 _ rfl (hL 11 (by simp))
                  have e12 : V 12 = undef := HV 12 _ rfl (hL 12 (by simp))
                  have e13 : V 13 = undef := HV 13 _ rfl (hL 13 (by simp))
                  have e14 : V 14 = undef := HV 14 _ rfl (hL 14 (by simp))
                  have e15 : V 15 = undef := HV 15 _ rfl (hL 15 (by simp))
                  have e16 : V 16 = .bool false := HV 16 _ rfl (hL 16 (by simp))
                  have hA := s0
                  rw [HFR.out]
                  rw [e0, e1, e2, e3, e4, e5, e6, e7, e8, e9, e10, e11, e12, e13, e14, e15, e16]
                  clear hL HV HFR e0 e1 e2 e3 e4 e5 e6 e7 e8 e9 e10 e11 e12 e13 e14 e15 e16 s0
                  have HA4 := Lib.hid hA
                  clear hA
                  go_wp2_with fail
                  exact ⟨⟨k + 1, by omega, by go_num, Lib.hid (HE4.out.trans HA4.out)⟩, by simp [intOf]; omega⟩
              | false =>
                have HTF := Lib.hid hT
                have HQE := Lib.hid (HEQ.out p.addr (of_decide_eq_false hT))
                clear hT
                have HOA := Lib.hid (fun W (h : Ext w4 W) => stateOf_any _ l p.addr W (HA.out.ext (HE4.out.trans h)) HP2.out.1 (by have := HL.out; omega))
                have HOB := Lib.hid (fun W (h : Ext w4 W) => by
                  have := stateOf_any _ m p.addr W (HB.out.ext (HE4.out.trans h)) HP2.out.1 (by have := HBL.out; omega)
                  rw [HQE.out] at this
                  exact this)
                have HQK := Lib.hid (show (ofA l p.addr).ok by rw [ofA_right HRa.out]; exact accF_ok HA.out _ HP2.out.1)
                clear HQE
                generalize ofA l p.addr = q at *
                have HSM := Lib.hid (fun W u v u' v' (hu : Bs W u q.code) (hv : Pks W v q.store) (hu' : Bs W u' q.code) (hv' : Pks W v' q.store) => show Calls Try.prog 15 #[.agg (acc q u v), .agg (acc q u' v')] W (fun e w' => e = .returned (.bool true) ∧ Ext W w') by
                  have := lawSame_any q q u v u' v' W HQK.out HQK.out hu hv hu' hv'
                  rw [(Ac.eqB_iff q q).2 rfl] at this
                  exact this)
                refine wp_named fun a0 ha0 => ?_
                obtain ⟨fr, hfr⟩ : ∃ fr : (Nat → Value) → Act, ∀ V, fr V = (((((((((((((((((a0.put (some 75) (V 0)).put (some 76) (V 1)).put (some 77) (V 2)).put (some 78) (V 3)).put (some 79) (V 4)).put (some 80) (V 5)).put (some 81) (V 6)).put (some 82) (V 7)).put (some 83) (V 8)).put (some 84) (V 9)).put (some 85) (V 10)).put (some 86) (V 11)).put (some 87) (V 12)).put (some 88) (V 13)).put (some 89) (V 14)).put (some 90) (V 15)).put (some 91) (V 16)) := ⟨fun V => (((((((((((((((((a0.put (some 75) (V 0)).put (some 76) (V 1)).put (some 77) (V 2)).put (some 78) (V 3)).put (some 79) (V 4)).put (some 80) (V 5)).put (some 81) (V 6)).put (some 82) (V 7)).put (some 83) (V 8)).put (some 84) (V 9)).put (some 85) (V 10)).put (some 86) (V 11)).put (some 87) (V 12)).put (some 88) (V 13)).put (some 89) (V 14)).put (some 90) (V 15)).put (some 91) (V 16)), fun _ => rfl⟩
                rw [ha0] at hfr
                simp only [Act.put, List.setIfInBounds_toArray, List.set_cons_zero, List.set_cons_succ] at hfr
                have HFR := Lib.hid hfr
                clear hfr
                refine wp_region_inv (by kernel_rfl) (by kernel_rfl) (fun L A W => ∃ V : Nat → Value, A = fr V ∧ Vals (fun j => ([some (.map (some gm)), some (.pointer (some ⟨B, 0, none⟩)), some (.int .u64 (p.addr : Nat)), some (.bool false), some (.bool true), some (.bool true), some (.agg #[.slice (some ⟨b, oo, none⟩) l.length cs]), some (.pointer (some ⟨B, 0, none⟩)), some (.int .u64 (p.addr : Nat)), none, some (.agg #[.slice An m.length cn]), some (.pointer (some ⟨B, 0, none⟩)), some (.int .u64 (p.addr : Nat)), none, some (.bool true), some (.bool false), some (.bool false)] : List (Option Value)).getD j none) L V ∧ (Ext w4 W) ∧ (L 9 = true → OfK W q (V 9)) ∧ (L 13 = true → OfK W q (V 13))) ?_ ⟨?_, ?_, ?_, ?_, ?_, ?_, ?_, ?_, ?_, ?_, ?_, ?_, ?_, ?_, ?_, ?_, ?_, trivial⟩ ?_
                · refine ⟨fun j => a0.tmps.getD (([75, 76, 77, 78, 79, 80, 81, 82, 83, 84, 85, 86, 87, 88, 89, 90, 91] : List Nat).getD j 0) undef, ?_, Vals.no _ _ _ (far_none _ _ rfl), (Ext.refl _).drew, fun h0 => absurd h0 (by decide), fun h0 => absurd h0 (by decide)⟩
                  rw [HFR.out, ha0]
                  rfl
                all_goals clear ha0
                · rintro L A W K hL hC hW ⟨V, rfl, HV, s0, f9, f13⟩ hK
                  have H := Lib.hid (show ∀ W', Ext W W' → K (fr (upd V 0 (.map (some gm)))) W' from fun W' he => hK _ _ ⟨upd V 0 (.map (some gm)), rfl, HV.up 0 _ (fun x hx => Option.some.inj hx), Ext.trans s0 he, fun h0 => OfK.ext (f9 (more_ne h0 rfl)) he, fun h0 => OfK.ext (f13 (more_ne h0 rfl)) he⟩)
                  clear hK hC hW hL HV s0 f9 f13
                  rw [HFR.out]
                  go_wp2_with fail
                  show K _ _
                  have := H.out _ (Ext.refl _)
                  rw [HFR.out] at this
                  exact this
                · rintro L A W K hL hC hW ⟨V, rfl, HV, s0, f9, f13⟩ hK
                  have H := Lib.hid (show ∀ W', Ext W W' → K (fr (upd V 1 (.pointer (some ⟨B, 0, none⟩)))) W' from fun W' he => hK _ _ ⟨upd V 1 (.pointer (some ⟨B, 0, none⟩)), rfl, HV.up 1 _ (fun x hx => Option.some.inj hx), Ext.trans s0 he, fun h0 => OfK.ext (f9 (more_ne h0 rfl)) he, fun h0 => absurd (more_ne h0 rfl) (by rw [(hC.no (hC.no (hC.no (hC.no (hC.no hL 2 _ rfl rfl) 3 _ rfl rfl) 4 _ rfl rfl) 5 _ rfl rfl) 13 _ rfl rfl)]; simp)⟩)
                  clear hK hC hW hL HV s0 f9 f13
                  rw [HFR.out]
                  go_wp2_with fail
                  show K _ _
                  have := H.out _ (Ext.refl _)
                  rw [HFR.out] at this
                  exact this
                · rintro L A W K hL hC hW ⟨V, rfl, HV, s0, f9, f13⟩ hK
                  have e1 : V 1 = .pointer (some ⟨B, 0, none⟩) := HV 1 _ rfl (hW 1 rfl)
                  have hB := s0
                  have H := Lib.hid (show ∀ W', Ext W W' → K (fr (upd V 2 (.int .u64 (p.addr : Nat)))) W' from fun W' he => hK _ _ ⟨upd V 2 (.int .u64 (p.addr : Nat)), rfl, HV.up 2 _ (fun x hx => Option.some.inj hx), Ext.trans s0 he, fun h0 => OfK.ext (f9 (more_ne h0 rfl)) he, fun h0 => OfK.ext (f13 (more_ne h0 rfl)) he⟩)
                  have HU := Lib.hid (show (upd V 2 (.int .u64 (p.addr : Nat))) 1 = .pointer (some ⟨B, 0, none⟩) from e1)
                  clear hK hC hW hL HV s0 f9 f13
                  rw [HFR.out]
                  rw [e1]
                  clear e1
                  have hcl := (show Cs W B _ _ from K4.out.ext hB).cell 0 (.int .u64 (p.addr : Nat)) rfl
                  clear hB
                  go_wp2_with fail
                  show K _ _
                  have := H.out _ (Ext.refl _)
                  rw [HFR.out] at this
                  obtain u1 := HU.out
                  rw [u1] at this
                  exact this
                · rintro L A W K hL hC hW ⟨V, rfl, HV, s0, f9, f13⟩ hK
                  have e0 : V 0 = .map (some gm) := HV 0 _ rfl (hW 0 rfl)
                  have e2 : V 2 = .int .u64 (p.addr : Nat) := HV 2 _ rfl (hW 2 rfl)
                  have hB := s0
                  have H := Lib.hid (show ∀ W', Ext W W' → K (fr (upd V 3 (.bool false))) W' from fun W' he => hK _ _ ⟨upd V 3 (.bool false), rfl, HV.up 3 _ (fun x hx => Option.some.inj hx), Ext.trans s0 he, fun h0 => OfK.ext (f9 (more_ne h0 rfl)) he, fun h0 => OfK.ext (f13 (more_ne h0 rfl)) he⟩)
                  have HU := Lib.hid (show (upd V 3 (.bool false)) 0 = .map (some gm) ∧ (upd V 3 (.bool false)) 2 = .int .u64 (p.addr : Nat) from ⟨e0, e2⟩)
                  clear hK hC hW hL HV s0 f9 f13
                  rw [HFR.out]
                  rw [e0, e2]
                  clear e0 e2
                  have HTW := Lib.hid (HT4.out.ext hB)
                  clear hB
                  refine wpList_touched rfl (.tmp 75) (.tmp 77) rfl gm T HTW.out p.addr HP2.out.1 rfl rfl ?_
                  rw [HTF.out]
                  show K _ _
                  have := H.out _ (Ext.refl _)
                  rw [HFR.out] at this
                  obtain ⟨u0, u2⟩ := HU.out
                  rw [u0, u2] at this
                  exact this
                · rintro L A W K hL hC hW ⟨V, rfl, HV, s0, f9, f13⟩ hK
                  have e3 : V 3 = .bool false := HV 3 _ rfl (hW 3 rfl)
                  have H := Lib.hid (show ∀ W', Ext W W' → K (fr (upd V 4 (.bool true))) W' from fun W' he => hK _ _ ⟨upd V 4 (.bool true), rfl, HV.up 4 _ (fun x hx => Option.some.inj hx), Ext.trans s0 he, fun h0 => OfK.ext (f9 (more_ne h0 rfl)) he, fun h0 => OfK.ext (f13 (more_ne h0 rfl)) he⟩)
                  have HU := Lib.hid (show (upd V 4 (.bool true)) 3 = .bool false from e3)
                  clear hK hC hW hL HV s0 f9 f13
                  rw [HFR.out]
                  rw [e3]
                  clear e3
                  go_wp2_with fail
                  show K _ _
                  have := H.out _ (Ext.refl _)
                  rw [HFR.out] at this
                  obtain u3 := HU.out
                  rw [u3] at this
                  exact this
                · rintro L A W K hL hC hW ⟨V, rfl, HV, s0, f9, f13⟩ hK
                  have e4 : V 4 = .bool true := HV 4 _ rfl (hW 4 rfl)
                  have H := Lib.hid (show ∀ W', Ext W W' → K (fr (upd V 5 (.bool true))) W' from fun W' he => hK _ _ ⟨upd V 5 (.bool true), rfl, HV.up 5 _ (fun x hx => Option.some.inj hx), Ext.trans s0 he, fun h0 => OfK.ext (f9 (more_ne h0 rfl)) he, fun h0 => OfK.ext (f13 (more_ne h0 rfl)) he⟩)
                  have HU := Lib.hid (show (upd V 5 (.bool true)) 4 = .bool true from e4)
                  clear hK hC hW hL HV s0 f9 f13
                  rw [HFR.out]
                  rw [e4]
                  clear e4
                  go_wp2_with fail
                  show K _ _
                  have := H.out _ (Ext.refl _)
                  rw [HFR.out] at this
                  obtain u4 := HU.out
                  rw [u4] at this
                  exact this
                · rintro L A W K hL hC hW ⟨V, rfl, HV, s0, f9, f13⟩ hK
                  have e5 : V 5 = .bool true := HV 5 _ rfl (hW 5 rfl)
                  have hB := s0
                  have H := Lib.hid (show ∀ W', Ext W W' → K (fr (upd V 6 (.agg #[.slice (some ⟨b, oo, none⟩) l.length cs]))) W' from fun W' he => hK _ _ ⟨upd V 6 (.agg #[.slice (some ⟨b, oo, none⟩) l.length cs]), rfl, HV.up 6 _ (fun x hx => Option.some.inj hx), Ext.trans s0 he, fun h0 => OfK.ext (f9 (more_ne h0 rfl)) he, fun h0 => OfK.ext (f13 (more_ne h0 rfl)) he⟩)
                  have HU := Lib.hid (show (upd V 6 (.agg #[.slice (some ⟨b, oo, none⟩) l.length cs])) 5 = .bool true from e5)
                  clear hK hC hW hL HV s0 f9 f13
                  rw [HFR.out]
                  rw [e5]
                  clear e5
                  have hcl := (Cs.ext HG5.out (HE4.out.trans hB)).cell 0 _ rfl
                  clear hB
                  go_wp2_with fail
                  show K _ _
                  have := H.out _ (Ext.refl _)
                  rw [HFR.out] at this
                  obtain u5 := HU.out
                  rw [u5] at this
                  exact this
                · rintro L A W K hL hC hW ⟨V, rfl, HV, s0, f9, f13⟩ hK
                  have e5 : V 5 = .bool true := HV 5 _ rfl (hW 5 rfl)
                  have H := Lib.hid (show ∀ W', Ext W W' → K (fr (upd V 7 (.pointer (some ⟨B, 0, none⟩)))) W' from fun W' he => hK _ _ ⟨upd V 7 (.pointer (some ⟨B, 0, none⟩)), rfl, HV.up 7 _ (fun x hx => Option.some.inj hx), Ext.trans s0 he, fun h0 => OfK.ext (f9 (more_ne h0 rfl)) he, fun h0 => OfK.ext (f13 (more_ne h0 rfl)) he⟩)
                  have HU := Lib.hid (show (upd V 7 (.pointer (some ⟨B, 0, none⟩))) 5 = .bool true from e5)
                  clear hK hC hW hL HV s0 f9 f13
                  rw [HFR.out]
                  rw [e5]
                  clear e5
                  go_wp2_with fail
                  show K _ _
                  have := H.out _ (Ext.refl _)
                  rw [HFR.out] at this
                  obtain u5 := HU.out
                  rw [u5] at this
                  exact this
                · rintro L A W K hL hC hW ⟨V, rfl, HV, s0, f9, f13⟩ hK
                  have e5 : V 5 = .bool true := HV 5 _ rfl (hW 5 rfl)
                  have e7 : V 7 = .pointer (some ⟨B, 0, none⟩) := HV 7 _ rfl (hW 7 rfl)
                  have hB := s0
                  have H := Lib.hid (show ∀ W', Ext W W' → K (fr (upd V 8 (.int .u64 (p.addr : Nat)))) W' from fun W' he => hK _ _ ⟨upd V 8 (.int .u64 (p.addr : Nat)), rfl, HV.up 8 _ (fun x hx => Option.some.inj hx), Ext.trans s0 he, fun h0 => OfK.ext (f9 (more_ne h0 rfl)) he, fun h0 => OfK.ext (f13 (more_ne h0 rfl)) he⟩)
                  have HU := Lib.hid (show (upd V 8 (.int .u64 (p.addr : Nat))) 5 = .bool true ∧ (upd V 8 (.int .u64 (p.addr : Nat))) 7 = .pointer (some ⟨B, 0, none⟩) from ⟨e5, e7⟩)
                  clear hK hC hW hL HV s0 f9 f13
                  rw [HFR.out]
                  rw [e5, e7]
                  clear e5 e7
                  have hcl := (show Cs W B _ _ from K4.out.ext hB).cell 0 (.int .u64 (p.addr : Nat)) rfl
                  clear hB
                  go_wp2_with fail
                  show K _ _
                  have := H.out _ (Ext.refl _)
                  rw [HFR.out] at this
                  obtain ⟨u5, u7⟩ := HU.out
                  rw [u5, u7] at this
                  exact this
                · rintro L A W K hL hC hW ⟨V, rfl, HV, s0, f9, f13⟩ hK
                  have e5 : V 5 = .bool true := HV 5 _ rfl (hW 5 rfl)
                  have e6 : V 6 = .agg #[.slice (some ⟨b, oo, none⟩) l.length cs] := HV 6 _ rfl (hW 6 rfl)
                  have e8 : V 8 = .int .u64 (p.addr : Nat) := HV 8 _ rfl (hW 8 rfl)
                  have hB := s0
                  have H := Lib.hid (show ∀ v W', Ext W W' → (OfK W' q v) → K (fr (upd V 9 v)) W' from fun v W' he hp => hK _ _ ⟨upd V 9 v, rfl, HV.up 9 _ (fun x hx => absurd hx (by intro h; cases h)), Ext.trans s0 he, fun h0 => hp, fun h0 => OfK.ext (f13 (more_ne h0 rfl)) he⟩)
                  have HU := Lib.hid (show ∀ v, (upd V 9 v) 5 = .bool true ∧ (upd V 9 v) 6 = .agg #[.slice (some ⟨b, oo, none⟩) l.length cs] ∧ (upd V 9 v) 8 = .int .u64 (p.addr : Nat) from fun v => ⟨e5, e6, e8⟩)
                  clear hK hC hW hL HV s0 f9 f13
                  rw [HFR.out]
                  rw [e5, e6, e8]
                  clear e5 e6 e8
                  have HB' := Lib.hid hB
                  clear hB
                  go_wp2_with fail
                  refine (HOA.out _ HB'.out).mono ?_
                  rintro e wx ⟨u', v', rfl, ho, he⟩
                  have := H.out _ _ he (⟨u', v', rfl, ho.1.bs, ho.2.pks⟩)
                  clear H
                  go_wp2_with fail
                  show K _ _
                  rw [HFR.out] at this
                  obtain ⟨u5, u6, u8⟩ := HU.out _
                  rw [u5, u6, u8] at this
                  exact this
                · rintro L A W K hL hC hW ⟨V, rfl, HV, s0, f9, f13⟩ hK
                  have e5 : V 5 = .bool true := HV 5 _ rfl (hW 5 rfl)
                  have hB := s0
                  have H := Lib.hid (show ∀ W', Ext W W' → K (fr (upd V 10 (.agg #[.slice An m.length cn]))) W' from fun W' he => hK _ _ ⟨upd V 10 (.agg #[.slice An m.length cn]), rfl, HV.up 10 _ (fun x hx => Option.some.inj hx), Ext.trans s0 he, fun h0 => OfK.ext (f9 (more_ne h0 rfl)) he, fun h0 => OfK.ext (f13 (more_ne h0 rfl)) he⟩)
                  have HU := Lib.hid (show (upd V 10 (.agg #[.slice An m.length cn])) 5 = .bool true from e5)
                  clear hK hC hW hL HV s0 f9 f13
                  rw [HFR.out]
                  rw [e5]
                  clear e5
                  have hcl := (Cs.ext HG6.out (HE4.out.trans hB)).cell 0 _ rfl
                  clear hB
                  go_wp2_with fail
                  show K _ _
                  have := H.out _ (Ext.refl _)
                  rw [HFR.out] at this
                  obtain u5 := HU.out
                  rw [u5] at this
                  exact this
                · rintro L A W K hL hC hW ⟨V, rfl, HV, s0, f9, f13⟩ hK
                  have e5 : V 5 = .bool true := HV 5 _ rfl (hW 5 rfl)
                  have H := Lib.hid (show ∀ W', Ext W W' → K (fr (upd V 11 (.pointer (some ⟨B, 0, none⟩)))) W' from fun W' he => hK _ _ ⟨upd V 11 (.pointer (some ⟨B, 0, none⟩)), rfl, HV.up 11 _ (fun x hx => Option.some.inj hx), Ext.trans s0 he, fun h0 => OfK.ext (f9 (more_ne h0 rfl)) he, fun h0 => OfK.ext (f13 (more_ne h0 rfl)) he⟩)
                  have HU := Lib.hid (show (upd V 11 (.pointer (some ⟨B, 0, none⟩))) 5 = .bool true from e5)
                  clear hK hC hW hL HV s0 f9 f13
                  rw [HFR.out]
                  rw [e5]
                  clear e5
                  go_wp2_with fail
                  show K _ _
                  have := H.out _ (Ext.refl _)
                  rw [HFR.out] at this
                  obtain u5 := HU.out
                  rw [u5] at this
                  exact this
                · rintro L A W K hL hC hW ⟨V, rfl, HV, s0, f9, f13⟩ hK
                  have e5 : V 5 = .bool true := HV 5 _ rfl (hW 5 rfl)
                  have e11 : V 11 = .pointer (some ⟨B, 0, none⟩) := HV 11 _ rfl (hW 11 rfl)
                  have hB := s0
                  have H := Lib.hid (show ∀ W', Ext W W' → K (fr (upd V 12 (.int .u64 (p.addr : Nat)))) W' from fun W' he => hK _ _ ⟨upd V 12 (.int .u64 (p.addr : Nat)), rfl, HV.up 12 _ (fun x hx => Option.some.inj hx), Ext.trans s0 he, fun h0 => OfK.ext (f9 (more_ne h0 rfl)) he, fun h0 => OfK.ext (f13 (more_ne h0 rfl)) he⟩)
                  have HU := Lib.hid (show (upd V 12 (.int .u64 (p.addr : Nat))) 5 = .bool true ∧ (upd V 12 (.int .u64 (p.addr : Nat))) 11 = .pointer (some ⟨B, 0, none⟩) from ⟨e5, e11⟩)
                  clear hK hC hW hL HV s0 f9 f13
                  rw [HFR.out]
                  rw [e5, e11]
                  clear e5 e11
                  have hcl := (show Cs W B _ _ from K4.out.ext hB).cell 0 (.int .u64 (p.addr : Nat)) rfl
                  clear hB
                  go_wp2_with fail
                  show K _ _
                  have := H.out _ (Ext.refl _)
                  rw [HFR.out] at this
                  obtain ⟨u5, u11⟩ := HU.out
                  rw [u5, u11] at this
                  exact this
                · rintro L A W K hL hC hW ⟨V, rfl, HV, s0, f9, f13⟩ hK
                  have e5 : V 5 = .bool true := HV 5 _ rfl (hW 5 rfl)
                  have e10 : V 10 = .agg #[.slice An m.length cn] := HV 10 _ rfl (hW 10 rfl)
                  have e12 : V 12 = .int .u64 (p.addr : Nat) := HV 12 _ rfl (hW 12 rfl)
                  have hB := s0
                  have H := Lib.hid (show ∀ v W', Ext W W' → (OfK W' q v) → K (fr (upd V 13 v)) W' from fun v W' he hp => hK _ _ ⟨upd V 13 v, rfl, HV.up 13 _ (fun x hx => absurd hx (by intro h; cases h)), Ext.trans s0 he, fun h0 => OfK.ext (f9 (more_ne h0 rfl)) he, fun h0 => hp⟩)
                  have HU := Lib.hid (show ∀ v, (upd V 13 v) 5 = .bool true ∧ (upd V 13 v) 10 = .agg #[.slice An m.length cn] ∧ (upd V 13 v) 12 = .int .u64 (p.addr : Nat) from fun v => ⟨e5, e10, e12⟩)
                  clear hK hC hW hL HV s0 f9 f13
                  rw [HFR.out]
                  rw [e5, e10, e12]
                  clear e5 e10 e12
                  have HB' := Lib.hid hB
                  clear hB
                  go_wp2_with fail
                  refine (HOB.out _ HB'.out).mono ?_
                  rintro e wx ⟨u', v', rfl, ho, he⟩
                  have := H.out _ _ he (⟨u', v', rfl, ho.1.bs, ho.2.pks⟩)
                  clear H
                  go_wp2_with fail
                  show K _ _
                  rw [HFR.out] at this
                  obtain ⟨u5, u10, u12⟩ := HU.out _
                  rw [u5, u10, u12] at this
                  exact this
                · rintro L A W K hL hC hW ⟨V, rfl, HV, s0, f9, f13⟩ hK
                  have e5 : V 5 = .bool true := HV 5 _ rfl (hW 5 rfl)
                  have hB := s0
                  have q9 := f9 (hW 9 rfl)
                  obtain ⟨u9, v9, e9, z9⟩ := q9
                  have q13 := f13 (hW 13 rfl)
                  obtain ⟨u13, v13, e13, z13⟩ := q13
                  have H := Lib.hid (show ∀ W', Ext W W' → K (fr (upd V 14 (.bool true))) W' from fun W' he => hK _ _ ⟨upd V 14 (.bool true), rfl, HV.up 14 _ (fun x hx => Option.some.inj hx), Ext.trans s0 he, fun h0 => OfK.ext (f9 (more_ne h0 rfl)) he, fun h0 => OfK.ext (f13 (more_ne h0 rfl)) he⟩)
                  have HU := Lib.hid (show (upd V 14 (.bool true)) 5 = .bool true ∧ (upd V 14 (.bool true)) 9 = .agg (acc q u9 v9) ∧ (upd V 14 (.bool true)) 13 = .agg (acc q u13 v13) from ⟨e5, e9, e13⟩)
                  clear hK hC hW hL HV s0 f9 f13
                  rw [HFR.out]
                  rw [e5, e9, e13]
                  clear e5 e9 e13
                  clear hB
                  have Z9 := Lib.hid z9
                  have Z13 := Lib.hid z13
                  clear z9 z13
                  go_wp2_with fail
                  refine (HSM.out _ _ _ _ _ Z9.out.1 Z9.out.2 Z13.out.1 Z13.out.2).mono ?_
                  rintro e wx ⟨rfl, he⟩
                  have := H.out _ he
                  clear H
                  go_wp2_with fail
                  show K _ _
                  rw [HFR.out] at this
                  obtain ⟨u5, u9, u13⟩ := HU.out
                  rw [u5, u9, u13] at this
                  exact this
                · rintro L A W K hL hC hW ⟨V, rfl, HV, s0, f9, f13⟩ hK
                  have e5 : V 5 = .bool true := HV 5 _ rfl (hW 5 rfl)
                  have e14 : V 14 = .bool true := HV 14 _ rfl (hW 14 rfl)
                  have H := Lib.hid (show ∀ W', Ext W W' → K (fr (upd V 15 (.bool false))) W' from fun W' he => hK _ _ ⟨upd V 15 (.bool false), rfl, HV.up 15 _ (fun x hx => Option.some.inj hx), Ext.trans s0 he, fun h0 => OfK.ext (f9 (more_ne h0 rfl)) he, fun h0 => OfK.ext (f13 (more_ne h0 rfl)) he⟩)
                  have HU := Lib.hid (show (upd V 15 (.bool false)) 5 = .bool true ∧ (upd V 15 (.bool false)) 14 = .bool true from ⟨e5, e14⟩)
                  clear hK hC hW hL HV s0 f9 f13
                  rw [HFR.out]
                  rw [e5, e14]
                  clear e5 e14
                  go_wp2_with fail
                  show K _ _
                  have := H.out _ (Ext.refl _)
                  rw [HFR.out] at this
                  obtain ⟨u5, u14⟩ := HU.out
                  rw [u5, u14] at this
                  exact this
                · rintro L A W K hL hC hW ⟨V, rfl, HV, s0, f9, f13⟩ hK
                  have e5 : V 5 = .bool true := HV 5 _ rfl (hW 5 rfl)
                  have e15 : V 15 = .bool false := HV 15 _ rfl (hW 15 rfl)
                  have H := Lib.hid (show ∀ W', Ext W W' → K (fr (upd V 16 (.bool false))) W' from fun W' he => hK _ _ ⟨upd V 16 (.bool false), rfl, HV.up 16 _ (fun x hx => Option.some.inj hx), Ext.trans s0 he, fun h0 => OfK.ext (f9 (more_ne h0 rfl)) he, fun h0 => OfK.ext (f13 (more_ne h0 rfl)) he⟩)
                  have HU := Lib.hid (show (upd V 16 (.bool false)) 5 = .bool true ∧ (upd V 16 (.bool false)) 15 = .bool false from ⟨e5, e15⟩)
                  clear hK hC hW hL HV s0 f9 f13
                  rw [HFR.out]
                  rw [e5, e15]
                  clear e5 e15
                  go_wp2_with fail
                  show K _ _
                  have := H.out _ (Ext.refl _)
                  rw [HFR.out] at this
                  obtain ⟨u5, u15⟩ := HU.out
                  rw [u5, u15] at this
                  exact this
                · rintro L A W hL ⟨V, rfl, HV, s0, f9, f13⟩
                  have e0 : V 0 = .map (some gm) := HV 0 _ rfl (hL 0 (by simp))
                  have e1 : V 1 = .pointer (some ⟨B, 0, none⟩) := HV 1 _ rfl (hL 1 (by simp))
                  have e2 : V 2 = .int .u64 (p.addr : Nat) := HV 2 _ rfl (hL 2 (by simp))
                  have e3 : V 3 = .bool false := HV 3 _ rfl (hL 3 (by simp))
                  have e4 : V 4 = .bool true := HV 4 _ rfl (hL 4 (by simp))
                  have e5 : V 5 = .bool true := HV 5 _ rfl (hL 5 (by simp))
                  have e6 : V 6 = .agg #[.slice (some ⟨b, oo, none⟩) l.length cs] := HV 6 _ rfl (hL 6 (by simp))
                  have e7 : V 7 = .pointer (some ⟨B, 0, none⟩) := HV 7 _ rfl (hL 7 (by simp))
                  have e8 : V 8 = .int .u64 (p.addr : Nat) := HV 8 _ rfl (hL 8 (by simp))
                  have e10 : V 10 = .agg #[.slice An m.length cn] := HV 10 _ rfl (hL 10 (by simp))
                  have e11 : V 11 = .pointer (some ⟨B, 0, none⟩) := HV 11 _ rfl (hL 11 (by simp))
                  have e12 : V 12 = .int .u64 (p.addr : Nat) := HV 12 _ rfl (hL 12 (by simp))
                  have e14 : V 14 = .bool true := HV 14 _ rfl (hL 14 (by simp))
                  have e15 : V 15 = .bool false := HV 15 _ rfl (hL 15 (by simp))
                  have e16 : V 16 = .bool false := HV 16 _ rfl (hL 16 (by simp))
                  have hA := s0
                  have p84 := f9 (hL 9 (by simp))
                  have p88 := f13 (hL 13 (by simp))
                  rw [HFR.out]
                  rw [e0, e1, e2, e3, e4, e5, e6, e7, e8, e10, e11, e12, e14, e15, e16]
                  clear hL HV HFR e0 e1 e2 e3 e4 e5 e6 e7 e8 e10 e11 e12 e14 e15 e16 s0 f9 f13
                  have HA4 := Lib.hid hA
                  clear hA
                  go_wp2_with fail
                  exact ⟨⟨k + 1, by omega, by go_num, Lib.hid (HE4.out.trans HA4.out)⟩, by simp [intOf]; omega⟩
            · obtain rfl : k = l.length := by omega
              go_wp2_with fail
              exact ⟨⟨1, by omega, by go_num, HE⟩, by simp [intOf]⟩
        · rw [show ((1 : Nat) : Int) = 1 from rfl]
          have ix1 := idxK1 As An l.length cs m.length cn
          go_wp2_with fail
          go_loopw [71] (fun jv wi => ∃ k : Nat, k ≤ m.length ∧ jv = .int .i64 k ∧ Hid (Ext w9 wi)) (fun jv _ => m.length - (intOf jv).toNat)
          case atStart => exact ⟨0, by omega, rfl, Lib.hid (HE.out.trans ((Ext.refl _).alloc _))⟩
          case round =>
            clear HE
            obtain ⟨k, hk, rfl, HE⟩ := hrel
            by_cases hlt : k < m.length
            · have hd : decide (k < m.length) = true := decide_eq_true hlt
              have h50 : m.length ≤ 50 := by have := HBL.out; omega
              obtain ⟨b, oo, u, v, rfl, hrg, hu, hv, hok⟩ := (HB.out.ext HE.out).at k hlt
              have HR := Lib.hid hrg
              have HU2 := Lib.hid hu
              have HV2 := Lib.hid hv
              have HP2 := Lib.hid hok
              clear hrg hu hv hok
              obtain ⟨p, hp⟩ : ∃ p, m.getD k acz = p := ⟨_, rfl⟩
              rw [hp] at HR HU2 HV2 HP2
              clear hp
              go_upto_region 23 with (first
                | ((with_reducible refine wpList_load_ac ?_ (.tmp 73) ?_ b (oo + k * 8) p u v ?_ ?_ ?_); (exact rfl); (exact rfl); (exact rfl); (exact HR.out))
                | ((with_reducible refine wpList_store_ac ?_ ?_ (.tmp 13) (.tmp 74) ?_ wr.heap.size az0 p u v ?_ ?_ ?_ ?_ ?_ ?_ ?_); (exact rfl); (exact rfl); (exact rfl); (exact bs_one HU2.out); (exact pks_one HV2.out); (exact rfl); (exact rfl); (exact Cs.new _ _ _ _ rfl); (exact rfl); intro w4 k4 g4; have K4 := Lib.hid k4; have HX4 := Lib.hid (((Ext.refl wr).alloc _).grown g4 (Nat.le_refl _)); clear k4 g4))
              have HE4 := Lib.hid (HE.out.trans HX4.out)
              have HT4 := Lib.hid (HT.out.ext HE4.out)
              obtain ⟨B, hB'⟩ : ∃ B, wr.heap.size = B := ⟨_, rfl⟩
              rw [hB'] at K4 ⊢
              clear hB' HR HU2 HV2 HX4
              cases hT : decide (p.addr ∈ T) with
              | true =>
                have HTF := Lib.hid hT
                clear hT
                refine wp_named fun a0 ha0 => ?_
                obtain ⟨fr, hfr⟩ : ∃ fr : (Nat → Value) → Act, ∀ V, fr V = (((((((((((((((((a0.put (some 75) (V 0)).put (some 76) (V 1)).put (some 77) (V 2)).put (some 78) (V 3)).put (some 79) (V 4)).put (some 80) (V 5)).put (some 81) (V 6)).put (some 82) (V 7)).put (some 83) (V 8)).put (some 84) (V 9)).put (some 85) (V 10)).put (some 86) (V 11)).put (some 87) (V 12)).put (some 88) (V 13)).put (some 89) (V 14)).put (some 90) (V 15)).put (some 91) (V 16)) := ⟨fun V => (((((((((((((((((a0.put (some 75) (V 0)).put (some 76) (V 1)).put (some 77) (V 2)).put (some 78) (V 3)).put (some 79) (V 4)).put (some 80) (V 5)).put (some 81) (V 6)).put (some 82) (V 7)).put (some 83) (V 8)).put (some 84) (V 9)).put (some 85) (V 10)).put (some 86) (V 11)).put (some 87) (V 12)).put (some 88) (V 13)).put (some 89) (V 14)).put (some 90) (V 15)).put (some 91) (V 16)), fun _ => rfl⟩
                rw [ha0] at hfr
                simp only [Act.put, List.setIfInBounds_toArray, List.set_cons_zero, List.set_cons_succ] at hfr
                have HFR := Lib.hid hfr
                clear hfr
                refine wp_region_inv (by kernel_rfl) (by kernel_rfl) (fun L A W => ∃ V : Nat → Value, A = fr V ∧ Vals (fun j => ([some (.map (some gm)), some (.pointer (some ⟨B, 0, none⟩)), some (.int .u64 (p.addr : Nat)), some (.bool true), some (.bool false), some (.bool false), some (undef), some (undef), some (undef), some (undef), some (undef), some (undef), some (undef), some (undef), some (undef), some (undef), some (.bool false)] : List (Option Value)).getD j none) L V ∧ (Ext w4 W)) ?_ ⟨?_, ?_, ?_, ?_, ?_, ?_, ?_, ?_, ?_, ?_, ?_, ?_, ?_, ?_, ?_, ?_, ?_, trivial⟩ ?_
                · refine ⟨fun j => a0.tmps.getD (([75, 76, 77, 78, 79, 80, 81, 82, 83, 84, 85, 86, 87, 88, 89, 90, 91] : List Nat).getD j 0) undef, ?_, Vals.no _ _ _ (far_none _ _ rfl), (Ext.refl _).drew⟩
                  rw [HFR.out, ha0]
                  rfl
                all_goals clear ha0
                · rintro L A W K hL hC hW ⟨V, rfl, HV, s0⟩ hK
                  have H := Lib.hid (show ∀ W', Ext W W' → K (fr (upd V 0 (.map (some gm)))) W' from fun W' he => hK _ _ ⟨upd V 0 (.map (some gm)), rfl, HV.up 0 _ (fun x hx => Option.some.inj hx), Ext.trans s0 he⟩)
                  clear hK hC hW hL HV s0
                  rw [HFR.out]
                  go_wp2_with fail
                  show K _ _
                  have := H.out _ (Ext.refl _)
                  rw [HFR.out] at this
                  exact this
                · rintro L A W K hL hC hW ⟨V, rfl, HV, s0⟩ hK
                  have H := Lib.hid (show ∀ W', Ext W W' → K (fr (upd V 1 (.pointer (some ⟨B, 0, none⟩)))) W' from fun W' he => hK _ _ ⟨upd V 1 (.pointer (some ⟨B, 0, none⟩)), rfl, HV.up 1 _ (fun x hx => Option.some.inj hx), Ext.trans s0 he⟩)
                  clear hK hC hW hL HV s0
                  rw [HFR.out]
                  go_wp2_with fail
                  show K _ _
                  have := H.out _ (Ext.refl _)
                  rw [HFR.out] at this
                  exact this
                · rintro L A W K hL hC hW ⟨V, rfl, HV, s0⟩ hK
                  have e1 : V 1 = .pointer (some ⟨B, 0, none⟩) := HV 1 _ rfl (hW 1 rfl)
                  have hB := s0
                  have H := Lib.hid (show ∀ W', Ext W W' → K (fr (upd V 2 (.int .u64 (p.addr : Nat)))) W' from fun W' he => hK _ _ ⟨upd V 2 (.int .u64 (p.addr : Nat)), rfl, HV.up 2 _ (fun x hx => Option.some.inj hx), Ext.trans s0 he⟩)
                  have HU := Lib.hid (show (upd V 2 (.int .u64 (p.addr : Nat))) 1 = .pointer (some ⟨B, 0, none⟩) from e1)
                  clear hK hC hW hL HV s0
                  rw [HFR.out]
                  rw [e1]
                  clear e1
                  have hcl := (show Cs W B _ _ from K4.out.ext hB).cell 0 (.int .u64 (p.addr : Nat)) rfl
                  clear hB
                  go_wp2_with fail
                  show K _ _
                  have := H.out _ (Ext.refl _)
                  rw [HFR.out] at this
                  obtain u1 := HU.out
                  rw [u1] at this
                  exact this
                · rintro L A W K hL hC hW ⟨V, rfl, HV, s0⟩ hK
                  have e0 : V 0 = .map (some gm) := HV 0 _ rfl (hW 0 rfl)
                  have e2 : V 2 = .int .u64 (p.addr : Nat) := HV 2 _ rfl (hW 2 rfl)
                  have hB := s0
                  have H := Lib.hid (show ∀ W', Ext W W' → K (fr (upd V 3 (.bool true))) W' from fun W' he => hK _ _ ⟨upd V 3 (.bool true), rfl, HV.up 3 _ (fun x hx => Option.some.inj hx), Ext.trans s0 he⟩)
                  have HU := Lib.hid (show (upd V 3 (.bool true)) 0 = .map (some gm) ∧ (upd V 3 (.bool true)) 2 = .int .u64 (p.addr : Nat) from ⟨e0, e2⟩)
                  clear hK hC hW hL HV s0
                  rw [HFR.out]
                  rw [e0, e2]
                  clear e0 e2
                  have HTW := Lib.hid (HT4.out.ext hB)
                  clear hB
                  refine wpList_touched rfl (.tmp 75) (.tmp 77) rfl gm T HTW.out p.addr HP2.out.1 rfl rfl ?_
                  rw [HTF.out]
                  show K _ _
                  have := H.out _ (Ext.refl _)
                  rw [HFR.out] at this
                  obtain ⟨u0, u2⟩ := HU.out
                  rw [u0, u2] at this
                  exact this
                · rintro L A W K hL hC hW ⟨V, rfl, HV, s0⟩ hK
                  have e3 : V 3 = .bool true := HV 3 _ rfl (hW 3 rfl)
                  have H := Lib.hid (show ∀ W', Ext W W' → K (fr (upd V 4 (.bool false))) W' from fun W' he => hK _ _ ⟨upd V 4 (.bool false), rfl, HV.up 4 _ (fun x hx => Option.some.inj hx), Ext.trans s0 he⟩)
                  have HU := Lib.hid (show (upd V 4 (.bool false)) 3 = .bool true from e3)
                  clear hK hC hW hL HV s0
                  rw [HFR.out]
                  rw [e3]
                  clear e3
                  go_wp2_with fail
                  show K _ _
                  have := H.out _ (Ext.refl _)
                  rw [HFR.out] at this
                  obtain u3 := HU.out
                  rw [u3] at this
                  exact this
                · rintro L A W K hL hC hW ⟨V, rfl, HV, s0⟩ hK
                  have e4 : V 4 = .bool false := HV 4 _ rfl (hW 4 rfl)
                  have H := Lib.hid (show ∀ W', Ext W W' → K (fr (upd V 5 (.bool false))) W' from fun W' he => hK _ _ ⟨upd V 5 (.bool false), rfl, HV.up 5 _ (fun x hx => Option.some.inj hx), Ext.trans s0 he⟩)
                  have HU := Lib.hid (show (upd V 5 (.bool false)) 4 = .bool false from e4)
                  clear hK hC hW hL HV s0
                  rw [HFR.out]
                  rw [e4]
                  clear e4
                  go_wp2_with fail
                  show K _ _
                  have := H.out _ (Ext.refl _)
                  rw [HFR.out] at this
                  obtain u4 := HU.out
                  rw [u4] at this
                  exact this
                · rintro L A W K hL hC hW ⟨V, rfl, HV, s0⟩ hK
                  have e5 : V 5 = .bool false := HV 5 _ rfl (hW 5 rfl)
                  have H := Lib.hid (show ∀ W', Ext W W' → K (fr (upd V 6 (undef))) W' from fun W' he => hK _ _ ⟨upd V 6 (undef), rfl, HV.up 6 _ (fun x hx => Option.some.inj hx), Ext.trans s0 he⟩)
                  have HU := Lib.hid (show (upd V 6 (undef)) 5 = .bool false from e5)
                  clear hK hC hW hL HV s0
                  rw [HFR.out]
                  rw [e5]
                  clear e5
                  go_wp2_with fail
                  show K _ _
                  have := H.out _ (Ext.refl _)
                  rw [HFR.out] at this
                  obtain u5 := HU.out
                  rw [u5] at this
                  exact this
                · rintro L A W K hL hC hW ⟨V, rfl, HV, s0⟩ hK
                  have e5 : V 5 = .bool false := HV 5 _ rfl (hW 5 rfl)
                  have H := Lib.hid (show ∀ W', Ext W W' → K (fr (upd V 7 (undef))) W' from fun W' he => hK _ _ ⟨upd V 7 (undef), rfl, HV.up 7 _ (fun x hx => Option.some.inj hx), Ext.trans s0 he⟩)
                  have HU := Lib.hid (show (upd V 7 (undef)) 5 = .bool false from e5)
                  clear hK hC hW hL HV s0
                  rw [HFR.out]
                  rw [e5]
                  clear e5
                  go_wp2_with fail
                  show K _ _
                  have := H.out _ (Ext.refl _)
                  rw [HFR.out] at this
                  obtain u5 := HU.out
                  rw [u5] at this
                  exact this
                · rintro L A W K hL hC hW ⟨V, rfl, HV, s0⟩ hK
                  have e5 : V 5 = .bool false := HV 5 _ rfl (hW 5 rfl)
                  have e7 : V 7 = undef := HV 7 _ rfl (hW 7 rfl)
                  have H := Lib.hid (show ∀ W', Ext W W' → K (fr (upd V 8 (undef))) W' from fun W' he => hK _ _ ⟨upd V 8 (undef), rfl, HV.up 8 _ (fun x hx => Option.some.inj hx), Ext.trans s0 he⟩)
                  have HU := Lib.hid (show (upd V 8 (undef)) 5 = .bool false ∧ (upd V 8 (undef)) 7 = undef from ⟨e5, e7⟩)
                  clear hK hC hW hL HV s0
                  rw [HFR.out]
                  rw [e5, e7]
                  clear e5 e7
                  go_wp2_with fail
                  show K _ _
                  have := H.out _ (Ext.refl _)
                  rw [HFR.out] at this
                  obtain ⟨u5, u7⟩ := HU.out
                  rw [u5, u7] at this
                  exact this
                · rintro L A W K hL hC hW ⟨V, rfl, HV, s0⟩ hK
                  have e5 : V 5 = .bool false := HV 5 _ rfl (hW 5 rfl)
                  have e6 : V 6 = undef := HV 6 _ rfl (hW 6 rfl)
                  have e8 : V 8 = undef := HV 8 _ rfl (hW 8 rfl)
                  have H := Lib.hid (show ∀ W', Ext W W' → K (fr (upd V 9 (undef))) W' from fun W' he => hK _ _ ⟨upd V 9 (undef), rfl, HV.up 9 _ (fun x hx => Option.some.inj hx), Ext.trans s0 he⟩)
                  have HU := Lib.hid (show (upd V 9 (undef)) 5 = .bool false ∧ (upd V 9 (undef)) 6 = undef ∧ (upd V 9 (undef)) 8 = undef from ⟨e5, e6, e8⟩)
                  clear hK hC hW hL HV s0
                  rw [HFR.out]
                  rw [e5, e6, e8]
                  clear e5 e6 e8
                  go_wp2_with fail
                  show K _ _
                  have := H.out _ (Ext.refl _)
                  rw [HFR.out] at this
                  obtain ⟨u5, u6, u8⟩ := HU.out
                  rw [u5, u6, u8] at this
                  exact this
                · rintro L A W K hL hC hW ⟨V, rfl, HV, s0⟩ hK
                  have e5 : V 5 = .bool false := HV 5 _ rfl (hW 5 rfl)
                  have H := Lib.hid (show ∀ W', Ext W W' → K (fr (upd V 10 (undef))) W' from fun W' he => hK _ _ ⟨upd V 10 (undef), rfl, HV.up 10 _ (fun x hx => Option.some.inj hx), Ext.trans s0 he⟩)
                  have HU := Lib.hid (show (upd V 10 (undef)) 5 = .bool false from e5)
                  clear hK hC hW hL HV s0
                  rw [HFR.out]
                  rw [e5]
                  clear e5
                  go_wp2_with fail
                  show K _ _
                  have := H.out _ (Ext.refl _)
                  rw [HFR.out] at this
                  obtain u5 := HU.out
                  rw [u5] at this
                  exact this
                · rintro L A W K hL hC hW ⟨V, rfl, HV, s0⟩ hK
                  have e5 : V 5 = .bool false := HV 5 _ rfl (hW 5 rfl)
                  have H := Lib.hid (show ∀ W', Ext W W' → K (fr (upd V 11 (undef))) W' from fun W' he => hK _ _ ⟨upd V 11 (undef), rfl, HV.up 11 _ (fun x hx => Option.some.inj hx), Ext.trans s0 he⟩)
                  have HU := Lib.hid (show (upd V 11 (undef)) 5 = .bool false from e5)
                  clear hK hC hW hL HV s0
                  rw [HFR.out]
                  rw [e5]
                  clear e5
                  go_wp2_with fail
                  show K _ _
                  have := H.out _ (Ext.refl _)
                  rw [HFR.out] at this
                  obtain u5 := HU.out
                  rw [u5] at this
                  exact this
                · rintro L A W K hL hC hW ⟨V, rfl, HV, s0⟩ hK
                  have e5 : V 5 = .bool false := HV 5 _ rfl (hW 5 rfl)
                  have e11 : V 11 = undef := HV 11 _ rfl (hW 11 rfl)
                  have H := Lib.hid (show ∀ W', Ext W W' → K (fr (upd V 12 (undef))) W' from fun W' he => hK _ _ ⟨upd V 12 (undef), rfl, HV.up 12 _ (fun x hx => Option.some.inj hx), Ext.trans s0 he⟩)
                  have HU := Lib.hid (show (upd V 12 (undef)) 5 = .bool false ∧ (upd V 12 (undef)) 11 = undef from ⟨e5, e11⟩)
                  clear hK hC hW hL HV s0
                  rw [HFR.out]
                  rw [e5, e11]
                  clear e5 e11
                  go_wp2_with fail
                  show K _ _
                  have := H.out _ (Ext.refl _)
                  rw [HFR.out] at this
                  obtain ⟨u5, u11⟩ := HU.out
                  rw [u5, u11] at this
                  exact this
                · rintro L A W K hL hC hW ⟨V, rfl, HV, s0⟩ hK
                  have e5 : V 5 = .bool false := HV 5 _ rfl (hW 5 rfl)
                  have e10 : V 10 = undef := HV 10 _ rfl (hW 10 rfl)
                  have e12 : V 12 = undef := HV 12 _ rfl (hW 12 rfl)
                  have H := Lib.hid (show ∀ W', Ext W W' → K (fr (upd V 13 (undef))) W' from fun W' he => hK _ _ ⟨upd V 13 (undef), rfl, HV.up 13 _ (fun x hx => Option.some.inj hx), Ext.trans s0 he⟩)
                  have HU := Lib.hid (show (upd V 13 (undef)) 5 = .bool false ∧ (upd V 13 (undef)) 10 = undef ∧ (upd V 13 (undef)) 12 = undef from ⟨e5, e10, e12⟩)
                  clear hK hC hW hL HV s0
                  rw [HFR.out]
                  rw [e5, e10, e12]
                  clear e5 e10 e12
                  go_wp2_with fail
                  show K _ _
                  have := H.out _ (Ext.refl _)
                  rw [HFR.out] at this
                  obtain ⟨u5, u10, u12⟩ := HU.out
                  rw [u5, u10, u12] at this
                  exact this
                · rintro L A W K hL hC hW ⟨V, rfl, HV, s0⟩ hK
                  have e5 : V 5 = .bool false := HV 5 _ rfl (hW 5 rfl)
                  have e9 : V 9 = undef := HV 9 _ rfl (hW 9 rfl)
                  have e13 : V 13 = undef := HV 13 _ rfl (hW 13 rfl)
                  have H := Lib.hid (show ∀ W', Ext W W' → K (fr (upd V 14 (undef))) W' from fun W' he => hK _ _ ⟨upd V 14 (undef), rfl, HV.up 14 _ (fun x hx => Option.some.inj hx), Ext.trans s0 he⟩)
                  have HU := Lib.hid (show (upd V 14 (undef)) 5 = .bool false ∧ (upd V 14 (undef)) 9 = undef ∧ (upd V 14 (undef)) 13 = undef from ⟨e5, e9, e13⟩)
                  clear hK hC hW hL HV s0
                  rw [HFR.out]
                  rw [e5, e9, e13]
                  clear e5 e9 e13
                  go_wp2_with fail
                  show K _ _
                  have := H.out _ (Ext.refl _)
                  rw [HFR.out] at this
                  obtain ⟨u5, u9, u13⟩ := HU.out
                  rw [u5, u9, u13] at this
                  exact this
                · rintro L A W K hL hC hW ⟨V, rfl, HV, s0⟩ hK
                  have e5 : V 5 = .bool false := HV 5 _ rfl (hW 5 rfl)
                  have e14 : V 14 = undef := HV 14 _ rfl (hW 14 rfl)
                  have H := Lib.hid (show ∀ W', Ext W W' → K (fr (upd V 15 (undef))) W' from fun W' he => hK _ _ ⟨upd V 15 (undef), rfl, HV.up 15 _ (fun x hx => Option.some.inj hx), Ext.trans s0 he⟩)
                  have HU := Lib.hid (show (upd V 15 (undef)) 5 = .bool false ∧ (upd V 15 (undef)) 14 = undef from ⟨e5, e14⟩)
                  clear hK hC hW hL HV s0
                  rw [HFR.out]
                  rw [e5, e14]
                  clear e5 e14
                  go_wp2_with fail
                  show K _ _
                  have := H.out _ (Ext.refl _)
                  rw [HFR.out] at this
                  obtain ⟨u5, u14⟩ := HU.out
                  rw [u5, u14] at this
                  exact this
                · rintro L A W K hL hC hW ⟨V, rfl, HV, s0⟩ hK
                  have e5 : V 5 = .bool false := HV 5 _ rfl (hW 5 rfl)
                  have e15 : V 15 = undef := HV 15 _ rfl (hW 15 rfl)
                  have H := Lib.hid (show ∀ W', Ext W W' → K (fr (upd V 16 (.bool false))) W' from fun W' he => hK _ _ ⟨upd V 16 (.bool false), rfl, HV.up 16 _ (fun x hx => Option.some.inj hx), Ext.trans s0 he⟩)
                  have HU := Lib.hid (show (upd V 16 (.bool false)) 5 = .bool false ∧ (upd V 16 (.bool false)) 15 = undef from ⟨e5, e15⟩)
                  clear hK hC hW hL HV s0
                  rw [HFR.out]
                  rw [e5, e15]
                  clear e5 e15
                  go_wp2_with fail
                  show K _ _
                  have := H.out _ (Ext.refl _)
                  rw [HFR.out] at this
                  obtain ⟨u5, u15⟩ := HU.out
                  rw [u5, u15] at this
                  exact this
                · rintro L A W hL ⟨V, rfl, HV, s0⟩
                  have e0 : V 0 = .map (some gm) := HV 0 _ rfl (hL 0 (by simp))
                  have e1 : V 1 = .pointer (some ⟨B, 0, none⟩) := HV 1 _ rfl (hL 1 (by simp))
                  have e2 : V 2 = .int .u64 (p.addr : Nat) := HV 2 _ rfl (hL 2 (by simp))
                  have e3 : V 3 = .bool true := HV 3 _ rfl (hL 3 (by simp))
                  have e4 : V 4 = .bool false := HV 4 _ rfl (hL 4 (by simp))
                  have e5 : V 5 = .bool false := HV 5 _ rfl (hL 5 (by simp))
                  have e6 : V 6 = undef := HV 6 _ rfl (hL 6 (by simp))
                  have e7 : V 7 = undef := HV 7 _ rfl (hL 7 (by simp))
                  have e8 : V 8 = undef := HV 8 _ rfl (hL 8 (by simp))
                  have e9 : V 9 = undef := HV 9 _ rfl (hL 9 (by simp))
                  have e10 : V 10 = undef := HV 10 _ rfl (hL 10 (by simp))
                  have e11 : V 11 = undef := HV 11 _ rfl (hL 11 (by simp))
                  have e12 : V 12 = undef := HV 12 _ rfl (hL 12 (by simp))
                  have e13 : V 13 = undef := HV 13 _ rfl (hL 13 (by simp))
                  have e14 : V 14 = undef := HV 14 _ rfl (hL 14 (by simp))
                  have e15 : V 15 = undef := HV 15 _ rfl (hL 15 (by simp))
                  have e16 : V 16 = .bool false := HV 16 _ rfl (hL 16 (by simp))
                  have hA := s0
                  rw [HFR.out]
                  rw [e0, e1, e2, e3, e4, e5, e6, e7, e8, e9, e10, e11, e12, e13, e14, e15, e16]
                  clear hL HV HFR e0 e1 e2 e3 e4 e5 e6 e7 e8 e9 e10 e11 e12 e13 e14 e15 e16 s0
                  have HA4 := Lib.hid hA
                  clear hA
                  go_wp2_with fail
                  exact ⟨⟨k + 1, by omega, by go_num, Lib.hid (HE4.out.trans HA4.out)⟩, by simp [intOf]; omega⟩
              | false =>
                have HTF := Lib.hid hT
                have HQE := Lib.hid (HEQ.out p.addr (of_decide_eq_false hT))
                clear hT
                have HOA := Lib.hid (fun W (h : Ext w4 W) => stateOf_any _ l p.addr W (HA.out.ext (HE4.out.trans h)) HP2.out.1 (by have := HL.out; omega))
                have HOB := Lib.hid (fun W (h : Ext w4 W) => by
                  have := stateOf_any _ m p.addr W (HB.out.ext (HE4.out.trans h)) HP2.out.1 (by have := HBL.out; omega)
                  rw [HQE.out] at this
                  exact this)
                have HQK := Lib.hid (show (ofA l p.addr).ok by rw [ofA_right HRa.out]; exact accF_ok HA.out _ HP2.out.1)
                clear HQE
                generalize ofA l p.addr = q at *
                have HSM := Lib.hid (fun W u v u' v' (hu : Bs W u q.code) (hv : Pks W v q.store) (hu' : Bs W u' q.code) (hv' : Pks W v' q.store) => show Calls Try.prog 15 #[.agg (acc q u v), .agg (acc q u' v')] W (fun e w' => e = .returned (.bool true) ∧ Ext W w') by
                  have := lawSame_any q q u v u' v' W HQK.out HQK.out hu hv hu' hv'
                  rw [(Ac.eqB_iff q q).2 rfl] at this
                  exact this)
                refine wp_named fun a0 ha0 => ?_
                obtain ⟨fr, hfr⟩ : ∃ fr : (Nat → Value) → Act, ∀ V, fr V = (((((((((((((((((a0.put (some 75) (V 0)).put (some 76) (V 1)).put (some 77) (V 2)).put (some 78) (V 3)).put (some 79) (V 4)).put (some 80) (V 5)).put (some 81) (V 6)).put (some 82) (V 7)).put (some 83) (V 8)).put (some 84) (V 9)).put (some 85) (V 10)).put (some 86) (V 11)).put (some 87) (V 12)).put (some 88) (V 13)).put (some 89) (V 14)).put (some 90) (V 15)).put (some 91) (V 16)) := ⟨fun V => (((((((((((((((((a0.put (some 75) (V 0)).put (some 76) (V 1)).put (some 77) (V 2)).put (some 78) (V 3)).put (some 79) (V 4)).put (some 80) (V 5)).put (some 81) (V 6)).put (some 82) (V 7)).put (some 83) (V 8)).put (some 84) (V 9)).put (some 85) (V 10)).put (some 86) (V 11)).put (some 87) (V 12)).put (some 88) (V 13)).put (some 89) (V 14)).put (some 90) (V 15)).put (some 91) (V 16)), fun _ => rfl⟩
                rw [ha0] at hfr
                simp only [Act.put, List.setIfInBounds_toArray, List.set_cons_zero, List.set_cons_succ] at hfr
                have HFR := Lib.hid hfr
                clear hfr
                refine wp_region_inv (by kernel_rfl) (by kernel_rfl) (fun L A W => ∃ V : Nat → Value, A = fr V ∧ Vals (fun j => ([some (.map (some gm)), some (.pointer (some ⟨B, 0, none⟩)), some (.int .u64 (p.addr : Nat)), some (.bool false), some (.bool true), some (.bool true), some (.agg #[.slice As l.length cs]), some (.pointer (some ⟨B, 0, none⟩)), some (.int .u64 (p.addr : Nat)), none, some (.agg #[.slice (some ⟨b, oo, none⟩) m.length cn]), some (.pointer (some ⟨B, 0, none⟩)), some (.int .u64 (p.addr : Nat)), none, some (.bool true), some (.bool false), some (.bool false)] : List (Option Value)).getD j none) L V ∧ (Ext w4 W) ∧ (L 9 = true → OfK W q (V 9)) ∧ (L 13 = true → OfK W q (V 13))) ?_ ⟨?_, ?_, ?_, ?_, ?_, ?_, ?_, ?_, ?_, ?_, ?_, ?_, ?_, ?_, ?_, ?_, ?_, trivial⟩ ?_
                · refine ⟨fun j => a0.tmps.getD (([75, 76, 77, 78, 79, 80, 81, 82, 83, 84, 85, 86, 87, 88, 89, 90, 91] : List Nat).getD j 0) undef, ?_, Vals.no _ _ _ (far_none _ _ rfl), (Ext.refl _).drew, fun h0 => absurd h0 (by decide), fun h0 => absurd h0 (by decide)⟩
                  rw [HFR.out, ha0]
                  rfl
                all_goals clear ha0
                · rintro L A W K hL hC hW ⟨V, rfl, HV, s0, f9, f13⟩ hK
                  have H := Lib.hid (show ∀ W', Ext W W' → K (fr (upd V 0 (.map (some gm)))) W' from fun W' he => hK _ _ ⟨upd V 0 (.map (some gm)), rfl, HV.up 0 _ (fun x hx => Option.some.inj hx), Ext.trans s0 he, fun h0 => OfK.ext (f9 (more_ne h0 rfl)) he, fun h0 => OfK.ext (f13 (more_ne h0 rfl)) he⟩)
                  clear hK hC hW hL HV s0 f9 f13
                  rw [HFR.out]
                  go_wp2_with fail
                  show K _ _
                  have := H.out _ (Ext.refl _)
                  rw [HFR.out] at this
                  exact this
                · rintro L A W K hL hC hW ⟨V, rfl, HV, s0, f9, f13⟩ hK
                  have H := Lib.hid (show ∀ W', Ext W W' → K (fr (upd V 1 (.pointer (some ⟨B, 0, none⟩)))) W' from fun W' he => hK _ _ ⟨upd V 1 (.pointer (some ⟨B, 0, none⟩)), rfl, HV.up 1 _ (fun x hx => Option.some.inj hx), Ext.trans s0 he, fun h0 => OfK.ext (f9 (more_ne h0 rfl)) he, fun h0 => absurd (more_ne h0 rfl) (by rw [(hC.no (hC.no (hC.no (hC.no (hC.no hL 2 _ rfl rfl) 3 _ rfl rfl) 4 _ rfl rfl) 5 _ rfl rfl) 13 _ rfl rfl)]; simp)⟩)
                  clear hK hC hW hL HV s0 f9 f13
                  rw [HFR.out]
                  go_wp2_with fail
                  show K _ _
                  have := H.out _ (Ext.refl _)
                  rw [HFR.out] at this
                  exact this
                · rintro L A W K hL hC hW ⟨V, rfl, HV, s0, f9, f13⟩ hK
                  have e1 : V 1 = .pointer (some ⟨B, 0, none⟩) := HV 1 _ rfl (hW 1 rfl)
                  have hB := s0
                  have H := Lib.hid (show ∀ W', Ext W W' → K (fr (upd V 2 (.int .u64 (p.addr : Nat)))) W' from fun W' he => hK _ _ ⟨upd V 2 (.int .u64 (p.addr : Nat)), rfl, HV.up 2 _ (fun x hx => Option.some.inj hx), Ext.trans s0 he, fun h0 => OfK.ext (f9 (more_ne h0 rfl)) he, fun h0 => OfK.ext (f13 (more_ne h0 rfl)) he⟩)
                  have HU := Lib.hid (show (upd V 2 (.int .u64 (p.addr : Nat))) 1 = .pointer (some ⟨B, 0, none⟩) from e1)
                  clear hK hC hW hL HV s0 f9 f13
                  rw [HFR.out]
                  rw [e1]
                  clear e1
                  have hcl := (show Cs W B _ _ from K4.out.ext hB).cell 0 (.int .u64 (p.addr : Nat)) rfl
                  clear hB
                  go_wp2_with fail
                  show K _ _
                  have := H.out _ (Ext.refl _)
                  rw [HFR.out] at this
                  obtain u1 := HU.out
                  rw [u1] at this
                  exact this
                · rintro L A W K hL hC hW ⟨V, rfl, HV, s0, f9, f13⟩ hK
                  have e0 : V 0 = .map (some gm) := HV 0 _ rfl (hW 0 rfl)
                  have e2 : V 2 = .int .u64 (p.addr : Nat) := HV 2 _ rfl (hW 2 rfl)
                  have hB := s0
                  have H := Lib.hid (show ∀ W', Ext W W' → K (fr (upd V 3 (.bool false))) W' from fun W' he => hK _ _ ⟨upd V 3 (.bool false), rfl, HV.up 3 _ (fun x hx => Option.some.inj hx), Ext.trans s0 he, fun h0 => OfK.ext (f9 (more_ne h0 rfl)) he, fun h0 => OfK.ext (f13 (more_ne h0 rfl)) he⟩)
                  have HU := Lib.hid (show (upd V 3 (.bool false)) 0 = .map (some gm) ∧ (upd V 3 (.bool false)) 2 = .int .u64 (p.addr : Nat) from ⟨e0, e2⟩)
                  clear hK hC hW hL HV s0 f9 f13
                  rw [HFR.out]
                  rw [e0, e2]
                  clear e0 e2
                  have HTW := Lib.hid (HT4.out.ext hB)
                  clear hB
                  refine wpList_touched rfl (.tmp 75) (.tmp 77) rfl gm T HTW.out p.addr HP2.out.1 rfl rfl ?_
                  rw [HTF.out]
                  show K _ _
                  have := H.out _ (Ext.refl _)
                  rw [HFR.out] at this
                  obtain ⟨u0, u2⟩ := HU.out
                  rw [u0, u2] at this
                  exact this
                · rintro L A W K hL hC hW ⟨V, rfl, HV, s0, f9, f13⟩ hK
                  have e3 : V 3 = .bool false := HV 3 _ rfl (hW 3 rfl)
                  have H := Lib.hid (show ∀ W', Ext W W' → K (fr (upd V 4 (.bool true))) W' from fun W' he => hK _ _ ⟨upd V 4 (.bool true), rfl, HV.up 4 _ (fun x hx => Option.some.inj hx), Ext.trans s0 he, fun h0 => OfK.ext (f9 (more_ne h0 rfl)) he, fun h0 => OfK.ext (f13 (more_ne h0 rfl)) he⟩)
                  have HU := Lib.hid (show (upd V 4 (.bool true)) 3 = .bool false from e3)
                  clear hK hC hW hL HV s0 f9 f13
                  rw [HFR.out]
                  rw [e3]
                  clear e3
                  go_wp2_with fail
                  show K _ _
                  have := H.out _ (Ext.refl _)
                  rw [HFR.out] at this
                  obtain u3 := HU.out
                  rw [u3] at this
                  exact this
                · rintro L A W K hL hC hW ⟨V, rfl, HV, s0, f9, f13⟩ hK
                  have e4 : V 4 = .bool true := HV 4 _ rfl (hW 4 rfl)
                  have H := Lib.hid (show ∀ W', Ext W W' → K (fr (upd V 5 (.bool true))) W' from fun W' he => hK _ _ ⟨upd V 5 (.bool true), rfl, HV.up 5 _ (fun x hx => Option.some.inj hx), Ext.trans s0 he, fun h0 => OfK.ext (f9 (more_ne h0 rfl)) he, fun h0 => OfK.ext (f13 (more_ne h0 rfl)) he⟩)
                  have HU := Lib.hid (show (upd V 5 (.bool true)) 4 = .bool true from e4)
                  clear hK hC hW hL HV s0 f9 f13
                  rw [HFR.out]
                  rw [e4]
                  clear e4
                  go_wp2_with fail
                  show K _ _
                  have := H.out _ (Ext.refl _)
                  rw [HFR.out] at this
                  obtain u4 := HU.out
                  rw [u4] at this
                  exact this
                · rintro L A W K hL hC hW ⟨V, rfl, HV, s0, f9, f13⟩ hK
                  have e5 : V 5 = .bool true := HV 5 _ rfl (hW 5 rfl)
                  have hB := s0
                  have H := Lib.hid (show ∀ W', Ext W W' → K (fr (upd V 6 (.agg #[.slice As l.length cs]))) W' from fun W' he => hK _ _ ⟨upd V 6 (.agg #[.slice As l.length cs]), rfl, HV.up 6 _ (fun x hx => Option.some.inj hx), Ext.trans s0 he, fun h0 => OfK.ext (f9 (more_ne h0 rfl)) he, fun h0 => OfK.ext (f13 (more_ne h0 rfl)) he⟩)
                  have HU := Lib.hid (show (upd V 6 (.agg #[.slice As l.length cs])) 5 = .bool true from e5)
                  clear hK hC hW hL HV s0 f9 f13
                  rw [HFR.out]
                  rw [e5]
                  clear e5
                  have hcl := (Cs.ext HG5.out (HE4.out.trans hB)).cell 0 _ rfl
                  clear hB
                  go_wp2_with fail
                  show K _ _
                  have := H.out _ (Ext.refl _)
                  rw [HFR.out] at this
                  obtain u5 := HU.out
                  rw [u5] at this
                  exact this
                · rintro L A W K hL hC hW ⟨V, rfl, HV, s0, f9, f13⟩ hK
                  have e5 : V 5 = .bool true := HV 5 _ rfl (hW 5 rfl)
                  have H := Lib.hid (show ∀ W', Ext W W' → K (fr (upd V 7 (.pointer (some ⟨B, 0, none⟩)))) W' from fun W' he => hK _ _ ⟨upd V 7 (.pointer (some ⟨B, 0, none⟩)), rfl, HV.up 7 _ (fun x hx => Option.some.inj hx), Ext.trans s0 he, fun h0 => OfK.ext (f9 (more_ne h0 rfl)) he, fun h0 => OfK.ext (f13 (more_ne h0 rfl)) he⟩)
                  have HU := Lib.hid (show (upd V 7 (.pointer (some ⟨B, 0, none⟩))) 5 = .bool true from e5)
                  clear hK hC hW hL HV s0 f9 f13
                  rw [HFR.out]
                  rw [e5]
                  clear e5
                  go_wp2_with fail
                  show K _ _
                  have := H.out _ (Ext.refl _)
                  rw [HFR.out] at this
                  obtain u5 := HU.out
                  rw [u5] at this
                  exact this
                · rintro L A W K hL hC hW ⟨V, rfl, HV, s0, f9, f13⟩ hK
                  have e5 : V 5 = .bool true := HV 5 _ rfl (hW 5 rfl)
                  have e7 : V 7 = .pointer (some ⟨B, 0, none⟩) := HV 7 _ rfl (hW 7 rfl)
                  have hB := s0
                  have H := Lib.hid (show ∀ W', Ext W W' → K (fr (upd V 8 (.int .u64 (p.addr : Nat)))) W' from fun W' he => hK _ _ ⟨upd V 8 (.int .u64 (p.addr : Nat)), rfl, HV.up 8 _ (fun x hx => Option.some.inj hx), Ext.trans s0 he, fun h0 => OfK.ext (f9 (more_ne h0 rfl)) he, fun h0 => OfK.ext (f13 (more_ne h0 rfl)) he⟩)
                  have HU := Lib.hid (show (upd V 8 (.int .u64 (p.addr : Nat))) 5 = .bool true ∧ (upd V 8 (.int .u64 (p.addr : Nat))) 7 = .pointer (some ⟨B, 0, none⟩) from ⟨e5, e7⟩)
                  clear hK hC hW hL HV s0 f9 f13
                  rw [HFR.out]
                  rw [e5, e7]
                  clear e5 e7
                  have hcl := (show Cs W B _ _ from K4.out.ext hB).cell 0 (.int .u64 (p.addr : Nat)) rfl
                  clear hB
                  go_wp2_with fail
                  show K _ _
                  have := H.out _ (Ext.refl _)
                  rw [HFR.out] at this
                  obtain ⟨u5, u7⟩ := HU.out
                  rw [u5, u7] at this
                  exact this
                · rintro L A W K hL hC hW ⟨V, rfl, HV, s0, f9, f13⟩ hK
                  have e5 : V 5 = .bool true := HV 5 _ rfl (hW 5 rfl)
                  have e6 : V 6 = .agg #[.slice As l.length cs] := HV 6 _ rfl (hW 6 rfl)
                  have e8 : V 8 = .int .u64 (p.addr : Nat) := HV 8 _ rfl (hW 8 rfl)
                  have hB := s0
                  have H := Lib.hid (show ∀ v W', Ext W W' → (OfK W' q v) → K (fr (upd V 9 v)) W' from fun v W' he hp => hK _ _ ⟨upd V 9 v, rfl, HV.up 9 _ (fun x hx => absurd hx (by intro h; cases h)), Ext.trans s0 he, fun h0 => hp, fun h0 => OfK.ext (f13 (more_ne h0 rfl)) he⟩)
                  have HU := Lib.hid (show ∀ v, (upd V 9 v) 5 = .bool true ∧ (upd V 9 v) 6 = .agg #[.slice As l.length cs] ∧ (upd V 9 v) 8 = .int .u64 (p.addr : Nat) from fun v => ⟨e5, e6, e8⟩)
                  clear hK hC hW hL HV s0 f9 f13
                  rw [HFR.out]
                  rw [e5, e6, e8]
                  clear e5 e6 e8
                  have HB' := Lib.hid hB
                  clear hB
                  go_wp2_with fail
                  refine (HOA.out _ HB'.out).mono ?_
                  rintro e wx ⟨u', v', rfl, ho, he⟩
                  have := H.out _ _ he (⟨u', v', rfl, ho.1.bs, ho.2.pks⟩)
                  clear H
                  go_wp2_with fail
                  show K _ _
                  rw [HFR.out] at this
                  obtain ⟨u5, u6, u8⟩ := HU.out _
                  rw [u5, u6, u8] at this
                  exact this
                · rintro L A W K hL hC hW ⟨V, rfl, HV, s0, f9, f13⟩ hK
                  have e5 : V 5 = .bool true := HV 5 _ rfl (hW 5 rfl)
                  have hB := s0
                  have H := Lib.hid (show ∀ W', Ext W W' → K (fr (upd V 10 (.agg #[.slice (some ⟨b, oo, none⟩) m.length cn]))) W' from fun W' he => hK _ _ ⟨upd V 10 (.agg #[.slice (some ⟨b, oo, none⟩) m.length cn]), rfl, HV.up 10 _ (fun x hx => Option.some.inj hx), Ext.trans s0 he, fun h0 => OfK.ext (f9 (more_ne h0 rfl)) he, fun h0 => OfK.ext (f13 (more_ne h0 rfl)) he⟩)
                  have HU := Lib.hid (show (upd V 10 (.agg #[.slice (some ⟨b, oo, none⟩) m.length cn])) 5 = .bool true from e5)
                  clear hK hC hW hL HV s0 f9 f13
                  rw [HFR.out]
                  rw [e5]
                  clear e5
                  have hcl := (Cs.ext HG6.out (HE4.out.trans hB)).cell 0 _ rfl
                  clear hB
                  go_wp2_with fail
                  show K _ _
                  have := H.out _ (Ext.refl _)
                  rw [HFR.out] at this
                  obtain u5 := HU.out
                  rw [u5] at this
                  exact this
                · rintro L A W K hL hC hW ⟨V, rfl, HV, s0, f9, f13⟩ hK
                  have e5 : V 5 = .bool true := HV 5 _ rfl (hW 5 rfl)
                  have H := Lib.hid (show ∀ W', Ext W W' → K (fr (upd V 11 (.pointer (some ⟨B, 0, none⟩)))) W' from fun W' he => hK _ _ ⟨upd V 11 (.pointer (some ⟨B, 0, none⟩)), rfl, HV.up 11 _ (fun x hx => Option.some.inj hx), Ext.trans s0 he, fun h0 => OfK.ext (f9 (more_ne h0 rfl)) he, fun h0 => OfK.ext (f13 (more_ne h0 rfl)) he⟩)
                  have HU := Lib.hid (show (upd V 11 (.pointer (some ⟨B, 0, none⟩))) 5 = .bool true from e5)
                  clear hK hC hW hL HV s0 f9 f13
                  rw [HFR.out]
                  rw [e5]
                  clear e5
                  go_wp2_with fail
                  show K _ _
                  have := H.out _ (Ext.refl _)
                  rw [HFR.out] at this
                  obtain u5 := HU.out
                  rw [u5] at this
                  exact this
                · rintro L A W K hL hC hW ⟨V, rfl, HV, s0, f9, f13⟩ hK
                  have e5 : V 5 = .bool true := HV 5 _ rfl (hW 5 rfl)
                  have e11 : V 11 = .pointer (some ⟨B, 0, none⟩) := HV 11 _ rfl (hW 11 rfl)
                  have hB := s0
                  have H := Lib.hid (show ∀ W', Ext W W' → K (fr (upd V 12 (.int .u64 (p.addr : Nat)))) W' from fun W' he => hK _ _ ⟨upd V 12 (.int .u64 (p.addr : Nat)), rfl, HV.up 12 _ (fun x hx => Option.some.inj hx), Ext.trans s0 he, fun h0 => OfK.ext (f9 (more_ne h0 rfl)) he, fun h0 => OfK.ext (f13 (more_ne h0 rfl)) he⟩)
                  have HU := Lib.hid (show (upd V 12 (.int .u64 (p.addr : Nat))) 5 = .bool true ∧ (upd V 12 (.int .u64 (p.addr : Nat))) 11 = .pointer (some ⟨B, 0, none⟩) from ⟨e5, e11⟩)
                  clear hK hC hW hL HV s0 f9 f13
                  rw [HFR.out]
                  rw [e5, e11]
                  clear e5 e11
                  have hcl := (show Cs W B _ _ from K4.out.ext hB).cell 0 (.int .u64 (p.addr : Nat)) rfl
                  clear hB
                  go_wp2_with fail
                  show K _ _
                  have := H.out _ (Ext.refl _)
                  rw [HFR.out] at this
                  obtain ⟨u5, u11⟩ := HU.out
                  rw [u5, u11] at this
                  exact this
                · rintro L A W K hL hC hW ⟨V, rfl, HV, s0, f9, f13⟩ hK
                  have e5 : V 5 = .bool true := HV 5 _ rfl (hW 5 rfl)
                  have e10 : V 10 = .agg #[.slice (some ⟨b, oo, none⟩) m.length cn] := HV 10 _ rfl (hW 10 rfl)
                  have e12 : V 12 = .int .u64 (p.addr : Nat) := HV 12 _ rfl (hW 12 rfl)
                  have hB := s0
                  have H := Lib.hid (show ∀ v W', Ext W W' → (OfK W' q v) → K (fr (upd V 13 v)) W' from fun v W' he hp => hK _ _ ⟨upd V 13 v, rfl, HV.up 13 _ (fun x hx => absurd hx (by intro h; cases h)), Ext.trans s0 he, fun h0 => OfK.ext (f9 (more_ne h0 rfl)) he, fun h0 => hp⟩)
                  have HU := Lib.hid (show ∀ v, (upd V 13 v) 5 = .bool true ∧ (upd V 13 v) 10 = .agg #[.slice (some ⟨b, oo, none⟩) m.length cn] ∧ (upd V 13 v) 12 = .int .u64 (p.addr : Nat) from fun v => ⟨e5, e10, e12⟩)
                  clear hK hC hW hL HV s0 f9 f13
                  rw [HFR.out]
                  rw [e5, e10, e12]
                  clear e5 e10 e12
                  have HB' := Lib.hid hB
                  clear hB
                  go_wp2_with fail
                  refine (HOB.out _ HB'.out).mono ?_
                  rintro e wx ⟨u', v', rfl, ho, he⟩
                  have := H.out _ _ he (⟨u', v', rfl, ho.1.bs, ho.2.pks⟩)
                  clear H
                  go_wp2_with fail
                  show K _ _
                  rw [HFR.out] at this
                  obtain ⟨u5, u10, u12⟩ := HU.out _
                  rw [u5, u10, u12] at this
                  exact this
                · rintro L A W K hL hC hW ⟨V, rfl, HV, s0, f9, f13⟩ hK
                  have e5 : V 5 = .bool true := HV 5 _ rfl (hW 5 rfl)
                  have hB := s0
                  have q9 := f9 (hW 9 rfl)
                  obtain ⟨u9, v9, e9, z9⟩ := q9
                  have q13 := f13 (hW 13 rfl)
                  obtain ⟨u13, v13, e13, z13⟩ := q13
                  have H := Lib.hid (show ∀ W', Ext W W' → K (fr (upd V 14 (.bool true))) W' from fun W' he => hK _ _ ⟨upd V 14 (.bool true), rfl, HV.up 14 _ (fun x hx => Option.some.inj hx), Ext.trans s0 he, fun h0 => OfK.ext (f9 (more_ne h0 rfl)) he, fun h0 => OfK.ext (f13 (more_ne h0 rfl)) he⟩)
                  have HU := Lib.hid (show (upd V 14 (.bool true)) 5 = .bool true ∧ (upd V 14 (.bool true)) 9 = .agg (acc q u9 v9) ∧ (upd V 14 (.bool true)) 13 = .agg (acc q u13 v13) from ⟨e5, e9, e13⟩)
                  clear hK hC hW hL HV s0 f9 f13
                  rw [HFR.out]
                  rw [e5, e9, e13]
                  clear e5 e9 e13
                  clear hB
                  have Z9 := Lib.hid z9
                  have Z13 := Lib.hid z13
                  clear z9 z13
                  go_wp2_with fail
                  refine (HSM.out _ _ _ _ _ Z9.out.1 Z9.out.2 Z13.out.1 Z13.out.2).mono ?_
                  rintro e wx ⟨rfl, he⟩
                  have := H.out _ he
                  clear H
                  go_wp2_with fail
                  show K _ _
                  rw [HFR.out] at this
                  obtain ⟨u5, u9, u13⟩ := HU.out
                  rw [u5, u9, u13] at this
                  exact this
                · rintro L A W K hL hC hW ⟨V, rfl, HV, s0, f9, f13⟩ hK
                  have e5 : V 5 = .bool true := HV 5 _ rfl (hW 5 rfl)
                  have e14 : V 14 = .bool true := HV 14 _ rfl (hW 14 rfl)
                  have H := Lib.hid (show ∀ W', Ext W W' → K (fr (upd V 15 (.bool false))) W' from fun W' he => hK _ _ ⟨upd V 15 (.bool false), rfl, HV.up 15 _ (fun x hx => Option.some.inj hx), Ext.trans s0 he, fun h0 => OfK.ext (f9 (more_ne h0 rfl)) he, fun h0 => OfK.ext (f13 (more_ne h0 rfl)) he⟩)
                  have HU := Lib.hid (show (upd V 15 (.bool false)) 5 = .bool true ∧ (upd V 15 (.bool false)) 14 = .bool true from ⟨e5, e14⟩)
                  clear hK hC hW hL HV s0 f9 f13
                  rw [HFR.out]
                  rw [e5, e14]
                  clear e5 e14
                  go_wp2_with fail
                  show K _ _
                  have := H.out _ (Ext.refl _)
                  rw [HFR.out] at this
                  obtain ⟨u5, u14⟩ := HU.out
                  rw [u5, u14] at this
                  exact this
                · rintro L A W K hL hC hW ⟨V, rfl, HV, s0, f9, f13⟩ hK
                  have e5 : V 5 = .bool true := HV 5 _ rfl (hW 5 rfl)
                  have e15 : V 15 = .bool false := HV 15 _ rfl (hW 15 rfl)
                  have H := Lib.hid (show ∀ W', Ext W W' → K (fr (upd V 16 (.bool false))) W' from fun W' he => hK _ _ ⟨upd V 16 (.bool false), rfl, HV.up 16 _ (fun x hx => Option.some.inj hx), Ext.trans s0 he, fun h0 => OfK.ext (f9 (more_ne h0 rfl)) he, fun h0 => OfK.ext (f13 (more_ne h0 rfl)) he⟩)
                  have HU := Lib.hid (show (upd V 16 (.bool false)) 5 = .bool true ∧ (upd V 16 (.bool false)) 15 = .bool false from ⟨e5, e15⟩)
                  clear hK hC hW hL HV s0 f9 f13
                  rw [HFR.out]
                  rw [e5, e15]
                  clear e5 e15
                  go_wp2_with fail
                  show K _ _
                  have := H.out _ (Ext.refl _)
                  rw [HFR.out] at this
                  obtain ⟨u5, u15⟩ := HU.out
                  rw [u5, u15] at this
                  exact this
                · rintro L A W hL ⟨V, rfl, HV, s0, f9, f13⟩
                  have e0 : V 0 = .map (some gm) := HV 0 _ rfl (hL 0 (by simp))
                  have e1 : V 1 = .pointer (some ⟨B, 0, none⟩) := HV 1 _ rfl (hL 1 (by simp))
                  have e2 : V 2 = .int .u64 (p.addr : Nat) := HV 2 _ rfl (hL 2 (by simp))
                  have e3 : V 3 = .bool false := HV 3 _ rfl (hL 3 (by simp))
                  have e4 : V 4 = .bool true := HV 4 _ rfl (hL 4 (by simp))
                  have e5 : V 5 = .bool true := HV 5 _ rfl (hL 5 (by simp))
                  have e6 : V 6 = .agg #[.slice As l.length cs] := HV 6 _ rfl (hL 6 (by simp))
                  have e7 : V 7 = .pointer (some ⟨B, 0, none⟩) := HV 7 _ rfl (hL 7 (by simp))
                  have e8 : V 8 = .int .u64 (p.addr : Nat) := HV 8 _ rfl (hL 8 (by simp))
                  have e10 : V 10 = .agg #[.slice (some ⟨b, oo, none⟩) m.length cn] := HV 10 _ rfl (hL 10 (by simp))
                  have e11 : V 11 = .pointer (some ⟨B, 0, none⟩) := HV 11 _ rfl (hL 11 (by simp))
                  have e12 : V 12 = .int .u64 (p.addr : Nat) := HV 12 _ rfl (hL 12 (by simp))
                  have e14 : V 14 = .bool true := HV 14 _ rfl (hL 14 (by simp))
                  have e15 : V 15 = .bool false := HV 15 _ rfl (hL 15 (by simp))
                  have e16 : V 16 = .bool false := HV 16 _ rfl (hL 16 (by simp))
                  have hA := s0
                  have p84 := f9 (hL 9 (by simp))
                  have p88 := f13 (hL 13 (by simp))
                  rw [HFR.out]
                  rw [e0, e1, e2, e3, e4, e5, e6, e7, e8, e10, e11, e12, e14, e15, e16]
                  clear hL HV HFR e0 e1 e2 e3 e4 e5 e6 e7 e8 e10 e11 e12 e14 e15 e16 s0 f9 f13
                  have HA4 := Lib.hid hA
                  clear hA
                  go_wp2_with fail
                  exact ⟨⟨k + 1, by omega, by go_num, Lib.hid (HE4.out.trans HA4.out)⟩, by simp [intOf]; omega⟩
            · obtain rfl : k = m.length := by omega
              go_wp2_with fail
              exact ⟨⟨2, by omega, by go_num, HE⟩, by simp [intOf]⟩
        · go_upto_region 27 with fail
          have HF1 := Lib.hid HKP.out.rl.fits
          have HF2 := Lib.hid HKP.out.rm.fits
          have HS1 := Lib.hid (totN_rt HOK.out HKP.out.rl)
          have HS2 := Lib.hid (totN_rt HKP.out.okm HKP.out.rm)
          obtain ⟨t1, ht1⟩ : ∃ t, (bals l).sum = t := ⟨_, rfl⟩
          obtain ⟨t2, ht2⟩ : ∃ t, (bals m).sum = t := ⟨_, rfl⟩
          rw [ht1] at HF1 HS1
          rw [ht2] at HF2 HS2
          have HTT := Lib.hid (And.intro ht1 ht2)
          clear ht1 ht2
          have HT1 := Lib.hid (fun W (h : Ext wr W) => show Calls Try.prog 17 #[.agg #[.slice As l.length cs]] W (fun e w' => e = .returned (wv t1) ∧ Ext W w') by
            have := stateTotal_any _ l W (HA.out.ext (HE.out.trans h)) (by have := HL.out; omega)
            rw [HS1.out] at this
            exact this)
          have HT2 := Lib.hid (fun W (h : Ext wr W) => show Calls Try.prog 17 #[.agg #[.slice An m.length cn]] W (fun e w' => e = .returned (wv t2) ∧ Ext W w') by
            have := stateTotal_any _ m W (HB.out.ext (HE.out.trans h)) (by have := HBL.out; omega)
            rw [HS2.out] at this
            exact this)
          refine wp_named fun a0 ha0 => ?_
          obtain ⟨fr, hfr⟩ : ∃ fr : (Nat → Value) → Act, ∀ V, fr V = ((((((a0.put (some 94) (V 0)).put (some 95) (V 1)).put (some 96) (V 2)).put (some 97) (V 3)).put (some 14) (V 4)).put (some 15) (V 5)) := ⟨fun V => ((((((a0.put (some 94) (V 0)).put (some 95) (V 1)).put (some 96) (V 2)).put (some 97) (V 3)).put (some 14) (V 4)).put (some 15) (V 5)), fun _ => rfl⟩
          rw [ha0] at hfr
          simp only [Act.put, List.setIfInBounds_toArray, List.set_cons_zero, List.set_cons_succ] at hfr
          have HFR := Lib.hid hfr
          clear hfr
          refine wp_region_inv (by kernel_rfl) (by kernel_rfl) (fun L A W => ∃ V : Nat → Value, A = fr V ∧ Vals (fun j => ([some (.agg #[.slice As l.length cs]), none, some (.agg #[.slice An m.length cn]), none, none, none, none, none] : List (Option Value)).getD j none) L V ∧ (L 6 = true → L 4 = true) ∧ (L 7 = true → L 5 = true) ∧ PrI 31 ((wc 0)) wr.heap.size (WdP t1) (WdP t2) wr (L 1) (L 3) (L 4) (L 5) (L 6) (L 7) (V 1) (V 3) (V 4) (V 5) W) ?_ ⟨?_, ?_, ?_, ?_, ?_, ?_, ?_, ?_, trivial⟩ ?_
          · refine ⟨fun j => a0.tmps.getD (([94, 95, 96, 97, 14, 15, 0, 0] : List Nat).getD j 0) undef, ?_, Vals.no _ _ _ (far_none _ _ rfl), (by decide), (by decide), (Ext.refl _).drew, (fun h => absurd h (by decide)), (fun h => absurd h (by decide)), (fun h => absurd h (by decide)), (fun h => absurd h (by decide)), (fun h => absurd h (by decide)), (fun h => absurd h (by decide)), (fun h => absurd h (by decide))⟩
            rw [HFR.out, ha0]
            rfl
          all_goals clear ha0
          · rintro L A W K hL hC hW ⟨V, rfl, HV, l1, l2, s0⟩ hK
            have H := Lib.hid (show K (fr (upd V 0 (.agg #[.slice As l.length cs]))) W from hK _ _ ⟨upd V 0 (.agg #[.slice As l.length cs]), rfl, HV.up 0 _ (fun x hx => Option.some.inj hx), (by unfold More; rw [if_neg (by decide), if_neg (by decide)]; exact l1), (by unfold More; rw [if_neg (by decide), if_neg (by decide)]; exact l2), by simpa [More, upd] using s0⟩)
            have hE := s0.1
            have hcl := (Cs.ext HG5.out (HE.out.trans hE)).cell 0 _ rfl
            clear hK hC hW hL HV l1 l2 s0 hE
            rw [HFR.out]
            go_wp2_with fail
            show K _ _
            have := H.out
            rw [HFR.out] at this
            exact this
          · rintro L A W K hL hC hW ⟨V, rfl, HV, l1, l2, s0⟩ hK
            have e0 : V 0 = .agg #[.slice As l.length cs] := HV 0 _ rfl (hW 0 rfl)
            have s0' : PrI 31 ((wc 0)) wr.heap.size (WdP t1) (WdP t2) wr (L 1) (L 3) (L 4) (L 5) (L 6) (L 7) (V 1) (V 3) (V 4) (V 5) W := s0
            rw [(hC.no hL 6 _ rfl rfl)] at s0'
            have H := Lib.hid (show ∀ v W', Ext W W' → (WdP t1) W' v → K (fr (upd V 1 v)) W' from fun v W' he hv => hK _ _ ⟨upd V 1 v, rfl, HV.up 1 _ (fun x hx => absurd hx (by intro h; cases h)), (by unfold More; rw [if_neg (by decide), if_neg (by decide)]; exact l1), (by unfold More; rw [if_neg (by decide), if_neg (by decide)]; exact l2), by simpa [More, upd, (hC.no hL 6 _ rfl rfl)] using (PrI.call (WdP.pk wr.heap.size _) (WdP.pk wr.heap.size _) s0' he hv)⟩)
            have HU := Lib.hid (show ∀ v, (upd V 1 v) 0 = .agg #[.slice As l.length cs] from fun v => e0)
            have hE := s0.1
            have HS0 := Lib.hid hE
            clear hK hC hW hL HV l1 l2 s0 s0' hE
            rw [HFR.out]
            rw [e0]
            clear e0
            go_wp2_with fail
            have hE := HS0.out
            refine (HT1.out _ hE).mono ?_
            rintro e wx ⟨rfl, he⟩
            have := H.out _ _ he (rfl)
            clear H
            go_wp2_with fail
            show K _ _
            rw [HFR.out] at this
            obtain u0 := HU.out _
            rw [u0] at this
            exact this
          · rintro L A W K hL hC hW ⟨V, rfl, HV, l1, l2, s0⟩ hK
            have H := Lib.hid (show K (fr (upd V 2 (.agg #[.slice An m.length cn]))) W from hK _ _ ⟨upd V 2 (.agg #[.slice An m.length cn]), rfl, HV.up 2 _ (fun x hx => Option.some.inj hx), (by unfold More; rw [if_neg (by decide), if_neg (by decide)]; exact l1), (by unfold More; rw [if_neg (by decide), if_neg (by decide)]; exact l2), by simpa [More, upd] using s0⟩)
            have hE := s0.1
            have hcl := (Cs.ext HG6.out (HE.out.trans hE)).cell 0 _ rfl
            clear hK hC hW hL HV l1 l2 s0 hE
            rw [HFR.out]
            go_wp2_with fail
            show K _ _
            have := H.out
            rw [HFR.out] at this
            exact this
          · rintro L A W K hL hC hW ⟨V, rfl, HV, l1, l2, s0⟩ hK
            have e2 : V 2 = .agg #[.slice An m.length cn] := HV 2 _ rfl (hW 2 rfl)
            have s0' : PrI 31 ((wc 0)) wr.heap.size (WdP t1) (WdP t2) wr (L 1) (L 3) (L 4) (L 5) (L 6) (L 7) (V 1) (V 3) (V 4) (V 5) W := s0
            rw [(hC.no hL 7 _ rfl rfl)] at s0'
            have H := Lib.hid (show ∀ v W', Ext W W' → (WdP t2) W' v → K (fr (upd V 3 v)) W' from fun v W' he hv => hK _ _ ⟨upd V 3 v, rfl, HV.up 3 _ (fun x hx => absurd hx (by intro h; cases h)), (by unfold More; rw [if_neg (by decide), if_neg (by decide)]; exact l1), (by unfold More; rw [if_neg (by decide), if_neg (by decide)]; exact l2), by simpa [More, upd, (hC.no hL 7 _ rfl rfl)] using (PrI.call (WdP.pk wr.heap.size _) (WdP.pk wr.heap.size _) s0'.swap he hv).swap⟩)
            have HU := Lib.hid (show ∀ v, (upd V 3 v) 2 = .agg #[.slice An m.length cn] from fun v => e2)
            have hE := s0.1
            have HS0 := Lib.hid hE
            clear hK hC hW hL HV l1 l2 s0 s0' hE
            rw [HFR.out]
            rw [e2]
            clear e2
            go_wp2_with fail
            have hE := HS0.out
            refine (HT2.out _ hE).mono ?_
            rintro e wx ⟨rfl, he⟩
            have := H.out _ _ he (rfl)
            clear H
            go_wp2_with fail
            show K _ _
            rw [HFR.out] at this
            obtain u2 := HU.out _
            rw [u2] at this
            exact this
          · rintro L A W K hL hC hW ⟨V, rfl, HV, l1, l2, s0⟩ hK
            have s0' : PrI 31 ((wc 0)) wr.heap.size (WdP t1) (WdP t2) wr (L 1) (L 3) (L 4) (L 5) (L 6) (L 7) (V 1) (V 3) (V 4) (V 5) W := s0
            rw [(hC.no hL 6 _ rfl rfl)] at s0'
            have H := Lib.hid (show K (fr (upd V 4 (.pointer (some ⟨W.heap.size, 0, none⟩)))) (W.alloc (.cells ((wc 0)) 31)) from hK _ _ ⟨upd V 4 (.pointer (some ⟨W.heap.size, 0, none⟩)), rfl, HV.up 4 _ (fun x hx => absurd hx (by intro h; cases h)), (fun _ => by unfold More; exact if_pos rfl), (by unfold More; rw [if_neg (by decide), if_neg (by decide)]; exact l2), by simpa [More, upd, (hC.no hL 6 _ rfl rfl)] using (PrI.alloc (WdP.pk wr.heap.size _) (WdP.pk wr.heap.size _) (Nat.le_refl _) s0')⟩)
            clear hK hC hW hL HV l1 l2 s0 s0'
            rw [HFR.out]
            go_wp2_with fail
            show K _ _
            have := H.out
            rw [HFR.out] at this
            exact this
          · rintro L A W K hL hC hW ⟨V, rfl, HV, l1, l2, s0⟩ hK
            have s0' : PrI 31 ((wc 0)) wr.heap.size (WdP t1) (WdP t2) wr (L 1) (L 3) (L 4) (L 5) (L 6) (L 7) (V 1) (V 3) (V 4) (V 5) W := s0
            rw [(hC.no hL 7 _ rfl rfl)] at s0'
            have H := Lib.hid (show K (fr (upd V 5 (.pointer (some ⟨W.heap.size, 0, none⟩)))) (W.alloc (.cells ((wc 0)) 31)) from hK _ _ ⟨upd V 5 (.pointer (some ⟨W.heap.size, 0, none⟩)), rfl, HV.up 5 _ (fun x hx => absurd hx (by intro h; cases h)), (by unfold More; rw [if_neg (by decide), if_neg (by decide)]; exact l1), (fun _ => by unfold More; exact if_pos rfl), by simpa [More, upd, (hC.no hL 7 _ rfl rfl)] using (PrI.alloc (WdP.pk wr.heap.size _) (WdP.pk wr.heap.size _) (Nat.le_refl _) s0'.swap).swap⟩)
            clear hK hC hW hL HV l1 l2 s0 s0'
            rw [HFR.out]
            go_wp2_with fail
            show K _ _
            have := H.out
            rw [HFR.out] at this
            exact this
          · rintro L A W K hL hC hW ⟨V, rfl, HV, l1, l2, s0⟩ hK
            have s0' : PrI 31 ((wc 0)) wr.heap.size (WdP t1) (WdP t2) wr (L 1) (L 3) (L 4) (L 5) (L 6) (L 7) (V 1) (V 3) (V 4) (V 5) W := s0
            rw [hW 1 rfl, hW 4 rfl, hL] at s0'
            obtain ⟨g, eg, hlo, hcg⟩ := s0'.2.2.2.1 rfl rfl
            obtain ⟨cs, ev, hcn, hone⟩ := Pk.agg (WdP.pk wr.heap.size _) (s0'.2.1 rfl)
            rw [eg, ev] at s0'
            have HN := Lib.hid (fun (W' : World) (hc : Cs W' g 31 cs) (hg : W.grownBy W' (some g)) => (PrI.store (WdP.pk wr.heap.size _) (WdP.pk wr.heap.size _) (Nat.le_refl _) s0' l2 hc hg))
            have H := Lib.hid (show ∀ W', Cs W' g 31 cs → W.grownBy W' (some g) → K (fr V) W' from fun W' hc hg => hK _ _ ⟨V, rfl, HV.st 6 rfl, (fun _ => by unfold More; rw [if_neg (by decide)]; exact hW 4 rfl), (by unfold More; rw [if_neg (by decide), if_neg (by decide)]; exact l2), by rw [eg, ev]; simpa [More, hW 1 rfl, hW 4 rfl] using HN.out W' hc hg⟩)
            have HCG := Lib.hid hcg
            have HU := Lib.hid (show V 4 = .pointer (some ⟨g, 0, none⟩) ∧ V 1 = .agg cs from ⟨eg, ev⟩)
            clear hK hC hW hL HV l1 l2 s0 s0' HN hlo hcg
            rw [HFR.out]
            rw [eg, ev]
            clear eg ev
            refine wpList_store_agg rfl rfl 31 (.tmp 14) (.tmp 95) rfl winfo g ((wc 0)) cs hone rfl rfl HCG.out (by first | rfl | simp [wc]) hcn ?_
            intro W' hc hg
            show K _ _
            have := H.out _ hc hg
            rw [HFR.out] at this
            rw [HU.out.1, HU.out.2] at this
            exact this
          · rintro L A W K hL hC hW ⟨V, rfl, HV, l1, l2, s0⟩ hK
            have s0' : PrI 31 ((wc 0)) wr.heap.size (WdP t1) (WdP t2) wr (L 1) (L 3) (L 4) (L 5) (L 6) (L 7) (V 1) (V 3) (V 4) (V 5) W := s0
            rw [hW 3 rfl, hW 5 rfl, hL] at s0'
            obtain ⟨g, eg, hlo, hcg⟩ := s0'.2.2.2.2.1 rfl rfl
            obtain ⟨cs, ev, hcn, hone⟩ := Pk.agg (WdP.pk wr.heap.size _) (s0'.2.2.1 rfl)
            rw [eg, ev] at s0'
            have HN := Lib.hid (fun (W' : World) (hc : Cs W' g 31 cs) (hg : W.grownBy W' (some g)) => (PrI.store (WdP.pk wr.heap.size _) (WdP.pk wr.heap.size _) (Nat.le_refl _) s0'.swap l1 hc hg).swap)
            have H := Lib.hid (show ∀ W', Cs W' g 31 cs → W.grownBy W' (some g) → K (fr V) W' from fun W' hc hg => hK _ _ ⟨V, rfl, HV.st 7 rfl, (by unfold More; rw [if_neg (by decide), if_neg (by decide)]; exact l1), (fun _ => by unfold More; rw [if_neg (by decide)]; exact hW 5 rfl), by rw [eg, ev]; simpa [More, hW 3 rfl, hW 5 rfl] using HN.out W' hc hg⟩)
            have HCG := Lib.hid hcg
            have HU := Lib.hid (show V 5 = .pointer (some ⟨g, 0, none⟩) ∧ V 3 = .agg cs from ⟨eg, ev⟩)
            clear hK hC hW hL HV l1 l2 s0 s0' HN hlo hcg
            rw [HFR.out]
            rw [eg, ev]
            clear eg ev
            refine wpList_store_agg rfl rfl 31 (.tmp 15) (.tmp 97) rfl winfo g ((wc 0)) cs hone rfl rfl HCG.out (by first | rfl | simp [wc]) hcn ?_
            intro W' hc hg
            show K _ _
            have := H.out _ hc hg
            rw [HFR.out] at this
            rw [HU.out.1, HU.out.2] at this
            exact this
          · rintro L A W hL ⟨V, rfl, HV, l1, l2, s0⟩
            rw [show L 1 = true from hL 1 (by simp), show L 3 = true from hL 3 (by simp), show L 4 = true from hL 4 (by simp), show L 5 = true from hL 5 (by simp), show L 6 = true from hL 6 (by simp), show L 7 = true from hL 7 (by simp)] at s0
            obtain ⟨z0, z1, z2, z3, z4, z5, z6, z7⟩ := s0
            clear l1 l2
            obtain ea := z1 rfl
            obtain ⟨cx, ex, g1x, eg1, hb1, hc1⟩ := z5 rfl
            obtain rfl : cx = wc t1 := by have ey := ex.symm.trans ea; injection ey
            clear ex
            obtain eb := z2 rfl
            obtain ⟨cx, ex, g2x, eg2, hb2, hc2⟩ := z6 rfl
            obtain rfl : cx = wc t2 := by have ey := ex.symm.trans eb; injection ey
            clear ex
            have hne12 : g1x ≠ g2x := fun e => z7 rfl rfl (by rw [eg1, eg2, e])
            rw [HFR.out]
            rw [eg1, eg2]
            clear hL HV HFR z1 z2 z5 z6 z7 eg1 eg2
            generalize hWW : W = wb at *
            clear hWW W
            have HXb := Lib.hid (HE.out.trans z0)
            have HEF := Lib.hid (HE9.out.trans HXb.out)
            have HC1 := Lib.hid hc1
            have HC2 := Lib.hid hc2
            clear z0 hc1 hc2 ea eb hb1 hb2 HT1 HT2 HS1 HS2 HT HTB HEQ HE
            replace HG3 := Lib.hid (Cs.ext HG3.out HXb.out)
            replace HG5 := Lib.hid (Cs.ext HG5.out HXb.out)
            replace HA := Lib.hid (HA.out.ext HXb.out)
            replace HB := Lib.hid (HB.out.ext HXb.out)
            replace HG6 := Lib.hid (Cs.ext HG6.out HXb.out)
            clear HXb
            rcases HKC.out with hk | hk | hk | hk | hk
            · have HPU := Lib.hid (show ofA m o.ac.addr = oneA o.ac by rw [ofA_right HRb.out]; exact HKP.out.put hk)
              rw [hk]
              go_upto_region 30 with fail
              have HOC := Lib.hid (fun W (h : Ext wb W) => by
                have := stateOf_any _ m o.ac.addr W (HB.out.ext h) HO.out.2.2.2.2.2.2.1 (by have := HBL.out; omega)
                rw [HPU.out] at this
                exact this)
              have HON := Lib.hid (fun W (h : Ext wb W) => one_any o.ac uo vo W (HU.out.ext (HEF.out.trans h)) (HV.out.ext (HEF.out.trans h)))
              have HQK := Lib.hid (show (oneA o.ac).ok from HO.out.2.2.2.2.2.2)
              clear HPU
              generalize oneA o.ac = q at *
              have HSM := Lib.hid (fun W u v u' v' (hu : Bs W u q.code) (hv : Pks W v q.store) (hu' : Bs W u' q.code) (hv' : Pks W v' q.store) => show Calls Try.prog 15 #[.agg (acc q u v), .agg (acc q u' v')] W (fun e w' => e = .returned (.bool true) ∧ Ext W w') by
                have := lawSame_any q q u v u' v' W HQK.out HQK.out hu hv hu' hv'
                rw [(Ac.eqB_iff q q).2 rfl] at this
                exact this)
              refine wp_named fun a0 ha0 => ?_
              obtain ⟨fr, hfr⟩ : ∃ fr : (Nat → Value) → Act, ∀ V, fr V = ((((((((((a0.put (some 101) (V 0)).put (some 102) (V 1)).put (some 103) (V 2)).put (some 104) (V 3)).put (some 105) (V 4)).put (some 106) (V 5)).put (some 107) (V 6)).put (some 108) (V 7)).put (some 109) (V 8)).put (some 4) (V 9)) := ⟨fun V => ((((((((((a0.put (some 101) (V 0)).put (some 102) (V 1)).put (some 103) (V 2)).put (some 104) (V 3)).put (some 105) (V 4)).put (some 106) (V 5)).put (some 107) (V 6)).put (some 108) (V 7)).put (some 109) (V 8)).put (some 4) (V 9)), fun _ => rfl⟩
              rw [ha0] at hfr
              simp only [Act.put, List.setIfInBounds_toArray, List.set_cons_zero, List.set_cons_succ] at hfr
              have HFR := Lib.hid hfr
              clear hfr
              refine wp_region_inv (by kernel_rfl) (by kernel_rfl) (fun L A W => ∃ V : Nat → Value, A = fr V ∧ Vals (fun j => ([some (.agg #[.slice An m.length cn]), some (.pointer (some ⟨g3, 15, none⟩)), some (.pointer (some ⟨g3, 15, none⟩)), some (.int .u64 (o.ac.addr : Nat)), none, some (.pointer (some ⟨g3, 15, none⟩)), some (.agg (acc o.ac uo vo)), none, some (.bool true), some (.bool true)] : List (Option Value)).getD j none) L V ∧ (Ext wb W) ∧ (L 4 = true → OfK W q (V 4)) ∧ (L 7 = true → OfK W q (V 7))) ?_ ⟨?_, ?_, ?_, ?_, ?_, ?_, ?_, ?_, ?_, ?_, trivial⟩ ?_
              · refine ⟨fun j => a0.tmps.getD (([101, 102, 103, 104, 105, 106, 107, 108, 109, 4] : List Nat).getD j 0) undef, ?_, Vals.no _ _ _ (far_none _ _ rfl), (Ext.refl _).drew, fun h0 => absurd h0 (by decide), fun h0 => absurd h0 (by decide)⟩
                rw [HFR.out, ha0]
                rfl
              all_goals clear ha0
              · rintro L A W K hL hC hW ⟨V, rfl, HV, s0, f4, f7⟩ hK
                have hB := s0
                have H := Lib.hid (show ∀ W', Ext W W' → K (fr (upd V 0 (.agg #[.slice An m.length cn]))) W' from fun W' he => hK _ _ ⟨upd V 0 (.agg #[.slice An m.length cn]), rfl, HV.up 0 _ (fun x hx => Option.some.inj hx), Ext.trans s0 he, fun h0 => OfK.ext (f4 (more_ne h0 rfl)) he, fun h0 => OfK.ext (f7 (more_ne h0 rfl)) he⟩)
                clear hK hC hW hL HV s0 f4 f7
                rw [HFR.out]
                have hcl := (Cs.ext HG6.out hB).cell 0 _ rfl
                clear hB
                go_wp2_with fail
                show K _ _
                have := H.out _ (Ext.refl _)
                rw [HFR.out] at this
                exact this
              · rintro L A W K hL hC hW ⟨V, rfl, HV, s0, f4, f7⟩ hK
                have H := Lib.hid (show ∀ W', Ext W W' → K (fr (upd V 1 (.pointer (some ⟨g3, 15, none⟩)))) W' from fun W' he => hK _ _ ⟨upd V 1 (.pointer (some ⟨g3, 15, none⟩)), rfl, HV.up 1 _ (fun x hx => Option.some.inj hx), Ext.trans s0 he, fun h0 => OfK.ext (f4 (more_ne h0 rfl)) he, fun h0 => OfK.ext (f7 (more_ne h0 rfl)) he⟩)
                clear hK hC hW hL HV s0 f4 f7
                rw [HFR.out]
                go_wp2_with fail
                show K _ _
                have := H.out _ (Ext.refl _)
                rw [HFR.out] at this
                exact this
              · rintro L A W K hL hC hW ⟨V, rfl, HV, s0, f4, f7⟩ hK
                have e1 : V 1 = .pointer (some ⟨g3, 15, none⟩) := HV 1 _ rfl (hW 1 rfl)
                have H := Lib.hid (show ∀ W', Ext W W' → K (fr (upd V 2 (.pointer (some ⟨g3, 15, none⟩)))) W' from fun W' he => hK _ _ ⟨upd V 2 (.pointer (some ⟨g3, 15, none⟩)), rfl, HV.up 2 _ (fun x hx => Option.some.inj hx), Ext.trans s0 he, fun h0 => OfK.ext (f4 (more_ne h0 rfl)) he, fun h0 => OfK.ext (f7 (more_ne h0 rfl)) he⟩)
                have HU := Lib.hid (show (upd V 2 (.pointer (some ⟨g3, 15, none⟩))) 1 = .pointer (some ⟨g3, 15, none⟩) from e1)
                clear hK hC hW hL HV s0 f4 f7
                rw [HFR.out]
                rw [e1]
                clear e1
                go_wp2_with fail
                show K _ _
                have := H.out _ (Ext.refl _)
                rw [HFR.out] at this
                obtain u1 := HU.out
                rw [u1] at this
                exact this
              · rintro L A W K hL hC hW ⟨V, rfl, HV, s0, f4, f7⟩ hK
                have e2 : V 2 = .pointer (some ⟨g3, 15, none⟩) := HV 2 _ rfl (hW 2 rfl)
                have hB := s0
                have H := Lib.hid (show ∀ W', Ext W W' → K (fr (upd V 3 (.int .u64 (o.ac.addr : Nat)))) W' from fun W' he => hK _ _ ⟨upd V 3 (.int .u64 (o.ac.addr : Nat)), rfl, HV.up 3 _ (fun x hx => Option.some.inj hx), Ext.trans s0 he, fun h0 => OfK.ext (f4 (more_ne h0 rfl)) he, fun h0 => OfK.ext (f7 (more_ne h0 rfl)) he⟩)
                have HU := Lib.hid (show (upd V 3 (.int .u64 (o.ac.addr : Nat))) 2 = .pointer (some ⟨g3, 15, none⟩) from e2)
                clear hK hC hW hL HV s0 f4 f7
                rw [HFR.out]
                rw [e2]
                clear e2
                have hcl := (Cs.ext HG3.out hB).cell 15 _ rfl
                clear hB
                go_wp2_with fail
                show K _ _
                have := H.out _ (Ext.refl _)
                rw [HFR.out] at this
                obtain u2 := HU.out
                rw [u2] at this
                exact this
              · rintro L A W K hL hC hW ⟨V, rfl, HV, s0, f4, f7⟩ hK
                have e0 : V 0 = .agg #[.slice An m.length cn] := HV 0 _ rfl (hW 0 rfl)
                have e3 : V 3 = .int .u64 (o.ac.addr : Nat) := HV 3 _ rfl (hW 3 rfl)
                have hB := s0
                have H := Lib.hid (show ∀ v W', Ext W W' → (OfK W' q v) → K (fr (upd V 4 v)) W' from fun v W' he hp => hK _ _ ⟨upd V 4 v, rfl, HV.up 4 _ (fun x hx => absurd hx (by intro h; cases h)), Ext.trans s0 he, fun h0 => hp, fun h0 => OfK.ext (f7 (more_ne h0 rfl)) he⟩)
                have HU := Lib.hid (show ∀ v, (upd V 4 v) 0 = .agg #[.slice An m.length cn] ∧ (upd V 4 v) 3 = .int .u64 (o.ac.addr : Nat) from fun v => ⟨e0, e3⟩)
                clear hK hC hW hL HV s0 f4 f7
                rw [HFR.out]
                rw [e0, e3]
                clear e0 e3
                have HB' := Lib.hid hB
                clear hB
                go_wp2_with fail
                refine (HOC.out _ HB'.out).mono ?_
                rintro e wx ⟨u', v', rfl, ho, he⟩
                have := H.out _ _ he (⟨u', v', rfl, ho.1.bs, ho.2.pks⟩)
                clear H
                go_wp2_with fail
                show K _ _
                rw [HFR.out] at this
                obtain ⟨u0, u3⟩ := HU.out _
                rw [u0, u3] at this
                exact this
              · rintro L A W K hL hC hW ⟨V, rfl, HV, s0, f4, f7⟩ hK
                have H := Lib.hid (show ∀ W', Ext W W' → K (fr (upd V 5 (.pointer (some ⟨g3, 15, none⟩)))) W' from fun W' he => hK _ _ ⟨upd V 5 (.pointer (some ⟨g3, 15, none⟩)), rfl, HV.up 5 _ (fun x hx => Option.some.inj hx), Ext.trans s0 he, fun h0 => OfK.ext (f4 (more_ne h0 rfl)) he, fun h0 => OfK.ext (f7 (more_ne h0 rfl)) he⟩)
                clear hK hC hW hL HV s0 f4 f7
                rw [HFR.out]
                go_wp2_with fail
                show K _ _
                have := H.out _ (Ext.refl _)
                rw [HFR.out] at this
                exact this
              · rintro L A W K hL hC hW ⟨V, rfl, HV, s0, f4, f7⟩ hK
                have e5 : V 5 = .pointer (some ⟨g3, 15, none⟩) := HV 5 _ rfl (hW 5 rfl)
                have hB := s0
                have H := Lib.hid (show ∀ W', Ext W W' → K (fr (upd V 6 (.agg (acc o.ac uo vo)))) W' from fun W' he => hK _ _ ⟨upd V 6 (.agg (acc o.ac uo vo)), rfl, HV.up 6 _ (fun x hx => Option.some.inj hx), Ext.trans s0 he, fun h0 => OfK.ext (f4 (more_ne h0 rfl)) he, fun h0 => OfK.ext (f7 (more_ne h0 rfl)) he⟩)
                have HU := Lib.hid (show (upd V 6 (.agg (acc o.ac uo vo))) 5 = .pointer (some ⟨g3, 15, none⟩) from e5)
                clear hK hC hW hL HV s0 f4 f7
                rw [HFR.out]
                rw [e5]
                clear e5
                have HCR := Lib.hid (op_range (Cs.ext HG3.out hB)).2
                clear hB
                refine wpList_load_ac rfl (.tmp 106) rfl g3 15 o.ac uo vo rfl HCR.out ?_
                show K _ _
                have := H.out _ (Ext.refl _)
                rw [HFR.out] at this
                obtain u5 := HU.out
                rw [u5] at this
                exact this
              · rintro L A W K hL hC hW ⟨V, rfl, HV, s0, f4, f7⟩ hK
                have e6 : V 6 = .agg (acc o.ac uo vo) := HV 6 _ rfl (hW 6 rfl)
                have hB := s0
                have H := Lib.hid (show ∀ v W', Ext W W' → (OfK W' q v) → K (fr (upd V 7 v)) W' from fun v W' he hp => hK _ _ ⟨upd V 7 v, rfl, HV.up 7 _ (fun x hx => absurd hx (by intro h; cases h)), Ext.trans s0 he, fun h0 => OfK.ext (f4 (more_ne h0 rfl)) he, fun h0 => hp⟩)
                have HU := Lib.hid (show ∀ v, (upd V 7 v) 6 = .agg (acc o.ac uo vo) from fun v => e6)
                clear hK hC hW hL HV s0 f4 f7
                rw [HFR.out]
                rw [e6]
                clear e6
                have HB' := Lib.hid hB
                clear hB
                go_wp2_with fail
                refine (HON.out _ HB'.out).mono ?_
                rintro e wx ⟨u', v', rfl, ho, he⟩
                have := H.out _ _ he (⟨u', v', rfl, ho.1.bs, ho.2.pks⟩)
                clear H
                go_wp2_with fail
                show K _ _
                rw [HFR.out] at this
                obtain u6 := HU.out _
                rw [u6] at this
                exact this
              · rintro L A W K hL hC hW ⟨V, rfl, HV, s0, f4, f7⟩ hK
                have hB := s0
                have q4 := f4 (hW 4 rfl)
                obtain ⟨u4, v4, e4, z4⟩ := q4
                have q7 := f7 (hW 7 rfl)
                obtain ⟨u7, v7, e7, z7⟩ := q7
                have H := Lib.hid (show ∀ W', Ext W W' → K (fr (upd V 8 (.bool true))) W' from fun W' he => hK _ _ ⟨upd V 8 (.bool true), rfl, HV.up 8 _ (fun x hx => Option.some.inj hx), Ext.trans s0 he, fun h0 => OfK.ext (f4 (more_ne h0 rfl)) he, fun h0 => OfK.ext (f7 (more_ne h0 rfl)) he⟩)
                have HU := Lib.hid (show (upd V 8 (.bool true)) 4 = .agg (acc q u4 v4) ∧ (upd V 8 (.bool true)) 7 = .agg (acc q u7 v7) from ⟨e4, e7⟩)
                clear hK hC hW hL HV s0 f4 f7
                rw [HFR.out]
                rw [e4, e7]
                clear e4 e7
                clear hB
                have Z4 := Lib.hid z4
                have Z7 := Lib.hid z7
                clear z4 z7
                go_wp2_with fail
                refine (HSM.out _ _ _ _ _ Z4.out.1 Z4.out.2 Z7.out.1 Z7.out.2).mono ?_
                rintro e wx ⟨rfl, he⟩
                have := H.out _ he
                clear H
                go_wp2_with fail
                show K _ _
                rw [HFR.out] at this
                obtain ⟨u4, u7⟩ := HU.out
                rw [u4, u7] at this
                exact this
              · rintro L A W K hL hC hW ⟨V, rfl, HV, s0, f4, f7⟩ hK
                have e8 : V 8 = .bool true := HV 8 _ rfl (hW 8 rfl)
                have H := Lib.hid (show ∀ W', Ext W W' → K (fr (upd V 9 (.bool true))) W' from fun W' he => hK _ _ ⟨upd V 9 (.bool true), rfl, HV.up 9 _ (fun x hx => Option.some.inj hx), Ext.trans s0 he, fun h0 => OfK.ext (f4 (more_ne h0 rfl)) he, fun h0 => OfK.ext (f7 (more_ne h0 rfl)) he⟩)
                have HU := Lib.hid (show (upd V 9 (.bool true)) 8 = .bool true from e8)
                clear hK hC hW hL HV s0 f4 f7
                rw [HFR.out]
                rw [e8]
                clear e8
                go_wp2_with fail
                show K _ _
                have := H.out _ (Ext.refl _)
                rw [HFR.out] at this
                obtain u8 := HU.out
                rw [u8] at this
                exact this
              · rintro L A W hL ⟨V, rfl, HV, s0, f4, f7⟩
                have e0 : V 0 = .agg #[.slice An m.length cn] := HV 0 _ rfl (hL 0 (by simp))
                have e1 : V 1 = .pointer (some ⟨g3, 15, none⟩) := HV 1 _ rfl (hL 1 (by simp))
                have e2 : V 2 = .pointer (some ⟨g3, 15, none⟩) := HV 2 _ rfl (hL 2 (by simp))
                have e3 : V 3 = .int .u64 (o.ac.addr : Nat) := HV 3 _ rfl (hL 3 (by simp))
                have e5 : V 5 = .pointer (some ⟨g3, 15, none⟩) := HV 5 _ rfl (hL 5 (by simp))
                have e6 : V 6 = .agg (acc o.ac uo vo) := HV 6 _ rfl (hL 6 (by simp))
                have e8 : V 8 = .bool true := HV 8 _ rfl (hL 8 (by simp))
                have e9 : V 9 = .bool true := HV 9 _ rfl (hL 9 (by simp))
                have hA := s0
                have p105 := f4 (hL 4 (by simp))
                have p108 := f7 (hL 7 (by simp))
                rw [HFR.out]
                rw [e0, e1, e2, e3, e5, e6, e8, e9]
                clear hL HV HFR e0 e1 e2 e3 e5 e6 e8 e9 s0 f4 f7
                have HA4 := Lib.hid hA
                clear hA
                go_wp2_with fail
                go_ret
                exact ⟨rfl, HEF.out.trans HA4.out⟩
            · have HSV := Lib.hid (HKP.out.save hk)
              have HLN := Lib.hid (keeps_load HOK.out HKP.out HM.out hk)
              obtain rfl : t2 = t1 := by rw [← HTT.out.1, ← HTT.out.2]; exact HSV.out.2.2
              rw [hk]
              go_upto_region 32 with fail
              have HLD := Lib.hid (fun W (h : Ext wb W) => show Calls Try.prog 19 #[.agg #[.slice An m.length cn], .int .u64 (o.a : Nat), wv o.pr.1] W (fun e w' => e = .returned (wv o.pr.2) ∧ Ext W w') by
                have := stateLoad_any _ m o.a o.pr.1 W (HB.out.ext h) HO.out.2.1 (by have := HBL.out; omega) HO.out.2.2.2.2.1
                rw [HLN.out] at this
                exact this)
              have HOM := Lib.hid (fun W (h : Ext wb W) => stateOf_any _ m o.a W (HB.out.ext h) HO.out.2.1 (by have := HBL.out; omega))
              have HOL := Lib.hid (fun W (h : Ext wb W) => stateOf_any _ l o.a W (HA.out.ext h) HO.out.2.1 (by have := HL.out; omega))
              have HBE := Lib.hid (show (ofA m o.a).bal = (ofA l o.a).bal by rw [ofA_right HRa.out, ofA_right HRb.out]; exact HSV.out.2.1)
              have HBQ := Lib.hid (show (ofA l o.a).bal < M256 by rw [ofA_right HRa.out]; exact HKP.out.rl.bal_lt o.a)
              generalize ofA m o.a = qm at *
              generalize ofA l o.a = ql at *
              obtain ⟨bq, hbq⟩ : ∃ b, ql.bal = b := ⟨_, rfl⟩
              rw [hbq] at HBE HBQ
              have HFM := Lib.hid (fun u v W => show (Instr.field 37 (.agg (acc qm u v)) 1).run Try.prog W = .ok (wv bq) W by rw [← HBE.out]; exact fldK qm u v W)
              have HFL := Lib.hid (fun u v W => show (Instr.field 37 (.agg (acc ql u v)) 1).run Try.prog W = .ok (wv bq) W by rw [← hbq]; exact fldK ql u v W)
              clear hbq HBE HLN HSV
              refine wp_named fun a0 ha0 => ?_
              obtain ⟨fr, hfr⟩ : ∃ fr : (Nat → Value) → Act, ∀ V, fr V = ((((((((((((((((((((((((((((((a0.put (some 112) (V 0)).put (some 113) (V 1)).put (some 114) (V 2)).put (some 115) (V 3)).put (some 116) (V 4)).put (some 117) (V 5)).put (some 118) (V 6)).put (some 119) (V 7)).put (some 120) (V 8)).put (some 121) (V 9)).put (some 122) (V 10)).put (some 123) (V 11)).put (some 124) (V 12)).put (some 125) (V 13)).put (some 126) (V 14)).put (some 127) (V 15)).put (some 128) (V 16)).put (some 129) (V 17)).put (some 130) (V 18)).put (some 131) (V 19)).put (some 132) (V 20)).put (some 133) (V 21)).put (some 134) (V 22)).put (some 135) (V 23)).put (some 136) (V 24)).put (some 137) (V 25)).put (some 138) (V 26)).put (some 139) (V 27)).put (some 140) (V 28)).put (some 4) (V 29)) := ⟨fun V => ((((((((((((((((((((((((((((((a0.put (some 112) (V 0)).put (some 113) (V 1)).put (some 114) (V 2)).put (some 115) (V 3)).put (some 116) (V 4)).put (some 117) (V 5)).put (some 118) (V 6)).put (some 119) (V 7)).put (some 120) (V 8)).put (some 121) (V 9)).put (some 122) (V 10)).put (some 123) (V 11)).put (some 124) (V 12)).put (some 125) (V 13)).put (some 126) (V 14)).put (some 127) (V 15)).put (some 128) (V 16)).put (some 129) (V 17)).put (some 130) (V 18)).put (some 131) (V 19)).put (some 132) (V 20)).put (some 133) (V 21)).put (some 134) (V 22)).put (some 135) (V 23)).put (some 136) (V 24)).put (some 137) (V 25)).put (some 138) (V 26)).put (some 139) (V 27)).put (some 140) (V 28)).put (some 4) (V 29)), fun _ => rfl⟩
              rw [ha0] at hfr
              simp only [Act.put, List.setIfInBounds_toArray, List.set_cons_zero, List.set_cons_succ] at hfr
              have HFR := Lib.hid hfr
              clear hfr
              refine wp_region_inv (by kernel_rfl) (by kernel_rfl) (fun L A W => ∃ V : Nat → Value, A = fr V ∧ Vals (fun j => ([some (.agg #[.slice An m.length cn]), some (.pointer (some ⟨g3, 1, none⟩)), some (.int .u64 (o.a : Nat)), some (.pointer (some ⟨g3, 7, none⟩)), some (.pointer (some ⟨g3, 7, none⟩)), some (wv (o.pr.1)), some (wv (o.pr.2)), some (.pointer (some ⟨g3, 7, none⟩)), some (.pointer (some ⟨g3, 11, none⟩)), some (wv (o.pr.2)), some (.bool true), some (.bool true), some (wv (t2)), some (wv (t2)), some (.bool true), some (.bool true), some (.bool true), some (.agg #[.slice An m.length cn]), some (.pointer (some ⟨g3, 1, none⟩)), some (.int .u64 (o.a : Nat)), none, some (wv bq), some (.agg #[.slice As l.length cs]), some (.pointer (some ⟨g3, 1, none⟩)), some (.int .u64 (o.a : Nat)), none, some (wv bq), some (.bool true), some (.bool true), some (.bool true)] : List (Option Value)).getD j none) L V ∧ (Ext wb W) ∧ (L 20 = true → OfK W qm (V 20)) ∧ (L 25 = true → OfK W ql (V 25))) ?_ ⟨?_, ?_, ?_, ?_, ?_, ?_, ?_, ?_, ?_, ?_, ?_, ?_, ?_, ?_, ?_, ?_, ?_, ?_, ?_, ?_, ?_, ?_, ?_, ?_, ?_, ?_, ?_, ?_, ?_, ?_, trivial⟩ ?_
              · refine ⟨fun j => a0.tmps.getD (([112, 113, 114, 115, 116, 117, 118, 119, 120, 121, 122, 123, 124, 125, 126, 127, 128, 129, 130, 131, 132, 133, 134, 135, 136, 137, 138, 139, 140, 4] : List Nat).getD j 0) undef, ?_, Vals.no _ _ _ (far_none _ _ rfl), (Ext.refl _).drew, fun h0 => absurd h0 (by decide), fun h0 => absurd h0 (by decide)⟩
                rw [HFR.out, ha0]
                rfl
              all_goals clear ha0
              · rintro L A W K hL hC hW ⟨V, rfl, HV, s0, f20, f25⟩ hK
                have hB := s0
                have H := Lib.hid (show ∀ W', Ext W W' → K (fr (upd V 0 (.agg #[.slice An m.length cn]))) W' from fun W' he => hK _ _ ⟨upd V 0 (.agg #[.slice An m.length cn]), rfl, HV.up 0 _ (fun x hx => Option.some.inj hx), Ext.trans s0 he, fun h0 => OfK.ext (f20 (more_ne h0 rfl)) he, fun h0 => OfK.ext (f25 (more_ne h0 rfl)) he⟩)
                clear hK hC hW hL HV s0 f20 f25
                rw [HFR.out]
                have hcl := (Cs.ext HG6.out hB).cell 0 _ rfl
                clear hB
                go_wp2_with fail
                show K _ _
                have := H.out _ (Ext.refl _)
                rw [HFR.out] at this
                exact this
              · rintro L A W K hL hC hW ⟨V, rfl, HV, s0, f20, f25⟩ hK
                have H := Lib.hid (show ∀ W', Ext W W' → K (fr (upd V 1 (.pointer (some ⟨g3, 1, none⟩)))) W' from fun W' he => hK _ _ ⟨upd V 1 (.pointer (some ⟨g3, 1, none⟩)), rfl, HV.up 1 _ (fun x hx => Option.some.inj hx), Ext.trans s0 he, fun h0 => OfK.ext (f20 (more_ne h0 rfl)) he, fun h0 => OfK.ext (f25 (more_ne h0 rfl)) he⟩)
                clear hK hC hW hL HV s0 f20 f25
                rw [HFR.out]
                go_wp2_with fail
                show K _ _
                have := H.out _ (Ext.refl _)
                rw [HFR.out] at this
                exact this
              · rintro L A W K hL hC hW ⟨V, rfl, HV, s0, f20, f25⟩ hK
                have e1 : V 1 = .pointer (some ⟨g3, 1, none⟩) := HV 1 _ rfl (hW 1 rfl)
                have hB := s0
                have H := Lib.hid (show ∀ W', Ext W W' → K (fr (upd V 2 (.int .u64 (o.a : Nat)))) W' from fun W' he => hK _ _ ⟨upd V 2 (.int .u64 (o.a : Nat)), rfl, HV.up 2 _ (fun x hx => Option.some.inj hx), Ext.trans s0 he, fun h0 => absurd (more_ne h0 rfl) (by rw [(hC.no (hC.no (hC.no (hC.no (hC.no (hC.no hL 6 _ rfl rfl) 10 _ rfl rfl) 11 _ rfl rfl) 15 _ rfl rfl) 16 _ rfl rfl) 20 _ rfl rfl)]; simp), fun h0 => absurd (more_ne h0 rfl) (by rw [(hC.no (hC.no (hC.no (hC.no (hC.no (hC.no hL 6 _ rfl rfl) 10 _ rfl rfl) 11 _ rfl rfl) 15 _ rfl rfl) 16 _ rfl rfl) 25 _ rfl rfl)]; simp)⟩)
                have HU := Lib.hid (show (upd V 2 (.int .u64 (o.a : Nat))) 1 = .pointer (some ⟨g3, 1, none⟩) from e1)
                clear hK hC hW hL HV s0 f20 f25
                rw [HFR.out]
                rw [e1]
                clear e1
                have hcl := (Cs.ext HG3.out hB).cell 1 _ rfl
                clear hB
                go_wp2_with fail
                show K _ _
                have := H.out _ (Ext.refl _)
                rw [HFR.out] at this
                obtain u1 := HU.out
                rw [u1] at this
                exact this
              · rintro L A W K hL hC hW ⟨V, rfl, HV, s0, f20, f25⟩ hK
                have H := Lib.hid (show ∀ W', Ext W W' → K (fr (upd V 3 (.pointer (some ⟨g3, 7, none⟩)))) W' from fun W' he => hK _ _ ⟨upd V 3 (.pointer (some ⟨g3, 7, none⟩)), rfl, HV.up 3 _ (fun x hx => Option.some.inj hx), Ext.trans s0 he, fun h0 => OfK.ext (f20 (more_ne h0 rfl)) he, fun h0 => OfK.ext (f25 (more_ne h0 rfl)) he⟩)
                clear hK hC hW hL HV s0 f20 f25
                rw [HFR.out]
                go_wp2_with fail
                show K _ _
                have := H.out _ (Ext.refl _)
                rw [HFR.out] at this
                exact this
              · rintro L A W K hL hC hW ⟨V, rfl, HV, s0, f20, f25⟩ hK
                have e3 : V 3 = .pointer (some ⟨g3, 7, none⟩) := HV 3 _ rfl (hW 3 rfl)
                have H := Lib.hid (show ∀ W', Ext W W' → K (fr (upd V 4 (.pointer (some ⟨g3, 7, none⟩)))) W' from fun W' he => hK _ _ ⟨upd V 4 (.pointer (some ⟨g3, 7, none⟩)), rfl, HV.up 4 _ (fun x hx => Option.some.inj hx), Ext.trans s0 he, fun h0 => OfK.ext (f20 (more_ne h0 rfl)) he, fun h0 => OfK.ext (f25 (more_ne h0 rfl)) he⟩)
                have HU := Lib.hid (show (upd V 4 (.pointer (some ⟨g3, 7, none⟩))) 3 = .pointer (some ⟨g3, 7, none⟩) from e3)
                clear hK hC hW hL HV s0 f20 f25
                rw [HFR.out]
                rw [e3]
                clear e3
                go_wp2_with fail
                show K _ _
                have := H.out _ (Ext.refl _)
                rw [HFR.out] at this
                obtain u3 := HU.out
                rw [u3] at this
                exact this
              · rintro L A W K hL hC hW ⟨V, rfl, HV, s0, f20, f25⟩ hK
                have e4 : V 4 = .pointer (some ⟨g3, 7, none⟩) := HV 4 _ rfl (hW 4 rfl)
                have hB := s0
                have H := Lib.hid (show ∀ W', Ext W W' → K (fr (upd V 5 (wv (o.pr.1)))) W' from fun W' he => hK _ _ ⟨upd V 5 (wv (o.pr.1)), rfl, HV.up 5 _ (fun x hx => Option.some.inj hx), Ext.trans s0 he, fun h0 => OfK.ext (f20 (more_ne h0 rfl)) he, fun h0 => OfK.ext (f25 (more_ne h0 rfl)) he⟩)
                have HU := Lib.hid (show (upd V 5 (wv (o.pr.1))) 4 = .pointer (some ⟨g3, 7, none⟩) from e4)
                clear hK hC hW hL HV s0 f20 f25
                rw [HFR.out]
                rw [e4]
                clear e4
                have HWW := Lib.hid ((op_pair (Cs.ext HG3.out hB)).1)
                clear hB
                refine wpList_load_wordIn rfl (.tmp 116) rfl g3 7 (o.pr.1) rfl HWW.out ?_
                show K _ _
                have := H.out _ (Ext.refl _)
                rw [HFR.out] at this
                obtain u4 := HU.out
                rw [u4] at this
                exact this
              · rintro L A W K hL hC hW ⟨V, rfl, HV, s0, f20, f25⟩ hK
                have e0 : V 0 = .agg #[.slice An m.length cn] := HV 0 _ rfl (hW 0 rfl)
                have e2 : V 2 = .int .u64 (o.a : Nat) := HV 2 _ rfl (hW 2 rfl)
                have e5 : V 5 = wv (o.pr.1) := HV 5 _ rfl (hW 5 rfl)
                have hB := s0
                have H := Lib.hid (show ∀ W', Ext W W' → K (fr (upd V 6 (wv (o.pr.2)))) W' from fun W' he => hK _ _ ⟨upd V 6 (wv (o.pr.2)), rfl, HV.up 6 _ (fun x hx => Option.some.inj hx), Ext.trans s0 he, fun h0 => OfK.ext (f20 (more_ne h0 rfl)) he, fun h0 => OfK.ext (f25 (more_ne h0 rfl)) he⟩)
                have HU := Lib.hid (show (upd V 6 (wv (o.pr.2))) 0 = .agg #[.slice An m.length cn] ∧ (upd V 6 (wv (o.pr.2))) 2 = .int .u64 (o.a : Nat) ∧ (upd V 6 (wv (o.pr.2))) 5 = wv (o.pr.1) from ⟨e0, e2, e5⟩)
                clear hK hC hW hL HV s0 f20 f25
                rw [HFR.out]
                rw [e0, e2, e5]
                clear e0 e2 e5
                have HB' := Lib.hid hB
                clear hB
                go_wp2_with fail
                refine (HLD.out _ HB'.out).mono ?_
                rintro e wx ⟨rfl, he⟩
                have := H.out _ he
                clear H
                go_wp2_with fail
                show K _ _
                rw [HFR.out] at this
                obtain ⟨u0, u2, u5⟩ := HU.out
                rw [u0, u2, u5] at this
                exact this
              · rintro L A W K hL hC hW ⟨V, rfl, HV, s0, f20, f25⟩ hK
                have H := Lib.hid (show ∀ W', Ext W W' → K (fr (upd V 7 (.pointer (some ⟨g3, 7, none⟩)))) W' from fun W' he => hK _ _ ⟨upd V 7 (.pointer (some ⟨g3, 7, none⟩)), rfl, HV.up 7 _ (fun x hx => Option.some.inj hx), Ext.trans s0 he, fun h0 => OfK.ext (f20 (more_ne h0 rfl)) he, fun h0 => OfK.ext (f25 (more_ne h0 rfl)) he⟩)
                clear hK hC hW hL HV s0 f20 f25
                rw [HFR.out]
                go_wp2_with fail
                show K _ _
                have := H.out _ (Ext.refl _)
                rw [HFR.out] at this
                exact this
              · rintro L A W K hL hC hW ⟨V, rfl, HV, s0, f20, f25⟩ hK
                have e7 : V 7 = .pointer (some ⟨g3, 7, none⟩) := HV 7 _ rfl (hW 7 rfl)
                have H := Lib.hid (show ∀ W', Ext W W' → K (fr (upd V 8 (.pointer (some ⟨g3, 11, none⟩)))) W' from fun W' he => hK _ _ ⟨upd V 8 (.pointer (some ⟨g3, 11, none⟩)), rfl, HV.up 8 _ (fun x hx => Option.some.inj hx), Ext.trans s0 he, fun h0 => OfK.ext (f20 (more_ne h0 rfl)) he, fun h0 => OfK.ext (f25 (more_ne h0 rfl)) he⟩)
                have HU := Lib.hid (show (upd V 8 (.pointer (some ⟨g3, 11, none⟩))) 7 = .pointer (some ⟨g3, 7, none⟩) from e7)
                clear hK hC hW hL HV s0 f20 f25
                rw [HFR.out]
                rw [e7]
                clear e7
                go_wp2_with fail
                show K _ _
                have := H.out _ (Ext.refl _)
                rw [HFR.out] at this
                obtain u7 := HU.out
                rw [u7] at this
                exact this
              · rintro L A W K hL hC hW ⟨V, rfl, HV, s0, f20, f25⟩ hK
                have e8 : V 8 = .pointer (some ⟨g3, 11, none⟩) := HV 8 _ rfl (hW 8 rfl)
                have hB := s0
                have H := Lib.hid (show ∀ W', Ext W W' → K (fr (upd V 9 (wv (o.pr.2)))) W' from fun W' he => hK _ _ ⟨upd V 9 (wv (o.pr.2)), rfl, HV.up 9 _ (fun x hx => Option.some.inj hx), Ext.trans s0 he, fun h0 => OfK.ext (f20 (more_ne h0 rfl)) he, fun h0 => OfK.ext (f25 (more_ne h0 rfl)) he⟩)
                have HU := Lib.hid (show (upd V 9 (wv (o.pr.2))) 8 = .pointer (some ⟨g3, 11, none⟩) from e8)
                clear hK hC hW hL HV s0 f20 f25
                rw [HFR.out]
                rw [e8]
                clear e8
                have HWW := Lib.hid ((op_pair (Cs.ext HG3.out hB)).2)
                clear hB
                refine wpList_load_wordIn rfl (.tmp 120) rfl g3 11 (o.pr.2) rfl HWW.out ?_
                show K _ _
                have := H.out _ (Ext.refl _)
                rw [HFR.out] at this
                obtain u8 := HU.out
                rw [u8] at this
                exact this
              · rintro L A W K hL hC hW ⟨V, rfl, HV, s0, f20, f25⟩ hK
                have e6 : V 6 = wv (o.pr.2) := HV 6 _ rfl (hW 6 rfl)
                have e9 : V 9 = wv (o.pr.2) := HV 9 _ rfl (hW 9 rfl)
                have hB := s0
                have H := Lib.hid (show ∀ W', Ext W W' → K (fr (upd V 10 (.bool true))) W' from fun W' he => hK _ _ ⟨upd V 10 (.bool true), rfl, HV.up 10 _ (fun x hx => Option.some.inj hx), Ext.trans s0 he, fun h0 => OfK.ext (f20 (more_ne h0 rfl)) he, fun h0 => OfK.ext (f25 (more_ne h0 rfl)) he⟩)
                have HU := Lib.hid (show (upd V 10 (.bool true)) 6 = wv (o.pr.2) ∧ (upd V 10 (.bool true)) 9 = wv (o.pr.2) from ⟨e6, e9⟩)
                clear hK hC hW hL HV s0 f20 f25
                rw [HFR.out]
                rw [e6, e9]
                clear e6 e9
                clear hB
                refine wpList_eql_same rfl (.tmp 118) (.tmp 121) rfl (o.pr.2) HO.out.2.2.2.2.2.1 rfl rfl ?_
                show K _ _
                have := H.out _ (Ext.refl _)
                rw [HFR.out] at this
                obtain ⟨u6, u9⟩ := HU.out
                rw [u6, u9] at this
                exact this
              · rintro L A W K hL hC hW ⟨V, rfl, HV, s0, f20, f25⟩ hK
                have e10 : V 10 = .bool true := HV 10 _ rfl (hW 10 rfl)
                have H := Lib.hid (show ∀ W', Ext W W' → K (fr (upd V 11 (.bool true))) W' from fun W' he => hK _ _ ⟨upd V 11 (.bool true), rfl, HV.up 11 _ (fun x hx => Option.some.inj hx), Ext.trans s0 he, fun h0 => OfK.ext (f20 (more_ne h0 rfl)) he, fun h0 => OfK.ext (f25 (more_ne h0 rfl)) he⟩)
                have HU := Lib.hid (show (upd V 11 (.bool true)) 10 = .bool true from e10)
                clear hK hC hW hL HV s0 f20 f25
                rw [HFR.out]
                rw [e10]
                clear e10
                go_wp2_with fail
                show K _ _
                have := H.out _ (Ext.refl _)
                rw [HFR.out] at this
                obtain u10 := HU.out
                rw [u10] at this
                exact this
              · rintro L A W K hL hC hW ⟨V, rfl, HV, s0, f20, f25⟩ hK
                have e11 : V 11 = .bool true := HV 11 _ rfl (hW 11 rfl)
                have hB := s0
                have H := Lib.hid (show ∀ W', Ext W W' → K (fr (upd V 12 (wv (t2)))) W' from fun W' he => hK _ _ ⟨upd V 12 (wv (t2)), rfl, HV.up 12 _ (fun x hx => Option.some.inj hx), Ext.trans s0 he, fun h0 => OfK.ext (f20 (more_ne h0 rfl)) he, fun h0 => OfK.ext (f25 (more_ne h0 rfl)) he⟩)
                have HU := Lib.hid (show (upd V 12 (wv (t2))) 11 = .bool true from e11)
                clear hK hC hW hL HV s0 f20 f25
                rw [HFR.out]
                rw [e11]
                clear e11
                have HWW := Lib.hid (Cs.rgK (Cs.ext HC1.out hB))
                clear hB
                refine wpList_load_wordIn rfl (.tmp 14) rfl g1x 0 (t2) rfl HWW.out ?_
                show K _ _
                have := H.out _ (Ext.refl _)
                rw [HFR.out] at this
                obtain u11 := HU.out
                rw [u11] at this
                exact this
              · rintro L A W K hL hC hW ⟨V, rfl, HV, s0, f20, f25⟩ hK
                have e11 : V 11 = .bool true := HV 11 _ rfl (hW 11 rfl)
                have hB := s0
                have H := Lib.hid (show ∀ W', Ext W W' → K (fr (upd V 13 (wv (t2)))) W' from fun W' he => hK _ _ ⟨upd V 13 (wv (t2)), rfl, HV.up 13 _ (fun x hx => Option.some.inj hx), Ext.trans s0 he, fun h0 => OfK.ext (f20 (more_ne h0 rfl)) he, fun h0 => OfK.ext (f25 (more_ne h0 rfl)) he⟩)
                have HU := Lib.hid (show (upd V 13 (wv (t2))) 11 = .bool true from e11)
                clear hK hC hW hL HV s0 f20 f25
                rw [HFR.out]
                rw [e11]
                clear e11
                have HWW := Lib.hid (Cs.rgK (Cs.ext HC2.out hB))
                clear hB
                refine wpList_load_wordIn rfl (.tmp 15) rfl g2x 0 (t2) rfl HWW.out ?_
                show K _ _
                have := H.out _ (Ext.refl _)
                rw [HFR.out] at this
                obtain u11 := HU.out
                rw [u11] at this
                exact this
              · rintro L A W K hL hC hW ⟨V, rfl, HV, s0, f20, f25⟩ hK
                have e11 : V 11 = .bool true := HV 11 _ rfl (hW 11 rfl)
                have e12 : V 12 = wv (t2) := HV 12 _ rfl (hW 12 rfl)
                have e13 : V 13 = wv (t2) := HV 13 _ rfl (hW 13 rfl)
                have hB := s0
                have H := Lib.hid (show ∀ W', Ext W W' → K (fr (upd V 14 (.bool true))) W' from fun W' he => hK _ _ ⟨upd V 14 (.bool true), rfl, HV.up 14 _ (fun x hx => Option.some.inj hx), Ext.trans s0 he, fun h0 => OfK.ext (f20 (more_ne h0 rfl)) he, fun h0 => OfK.ext (f25 (more_ne h0 rfl)) he⟩)
                have HU := Lib.hid (show (upd V 14 (.bool true)) 11 = .bool true ∧ (upd V 14 (.bool true)) 12 = wv (t2) ∧ (upd V 14 (.bool true)) 13 = wv (t2) from ⟨e11, e12, e13⟩)
                clear hK hC hW hL HV s0 f20 f25
                rw [HFR.out]
                rw [e11, e12, e13]
                clear e11 e12 e13
                clear hB
                refine wpList_eql_same rfl (.tmp 124) (.tmp 125) rfl (t2) HF2.out rfl rfl ?_
                show K _ _
                have := H.out _ (Ext.refl _)
                rw [HFR.out] at this
                obtain ⟨u11, u12, u13⟩ := HU.out
                rw [u11, u12, u13] at this
                exact this
              · rintro L A W K hL hC hW ⟨V, rfl, HV, s0, f20, f25⟩ hK
                have e11 : V 11 = .bool true := HV 11 _ rfl (hW 11 rfl)
                have e14 : V 14 = .bool true := HV 14 _ rfl (hW 14 rfl)
                have H := Lib.hid (show ∀ W', Ext W W' → K (fr (upd V 15 (.bool true))) W' from fun W' he => hK _ _ ⟨upd V 15 (.bool true), rfl, HV.up 15 _ (fun x hx => Option.some.inj hx), Ext.trans s0 he, fun h0 => OfK.ext (f20 (more_ne h0 rfl)) he, fun h0 => OfK.ext (f25 (more_ne h0 rfl)) he⟩)
                have HU := Lib.hid (show (upd V 15 (.bool true)) 11 = .bool true ∧ (upd V 15 (.bool true)) 14 = .bool true from ⟨e11, e14⟩)
                clear hK hC hW hL HV s0 f20 f25
                rw [HFR.out]
                rw [e11, e14]
                clear e11 e14
                go_wp2_with fail
                show K _ _
                have := H.out _ (Ext.refl _)
                rw [HFR.out] at this
                obtain ⟨u11, u14⟩ := HU.out
                rw [u11, u14] at this
                exact this
              · rintro L A W K hL hC hW ⟨V, rfl, HV, s0, f20, f25⟩ hK
                have e15 : V 15 = .bool true := HV 15 _ rfl (hW 15 rfl)
                have H := Lib.hid (show ∀ W', Ext W W' → K (fr (upd V 16 (.bool true))) W' from fun W' he => hK _ _ ⟨upd V 16 (.bool true), rfl, HV.up 16 _ (fun x hx => Option.some.inj hx), Ext.trans s0 he, fun h0 => OfK.ext (f20 (more_ne h0 rfl)) he, fun h0 => OfK.ext (f25 (more_ne h0 rfl)) he⟩)
                have HU := Lib.hid (show (upd V 16 (.bool true)) 15 = .bool true from e15)
                clear hK hC hW hL HV s0 f20 f25
                rw [HFR.out]
                rw [e15]
                clear e15
                go_wp2_with fail
                show K _ _
                have := H.out _ (Ext.refl _)
                rw [HFR.out] at this
                obtain u15 := HU.out
                rw [u15] at this
                exact this
              · rintro L A W K hL hC hW ⟨V, rfl, HV, s0, f20, f25⟩ hK
                have e16 : V 16 = .bool true := HV 16 _ rfl (hW 16 rfl)
                have hB := s0
                have H := Lib.hid (show ∀ W', Ext W W' → K (fr (upd V 17 (.agg #[.slice An m.length cn]))) W' from fun W' he => hK _ _ ⟨upd V 17 (.agg #[.slice An m.length cn]), rfl, HV.up 17 _ (fun x hx => Option.some.inj hx), Ext.trans s0 he, fun h0 => OfK.ext (f20 (more_ne h0 rfl)) he, fun h0 => OfK.ext (f25 (more_ne h0 rfl)) he⟩)
                have HU := Lib.hid (show (upd V 17 (.agg #[.slice An m.length cn])) 16 = .bool true from e16)
                clear hK hC hW hL HV s0 f20 f25
                rw [HFR.out]
                rw [e16]
                clear e16
                have hcl := (Cs.ext HG6.out hB).cell 0 _ rfl
                clear hB
                go_wp2_with fail
                show K _ _
                have := H.out _ (Ext.refl _)
                rw [HFR.out] at this
                obtain u16 := HU.out
                rw [u16] at this
                exact this
              · rintro L A W K hL hC hW ⟨V, rfl, HV, s0, f20, f25⟩ hK
                have e16 : V 16 = .bool true := HV 16 _ rfl (hW 16 rfl)
                have H := Lib.hid (show ∀ W', Ext W W' → K (fr (upd V 18 (.pointer (some ⟨g3, 1, none⟩)))) W' from fun W' he => hK _ _ ⟨upd V 18 (.pointer (some ⟨g3, 1, none⟩)), rfl, HV.up 18 _ (fun x hx => Option.some.inj hx), Ext.trans s0 he, fun h0 => OfK.ext (f20 (more_ne h0 rfl)) he, fun h0 => OfK.ext (f25 (more_ne h0 rfl)) he⟩)
                have HU := Lib.hid (show (upd V 18 (.pointer (some ⟨g3, 1, none⟩))) 16 = .bool true from e16)
                clear hK hC hW hL HV s0 f20 f25
                rw [HFR.out]
                rw [e16]
                clear e16
                go_wp2_with fail
                show K _ _
                have := H.out _ (Ext.refl _)
                rw [HFR.out] at this
                obtain u16 := HU.out
                rw [u16] at this
                exact this
              · rintro L A W K hL hC hW ⟨V, rfl, HV, s0, f20, f25⟩ hK
                have e16 : V 16 = .bool true := HV 16 _ rfl (hW 16 rfl)
                have e18 : V 18 = .pointer (some ⟨g3, 1, none⟩) := HV 18 _ rfl (hW 18 rfl)
                have hB := s0
                have H := Lib.hid (show ∀ W', Ext W W' → K (fr (upd V 19 (.int .u64 (o.a : Nat)))) W' from fun W' he => hK _ _ ⟨upd V 19 (.int .u64 (o.a : Nat)), rfl, HV.up 19 _ (fun x hx => Option.some.inj hx), Ext.trans s0 he, fun h0 => OfK.ext (f20 (more_ne h0 rfl)) he, fun h0 => OfK.ext (f25 (more_ne h0 rfl)) he⟩)
                have HU := Lib.hid (show (upd V 19 (.int .u64 (o.a : Nat))) 16 = .bool true ∧ (upd V 19 (.int .u64 (o.a : Nat))) 18 = .pointer (some ⟨g3, 1, none⟩) from ⟨e16, e18⟩)
                clear hK hC hW hL HV s0 f20 f25
                rw [HFR.out]
                rw [e16, e18]
                clear e16 e18
                have hcl := (Cs.ext HG3.out hB).cell 1 _ rfl
                clear hB
                go_wp2_with fail
                show K _ _
                have := H.out _ (Ext.refl _)
                rw [HFR.out] at this
                obtain ⟨u16, u18⟩ := HU.out
                rw [u16, u18] at this
                exact this
              · rintro L A W K hL hC hW ⟨V, rfl, HV, s0, f20, f25⟩ hK
                have e16 : V 16 = .bool true := HV 16 _ rfl (hW 16 rfl)
                have e17 : V 17 = .agg #[.slice An m.length cn] := HV 17 _ rfl (hW 17 rfl)
                have e19 : V 19 = .int .u64 (o.a : Nat) := HV 19 _ rfl (hW 19 rfl)
                have hB := s0
                have H := Lib.hid (show ∀ v W', Ext W W' → (OfK W' qm v) → K (fr (upd V 20 v)) W' from fun v W' he hp => hK _ _ ⟨upd V 20 v, rfl, HV.up 20 _ (fun x hx => absurd hx (by intro h; cases h)), Ext.trans s0 he, fun h0 => hp, fun h0 => OfK.ext (f25 (more_ne h0 rfl)) he⟩)
                have HU := Lib.hid (show ∀ v, (upd V 20 v) 16 = .bool true ∧ (upd V 20 v) 17 = .agg #[.slice An m.length cn] ∧ (upd V 20 v) 19 = .int .u64 (o.a : Nat) from fun v => ⟨e16, e17, e19⟩)
                clear hK hC hW hL HV s0 f20 f25
                rw [HFR.out]
                rw [e16, e17, e19]
                clear e16 e17 e19
                have HB' := Lib.hid hB
                clear hB
                go_wp2_with fail
                refine (HOM.out _ HB'.out).mono ?_
                rintro e wx ⟨u', v', rfl, ho, he⟩
                have := H.out _ _ he (⟨u', v', rfl, ho.1.bs, ho.2.pks⟩)
                clear H
                go_wp2_with fail
                show K _ _
                rw [HFR.out] at this
                obtain ⟨u16, u17, u19⟩ := HU.out _
                rw [u16, u17, u19] at this
                exact this
              · rintro L A W K hL hC hW ⟨V, rfl, HV, s0, f20, f25⟩ hK
                have e16 : V 16 = .bool true := HV 16 _ rfl (hW 16 rfl)
                have hB := s0
                have q20 := f20 (hW 20 rfl)
                obtain ⟨u20, v20, e20, z20⟩ := q20
                have H := Lib.hid (show ∀ W', Ext W W' → K (fr (upd V 21 (wv bq))) W' from fun W' he => hK _ _ ⟨upd V 21 (wv bq), rfl, HV.up 21 _ (fun x hx => Option.some.inj hx), Ext.trans s0 he, fun h0 => OfK.ext (f20 (more_ne h0 rfl)) he, fun h0 => OfK.ext (f25 (more_ne h0 rfl)) he⟩)
                have HU := Lib.hid (show (upd V 21 (wv bq)) 16 = .bool true ∧ (upd V 21 (wv bq)) 20 = .agg (acc qm u20 v20) from ⟨e16, e20⟩)
                clear hK hC hW hL HV s0 f20 f25
                rw [HFR.out]
                rw [e16, e20]
                clear e16 e20
                clear hB
                have ff := HFM.out u20 v20 W
                go_wp2_with fail
                show K _ _
                have := H.out _ (Ext.refl _)
                rw [HFR.out] at this
                obtain ⟨u16, u20⟩ := HU.out
                rw [u16, u20] at this
                exact this
              · rintro L A W K hL hC hW ⟨V, rfl, HV, s0, f20, f25⟩ hK
                have e16 : V 16 = .bool true := HV 16 _ rfl (hW 16 rfl)
                have hB := s0
                have H := Lib.hid (show ∀ W', Ext W W' → K (fr (upd V 22 (.agg #[.slice As l.length cs]))) W' from fun W' he => hK _ _ ⟨upd V 22 (.agg #[.slice As l.length cs]), rfl, HV.up 22 _ (fun x hx => Option.some.inj hx), Ext.trans s0 he, fun h0 => OfK.ext (f20 (more_ne h0 rfl)) he, fun h0 => OfK.ext (f25 (more_ne h0 rfl)) he⟩)
                have HU := Lib.hid (show (upd V 22 (.agg #[.slice As l.length cs])) 16 = .bool true from e16)
                clear hK hC hW hL HV s0 f20 f25
                rw [HFR.out]
                rw [e16]
                clear e16
                have hcl := (Cs.ext HG5.out hB).cell 0 _ rfl
                clear hB
                go_wp2_with fail
                show K _ _
                have := H.out _ (Ext.refl _)
                rw [HFR.out] at this
                obtain u16 := HU.out
                rw [u16] at this
                exact this
              · rintro L A W K hL hC hW ⟨V, rfl, HV, s0, f20, f25⟩ hK
                have e16 : V 16 = .bool true := HV 16 _ rfl (hW 16 rfl)
                have H := Lib.hid (show ∀ W', Ext W W' → K (fr (upd V 23 (.pointer (some ⟨g3, 1, none⟩)))) W' from fun W' he => hK _ _ ⟨upd V 23 (.pointer (some ⟨g3, 1, none⟩)), rfl, HV.up 23 _ (fun x hx => Option.some.inj hx), Ext.trans s0 he, fun h0 => OfK.ext (f20 (more_ne h0 rfl)) he, fun h0 => OfK.ext (f25 (more_ne h0 rfl)) he⟩)
                have HU := Lib.hid (show (upd V 23 (.pointer (some ⟨g3, 1, none⟩))) 16 = .bool true from e16)
                clear hK hC hW hL HV s0 f20 f25
                rw [HFR.out]
                rw [e16]
                clear e16
                go_wp2_with fail
                show K _ _
                have := H.out _ (Ext.refl _)
                rw [HFR.out] at this
                obtain u16 := HU.out
                rw [u16] at this
                exact this
              · rintro L A W K hL hC hW ⟨V, rfl, HV, s0, f20, f25⟩ hK
                have e16 : V 16 = .bool true := HV 16 _ rfl (hW 16 rfl)
                have e23 : V 23 = .pointer (some ⟨g3, 1, none⟩) := HV 23 _ rfl (hW 23 rfl)
                have hB := s0
                have H := Lib.hid (show ∀ W', Ext W W' → K (fr (upd V 24 (.int .u64 (o.a : Nat)))) W' from fun W' he => hK _ _ ⟨upd V 24 (.int .u64 (o.a : Nat)), rfl, HV.up 24 _ (fun x hx => Option.some.inj hx), Ext.trans s0 he, fun h0 => OfK.ext (f20 (more_ne h0 rfl)) he, fun h0 => OfK.ext (f25 (more_ne h0 rfl)) he⟩)
                have HU := Lib.hid (show (upd V 24 (.int .u64 (o.a : Nat))) 16 = .bool true ∧ (upd V 24 (.int .u64 (o.a : Nat))) 23 = .pointer (some ⟨g3, 1, none⟩) from ⟨e16, e23⟩)
                clear hK hC hW hL HV s0 f20 f25
                rw [HFR.out]
                rw [e16, e23]
                clear e16 e23
                have hcl := (Cs.ext HG3.out hB).cell 1 _ rfl
                clear hB
                go_wp2_with fail
                show K _ _
                have := H.out _ (Ext.refl _)
                rw [HFR.out] at this
                obtain ⟨u16, u23⟩ := HU.out
                rw [u16, u23] at this
                exact this
              · rintro L A W K hL hC hW ⟨V, rfl, HV, s0, f20, f25⟩ hK
                have e16 : V 16 = .bool true := HV 16 _ rfl (hW 16 rfl)
                have e22 : V 22 = .agg #[.slice As l.length cs] := HV 22 _ rfl (hW 22 rfl)
                have e24 : V 24 = .int .u64 (o.a : Nat) := HV 24 _ rfl (hW 24 rfl)
                have hB := s0
                have H := Lib.hid (show ∀ v W', Ext W W' → (OfK W' ql v) → K (fr (upd V 25 v)) W' from fun v W' he hp => hK _ _ ⟨upd V 25 v, rfl, HV.up 25 _ (fun x hx => absurd hx (by intro h; cases h)), Ext.trans s0 he, fun h0 => OfK.ext (f20 (more_ne h0 rfl)) he, fun h0 => hp⟩)
                have HU := Lib.hid (show ∀ v, (upd V 25 v) 16 = .bool true ∧ (upd V 25 v) 22 = .agg #[.slice As l.length cs] ∧ (upd V 25 v) 24 = .int .u64 (o.a : Nat) from fun v => ⟨e16, e22, e24⟩)
                clear hK hC hW hL HV s0 f20 f25
                rw [HFR.out]
                rw [e16, e22, e24]
                clear e16 e22 e24
                have HB' := Lib.hid hB
                clear hB
                go_wp2_with fail
                refine (HOL.out _ HB'.out).mono ?_
                rintro e wx ⟨u', v', rfl, ho, he⟩
                have := H.out _ _ he (⟨u', v', rfl, ho.1.bs, ho.2.pks⟩)
                clear H
                go_wp2_with fail
                show K _ _
                rw [HFR.out] at this
                obtain ⟨u16, u22, u24⟩ := HU.out _
                rw [u16, u22, u24] at this
                exact this
              · rintro L A W K hL hC hW ⟨V, rfl, HV, s0, f20, f25⟩ hK
                have e16 : V 16 = .bool true := HV 16 _ rfl (hW 16 rfl)
                have hB := s0
                have q25 := f25 (hW 25 rfl)
                obtain ⟨u25, v25, e25, z25⟩ := q25
                have H := Lib.hid (show ∀ W', Ext W W' → K (fr (upd V 26 (wv bq))) W' from fun W' he => hK _ _ ⟨upd V 26 (wv bq), rfl, HV.up 26 _ (fun x hx => Option.some.inj hx), Ext.trans s0 he, fun h0 => OfK.ext (f20 (more_ne h0 rfl)) he, fun h0 => OfK.ext (f25 (more_ne h0 rfl)) he⟩)
                have HU := Lib.hid (show (upd V 26 (wv bq)) 16 = .bool true ∧ (upd V 26 (wv bq)) 25 = .agg (acc ql u25 v25) from ⟨e16, e25⟩)
                clear hK hC hW hL HV s0 f20 f25
                rw [HFR.out]
                rw [e16, e25]
                clear e16 e25
                clear hB
                have ff := HFL.out u25 v25 W
                go_wp2_with fail
                show K _ _
                have := H.out _ (Ext.refl _)
                rw [HFR.out] at this
                obtain ⟨u16, u25⟩ := HU.out
                rw [u16, u25] at this
                exact this
              · rintro L A W K hL hC hW ⟨V, rfl, HV, s0, f20, f25⟩ hK
                have e16 : V 16 = .bool true := HV 16 _ rfl (hW 16 rfl)
                have e21 : V 21 = wv bq := HV 21 _ rfl (hW 21 rfl)
                have e26 : V 26 = wv bq := HV 26 _ rfl (hW 26 rfl)
                have hB := s0
                have H := Lib.hid (show ∀ W', Ext W W' → K (fr (upd V 27 (.bool true))) W' from fun W' he => hK _ _ ⟨upd V 27 (.bool true), rfl, HV.up 27 _ (fun x hx => Option.some.inj hx), Ext.trans s0 he, fun h0 => OfK.ext (f20 (more_ne h0 rfl)) he, fun h0 => OfK.ext (f25 (more_ne h0 rfl)) he⟩)
                have HU := Lib.hid (show (upd V 27 (.bool true)) 16 = .bool true ∧ (upd V 27 (.bool true)) 21 = wv bq ∧ (upd V 27 (.bool true)) 26 = wv bq from ⟨e16, e21, e26⟩)
                clear hK hC hW hL HV s0 f20 f25
                rw [HFR.out]
                rw [e16, e21, e26]
                clear e16 e21 e26
                clear hB
                refine wpList_eql_same rfl (.tmp 133) (.tmp 138) rfl (bq) HBQ.out rfl rfl ?_
                show K _ _
                have := H.out _ (Ext.refl _)
                rw [HFR.out] at this
                obtain ⟨u16, u21, u26⟩ := HU.out
                rw [u16, u21, u26] at this
                exact this
              · rintro L A W K hL hC hW ⟨V, rfl, HV, s0, f20, f25⟩ hK
                have e16 : V 16 = .bool true := HV 16 _ rfl (hW 16 rfl)
                have e27 : V 27 = .bool true := HV 27 _ rfl (hW 27 rfl)
                have H := Lib.hid (show ∀ W', Ext W W' → K (fr (upd V 28 (.bool true))) W' from fun W' he => hK _ _ ⟨upd V 28 (.bool true), rfl, HV.up 28 _ (fun x hx => Option.some.inj hx), Ext.trans s0 he, fun h0 => OfK.ext (f20 (more_ne h0 rfl)) he, fun h0 => OfK.ext (f25 (more_ne h0 rfl)) he⟩)
                have HU := Lib.hid (show (upd V 28 (.bool true)) 16 = .bool true ∧ (upd V 28 (.bool true)) 27 = .bool true from ⟨e16, e27⟩)
                clear hK hC hW hL HV s0 f20 f25
                rw [HFR.out]
                rw [e16, e27]
                clear e16 e27
                go_wp2_with fail
                show K _ _
                have := H.out _ (Ext.refl _)
                rw [HFR.out] at this
                obtain ⟨u16, u27⟩ := HU.out
                rw [u16, u27] at this
                exact this
              · rintro L A W K hL hC hW ⟨V, rfl, HV, s0, f20, f25⟩ hK
                have e28 : V 28 = .bool true := HV 28 _ rfl (hW 28 rfl)
                have H := Lib.hid (show ∀ W', Ext W W' → K (fr (upd V 29 (.bool true))) W' from fun W' he => hK _ _ ⟨upd V 29 (.bool true), rfl, HV.up 29 _ (fun x hx => Option.some.inj hx), Ext.trans s0 he, fun h0 => OfK.ext (f20 (more_ne h0 rfl)) he, fun h0 => OfK.ext (f25 (more_ne h0 rfl)) he⟩)
                have HU := Lib.hid (show (upd V 29 (.bool true)) 28 = .bool true from e28)
                clear hK hC hW hL HV s0 f20 f25
                rw [HFR.out]
                rw [e28]
                clear e28
                go_wp2_with fail
                show K _ _
                have := H.out _ (Ext.refl _)
                rw [HFR.out] at this
                obtain u28 := HU.out
                rw [u28] at this
                exact this
              · rintro L A W hL ⟨V, rfl, HV, s0, f20, f25⟩
                have e0 : V 0 = .agg #[.slice An m.length cn] := HV 0 _ rfl (hL 0 (by simp))
                have e1 : V 1 = .pointer (some ⟨g3, 1, none⟩) := HV 1 _ rfl (hL 1 (by simp))
                have e2 : V 2 = .int .u64 (o.a : Nat) := HV 2 _ rfl (hL 2 (by simp))
                have e3 : V 3 = .pointer (some ⟨g3, 7, none⟩) := HV 3 _ rfl (hL 3 (by simp))
                have e4 : V 4 = .pointer (some ⟨g3, 7, none⟩) := HV 4 _ rfl (hL 4 (by simp))
                have e5 : V 5 = wv (o.pr.1) := HV 5 _ rfl (hL 5 (by simp))
                have e6 : V 6 = wv (o.pr.2) := HV 6 _ rfl (hL 6 (by simp))
                have e7 : V 7 = .pointer (some ⟨g3, 7, none⟩) := HV 7 _ rfl (hL 7 (by simp))
                have e8 : V 8 = .pointer (some ⟨g3, 11, none⟩) := HV 8 _ rfl (hL 8 (by simp))
                have e9 : V 9 = wv (o.pr.2) := HV 9 _ rfl (hL 9 (by simp))
                have e10 : V 10 = .bool true := HV 10 _ rfl (hL 10 (by simp))
                have e11 : V 11 = .bool true := HV 11 _ rfl (hL 11 (by simp))
                have e12 : V 12 = wv (t2) := HV 12 _ rfl (hL 12 (by simp))
                have e13 : V 13 = wv (t2) := HV 13 _ rfl (hL 13 (by simp))
                have e14 : V 14 = .bool true := HV 14 _ rfl (hL 14 (by simp))
                have e15 : V 15 = .bool true := HV 15 _ rfl (hL 15 (by simp))
                have e16 : V 16 = .bool true := HV 16 _ rfl (hL 16 (by simp))
                have e17 : V 17 = .agg #[.slice An m.length cn] := HV 17 _ rfl (hL 17 (by simp))
                have e18 : V 18 = .pointer (some ⟨g3, 1, none⟩) := HV 18 _ rfl (hL 18 (by simp))
                have e19 : V 19 = .int .u64 (o.a : Nat) := HV 19 _ rfl (hL 19 (by simp))
                have e21 : V 21 = wv bq := HV 21 _ rfl (hL 21 (by simp))
                have e22 : V 22 = .agg #[.slice As l.length cs] := HV 22 _ rfl (hL 22 (by simp))
                have e23 : V 23 = .pointer (some ⟨g3, 1, none⟩) := HV 23 _ rfl (hL 23 (by simp))
                have e24 : V 24 = .int .u64 (o.a : Nat) := HV 24 _ rfl (hL 24 (by simp))
                have e26 : V 26 = wv bq := HV 26 _ rfl (hL 26 (by simp))
                have e27 : V 27 = .bool true := HV 27 _ rfl (hL 27 (by simp))
                have e28 : V 28 = .bool true := HV 28 _ rfl (hL 28 (by simp))
                have e29 : V 29 = .bool true := HV 29 _ rfl (hL 29 (by simp))
                have hA := s0
                have p132 := f20 (hL 20 (by simp))
                have p137 := f25 (hL 25 (by simp))
                rw [HFR.out]
                rw [e0, e1, e2, e3, e4, e5, e6, e7, e8, e9, e10, e11, e12, e13, e14, e15, e16, e17, e18, e19, e21, e22, e23, e24, e26, e27, e28, e29]
                clear hL HV HFR e0 e1 e2 e3 e4 e5 e6 e7 e8 e9 e10 e11 e12 e13 e14 e15 e16 e17 e18 e19 e21 e22 e23 e24 e26 e27 e28 e29 s0 f20 f25
                have HA4 := Lib.hid hA
                clear hA
                go_wp2_with fail
                go_ret
                exact ⟨rfl, HEF.out.trans HA4.out⟩
            · obtain rfl : t2 = t1 := by rw [← HTT.out.1, ← HTT.out.2]; exact HKP.out.move hk
              rw [hk]
              go_wp2_with (first
                | ((with_reducible refine wpList_load_wordIn ?_ (.tmp 14) ?_ g1x 0 (t2) ?_ ?_ ?_); (exact rfl); (exact rfl); (exact rfl); (exact Cs.rgK HC1.out))
                | ((with_reducible refine wpList_load_wordIn ?_ (.tmp 15) ?_ g2x 0 (t2) ?_ ?_ ?_); (exact rfl); (exact rfl); (exact rfl); (exact Cs.rgK HC2.out))
                | ((with_reducible refine wpList_eql_same ?_ (.tmp 143) (.tmp 144) ?_ (t2) HF2.out ?_ ?_ ?_); (exact rfl); (exact rfl); (exact rfl); (exact rfl)))
              go_ret
              exact ⟨rfl, HEF.out⟩
            · have HSU := Lib.hid (show t2 = t1 + o.n by rw [← HTT.out.1, ← HTT.out.2]; exact HKP.out.mint hk)
              have HV1 := Lib.hid (show (t1 + o.n) % M256 = t2 by rw [HSU.out]; exact Nat.mod_eq_of_lt (by rw [← HSU.out]; exact HF2.out))
              have HV2 := Lib.hid (show ovr t1 o.n = false from keeps_fits (by rw [← HSU.out]; exact HF2.out))
              rw [hk]
              go_wp2_with (first
                | ((with_reducible refine wpList_load_wordIn ?_ (.tmp 14) ?_ g1x 0 (t1) ?_ ?_ ?_); (exact rfl); (exact rfl); (exact rfl); (exact Cs.rgK HC1.out))
                | ((with_reducible refine wpList_load_wordIn ?_ (.tmp 150) ?_ g3 3 (o.n) ?_ ?_ ?_); (exact rfl); (exact rfl); (exact rfl); (exact op_word HG3.out)))
              refine (add_any t1 o.n _ HF1.out HO.out.2.2.2.1).mono ?_
              rintro e wx ⟨rfl, he⟩
              rw [HV1.out, HV2.out]
              have HEX := Lib.hid (HEF.out.trans he)
              have HC2 := Lib.hid (Cs.ext HC2.out he)
              have HGX := Lib.hid (show w.heap.size ≤ wx.heap.size from HEX.out.size)
              have HG2X := Lib.hid (show g2x < wx.heap.size from Cs.lt HC2.out)
              clear he
              go_wp2_with (first
                | ((with_reducible refine wpList_store_word ?_ ?_ 31 (.tmp 16) (.tmp 153) ?_ winfo wx.heap.size (wc 0) t2 ?_ ?_ ?_ ?_ ?_); (exact rfl); (exact rfl); (exact rfl); (exact rfl); (exact rfl); (exact Cs.new _ _ _ _ rfl); (exact rfl); intro wy ky gy; have KY := Lib.hid ky; have HC2 := Lib.hid (Cs.kept (Cs.ext HC2.out ((Ext.refl wx).alloc _)) gy (some_ne (by have := HG2X.out; omega))); have HEX := Lib.hid ((HEX.out.trans ((Ext.refl wx).alloc _)).grown gy HGX.out); clear ky gy)
                | ((with_reducible refine wpList_load_wordIn ?_ (.tmp 15) ?_ g2x 0 (t2) ?_ ?_ ?_); (exact rfl); (exact rfl); (exact rfl); (exact Cs.rgK HC2.out))
                | ((with_reducible refine wpList_load_wordIn ?_ (.tmp 16) ?_ wx.heap.size 0 (t2) ?_ ?_ ?_); (exact rfl); (exact rfl); (exact rfl); (exact Cs.rgK KY.out))
                | ((with_reducible refine wpList_eql_same ?_ (.tmp 155) (.tmp 156) ?_ (t2) HF2.out ?_ ?_ ?_); (exact rfl); (exact rfl); (exact rfl); (exact rfl)))
              go_ret
              exact ⟨rfl, HEX.out⟩
            · have HSU := Lib.hid (show t2 + o.n = t1 by rw [← HTT.out.1, ← HTT.out.2]; exact HKP.out.burn hk)
              have HV1 := Lib.hid (show (t1 + M256 - o.n) % M256 = t2 by
                have h1 : t1 + M256 - o.n = t2 + M256 := by have := HSU.out; have := HO.out.2.2.2.1; omega
                rw [h1, Nat.add_mod_right]
                exact Nat.mod_eq_of_lt HF2.out)
              have HV2 := Lib.hid (show und t1 o.n = false from keeps_none (by have := HSU.out; omega))
              rw [hk]
              go_wp2_with (first
                | ((with_reducible refine wpList_load_wordIn ?_ (.tmp 14) ?_ g1x 0 (t1) ?_ ?_ ?_); (exact rfl); (exact rfl); (exact rfl); (exact Cs.rgK HC1.out))
                | ((with_reducible refine wpList_load_wordIn ?_ (.tmp 164) ?_ g3 3 (o.n) ?_ ?_ ?_); (exact rfl); (exact rfl); (exact rfl); (exact op_word HG3.out)))
              refine (sub_any t1 o.n _ HF1.out HO.out.2.2.2.1).mono ?_
              rintro e wx ⟨rfl, he⟩
              rw [HV1.out, HV2.out]
              have HEX := Lib.hid (HEF.out.trans he)
              have HC2 := Lib.hid (Cs.ext HC2.out he)
              have HGX := Lib.hid (show w.heap.size ≤ wx.heap.size from HEX.out.size)
              have HG2X := Lib.hid (show g2x < wx.heap.size from Cs.lt HC2.out)
              clear he
              go_wp2_with (first
                | ((with_reducible refine wpList_store_word ?_ ?_ 31 (.tmp 18) (.tmp 167) ?_ winfo wx.heap.size (wc 0) t2 ?_ ?_ ?_ ?_ ?_); (exact rfl); (exact rfl); (exact rfl); (exact rfl); (exact rfl); (exact Cs.new _ _ _ _ rfl); (exact rfl); intro wy ky gy; have KY := Lib.hid ky; have HC2 := Lib.hid (Cs.kept (Cs.ext HC2.out ((Ext.refl wx).alloc _)) gy (some_ne (by have := HG2X.out; omega))); have HEX := Lib.hid ((HEX.out.trans ((Ext.refl wx).alloc _)).grown gy HGX.out); clear ky gy)
                | ((with_reducible refine wpList_load_wordIn ?_ (.tmp 15) ?_ g2x 0 (t2) ?_ ?_ ?_); (exact rfl); (exact rfl); (exact rfl); (exact Cs.rgK HC2.out))
                | ((with_reducible refine wpList_load_wordIn ?_ (.tmp 18) ?_ wx.heap.size 0 (t2) ?_ ?_ ?_); (exact rfl); (exact rfl); (exact rfl); (exact Cs.rgK KY.out))
                | ((with_reducible refine wpList_eql_same ?_ (.tmp 169) (.tmp 170) ?_ (t2) HF2.out ?_ ?_ ?_); (exact rfl); (exact rfl); (exact rfl); (exact rfl)))
              go_ret
              exact ⟨rfl, HEX.out⟩
  · have hm0 := runS_err HM.out he0
    subst hm0
    have he1 : (er != 0) = true := by simpa using he0
    have he2 : (er == 0) = false := by simpa using he0
    go_wp2_with fail
    go_ret
    exact ⟨by simp, HE6.out⟩
set_option maxRecDepth 100000 in
theorem stateKeeps_told (W : World) (args : Array Value) (h : Told Try.f4 W args) : Calls Try.prog 4 args W (RetT W) := by
  obtain ⟨H, enc, base, ds, p, hval, hA⟩ := h
  rw [Try.params4] at hA hval
  obtain ⟨v0, v1, d0, d1, p0, p1, rfl, rfl, rfl, h0, h1⟩ := trodAll_two hA
  obtain ⟨s0, x0, rfl, hx0⟩ := state_came (hval 0 _ v0 rfl rfl) h0
  obtain ⟨o, u, v, rfl, hok, hu, hv⟩ := op_came (hval 1 _ v1 rfl rfl) h1
  exact stateKeeps_any s0 x0 o u v W hx0 hok hu hv

set_option maxRecDepth 100000 in
theorem stateKeeps_spec (H : Type) : ∀ ds : List (DataW H), ds.length = Try.f4.params.toList.length → Rows.stateKeepsSpec.fn H ds = { results := [.lit (.bool true)], args := ds }
  | [_, _], _ => rfl
  | [], h | [_], h | _ :: _ :: _ :: _, h => by rw [Try.params4] at h; simp at h

def zeroOpK : Value := .agg #[.int .i64 0, .int .u64 0, .int .u64 0, .int .u64 0, .int .u64 0, .int .u64 0, .int .u64 0, .int .u64 0, .int .u64 0, .int .u64 0, .int .u64 0, .int .u64 0, .int .u64 0, .int .u64 0, .int .u64 0, .int .u64 0, .int .u64 0, .int .u64 0, .int .u64 0, .int .u64 0, .int .u64 0, .slice none 0 0, .slice none 0 0]
set_option maxRecDepth 100000 in
theorem stateKeeps_holds : Rows.StateKeepsSaid :=
  OpenClaim.holds_of_wide 4 Try.f4 rfl rfl rfl rfl rfl rfl rfl ⟨rfl, rfl, rfl, rfl, rfl⟩ rfl rfl rfl rfl rfl (by kernel_rfl) Try.func4 (by kernel_rfl)
    (of_decide_eq_true (by kernel_rfl)) (by unfold Func.isWrapper; first | (rw [if_pos (by decide +kernel)]; kernel_rfl) | (rw [if_neg (by decide +kernel)]; exact ⟨rfl, rfl⟩))
    (fun os started H enc _ => law_lifted started (by kernel_rfl) Try.func4 rfl rfl (stateKeeps_spec H) (of_decide_eq_true (by kernel_rfl))
      (ChangeSpec.witness6 (enc := enc) (C := Try.checked) false ⟨#[], #[.agg #[.slice none 0 0], zeroOpK], []⟩ 8 (by kernel_rfl) (by kernel_rfl) (by kernel_rfl) (by kernel_rfl)) stateKeeps_told)
end Go.Proofs.Yteidmoilldheeaa
