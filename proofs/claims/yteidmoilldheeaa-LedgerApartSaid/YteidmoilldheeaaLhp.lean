/- LedgerApart: deposits and stakes of an address do not touch one another; deeds of two addresses come to the same, whichever comes first, if both can. -/
import Derived.Test.YteidmoilldheeaaLho
namespace Go.Proofs.Yteidmoilldheeaa
open Go.ChangeShapes Go.WideShapes Go.ChangeAt Go.RowKit Go.Shelf

set_option maxRecDepth 100000 in
theorem two_new {x : Value} {p : Addr} (h : x = .pointer (some p)) : x = .pointer (some p) := h
set_option maxRecDepth 100000 in
theorem kd_wrap (d : Dd) : (IntKind.u64.wrap d.kind).tmod 5 = kdD d := rfl
set_option maxRecDepth 100000 in
theorem wpList_neq_wsame {ops : Array Oper} {rest : List Oper} {o : Oper} {a : Act} {w : World} {Q : Exit → Act → World → Prop} (hgd : Region.wanted o (yielded ops a.tmps) = true) (x y : Operand) (ho : o.op = .binOp .neq 31 x y 31)
    (n : Nat) (hn : n < M256) (hx : a.eval x = wv n) (hy : a.eval y = wv n) (h : wpList Try.prog ops Q rest (a.put o.dst (.bool false)) w) : wpList Try.prog ops Q (o :: rest) a w :=
  wpList_neq_word hgd x y ho n n hn hn hx hy (by simpa using h)
set_option maxRecDepth 100000 in
/-- What of a row a deed leaves. -/
theorem Cn.leaves {r : Hd} {t l : Nat} {d : Dd} {h : Hd} {w : Nat} (c : Cn r t l d h w) : ((kdD d = 0 ∨ kdD d = 1) → h.stk = r.stk ∧ h.dly = r.dly ∧ h.fre = r.fre) ∧ (¬ (kdD d = 0 ∨ kdD d = 1) → h.dep = r.dep) := by
  unfold Cn at c
  rcases c with ⟨k, _, rfl, _⟩ | ⟨k, _, rfl, _⟩ | ⟨k, _, _, _, rfl, _⟩ | ⟨k, _, _, rfl, _⟩ | ⟨k, _, _, _, _, rfl, _⟩
  · exact ⟨fun _ => ⟨rfl, rfl, rfl⟩, fun h => absurd (.inl k) h⟩
  · exact ⟨fun _ => ⟨rfl, rfl, rfl⟩, fun h => absurd (.inr k) h⟩
  · exact ⟨fun h => by rw [k] at h; rcases h with h | h <;> exact absurd h (by decide), fun _ => rfl⟩
  · exact ⟨fun h => by rw [k] at h; rcases h with h | h <;> exact absurd h (by decide), fun _ => rfl⟩
  · exact ⟨fun h => by rw [k] at h; rcases h with h | h <;> exact absurd h (by decide), fun _ => rfl⟩
set_option maxRecDepth 100000 in
set_option maxHeartbeats 16000000 in
theorem ledgerApart_any (v : Value) (l : List Hd) (a b : Dd) (w : World) (hs : Hds w v l) (ha : a.ok) (hb : b.ok) : Calls Try.prog 8 #[.agg #[v], .agg (ddc a), .agg (ddc b)] w (RetT w) := by
  have HA := Lib.hid ha
  have HB := Lib.hid hb
  have HK := Lib.hid hs.oks
  obtain ⟨w0, hw0⟩ : ∃ w0, ((w.alloc (.cells #[v] 59)).alloc (.cells (ddc a) 63)).alloc (.cells (ddc b) 63) = w0 := ⟨_, rfl⟩
  have HW0 := Lib.hid hw0
  have HgL : Hid (Cs w0 w.heap.size 59 #[v]) := Lib.hid (by rw [← hw0]; exact Cs.alloc (Cs.alloc (Cs.new _ _ _ _ rfl) _) _)
  have HgA : Hid (Db w0 (w.heap.size + 1) a) := Lib.hid (by rw [← hw0]; exact Cs.alloc (Cs.new _ _ _ _ (by rw [World.size_alloc])) _)
  have HgB : Hid (Db w0 (w.heap.size + 2) b) := Lib.hid (by rw [← hw0]; exact Cs.new _ _ _ _ (by rw [World.size_alloc, World.size_alloc]))
  have HE : Hid (Ext w w0) := Lib.hid (by rw [← hw0]; exact (((Ext.refl w).alloc _).alloc _).alloc _)
  have HS := Lib.hid (hs.ext HE.out)
  obtain ⟨ac, hac⟩ : ∃ ac, ddc a = ac := ⟨_, rfl⟩
  obtain ⟨bc, hbc⟩ : ∃ bc, ddc b = bc := ⟨_, rfl⟩
  rw [hac, hbc] at HW0 ⊢
  clear hs ha hb hw0 hac hbc
  go_enter Try.func8, Try.ntmps8
  go_upto_region 1 with fail
  rw [HW0.out]
  clear HW0
  obtain ⟨gL, hgL⟩ : ∃ g, w.heap.size = g := ⟨_, rfl⟩
  obtain ⟨gA, hgA⟩ : ∃ g, w.heap.size + 1 = g := ⟨_, rfl⟩
  obtain ⟨gB, hgB⟩ : ∃ g, w.heap.size + 2 = g := ⟨_, rfl⟩
  rw [hgB] at HgB ⊢
  rw [hgA] at HgA ⊢
  rw [hgL] at HgL ⊢
  clear hgL hgA hgB
  go_wp2_with fail
  refine (wakesL_any _).mono ?_
  rintro e w1 ⟨rfl, he⟩
  replace HE := Lib.hid (HE.out.trans he)
  replace HgL := Lib.hid (Cs.ext HgL.out he)
  replace HgA := Lib.hid (HgA.out.ext he)
  replace HgB := Lib.hid (HgB.out.ext he)
  replace HS := Lib.hid (HS.out.ext he)
  clear he
  have qL := HgL.out.cell 0 _ rfl
  go_wp2_with fail
  refine (overL_any v l _ HS.out).mono ?_
  rintro e w2 ⟨rfl, he⟩
  replace HE := Lib.hid (HE.out.trans he)
  replace HgL := Lib.hid (Cs.ext HgL.out he)
  replace HgA := Lib.hid (HgA.out.ext he)
  replace HgB := Lib.hid (HgB.out.ext he)
  replace HS := Lib.hid (HS.out.ext he)
  clear he qL
  by_cases ho : 40 < l.length
  · rw [decide_eq_true ho]
    clear ho
    go_wp2_with fail
    go_ret
    exact ⟨rfl, HE.out⟩
  rw [decide_eq_false ho]
  clear ho
  have qL := HgL.out.cell 0 _ rfl
  go_wp2_with fail
  refine (ledCheck_any v l _ HS.out).mono ?_
  rintro e w3 ⟨rfl, he⟩
  replace HE := Lib.hid (HE.out.trans he)
  replace HgL := Lib.hid (Cs.ext HgL.out he)
  replace HgA := Lib.hid (HgA.out.ext he)
  replace HgB := Lib.hid (HgB.out.ext he)
  replace HS := Lib.hid (HS.out.ext he)
  clear he qL
  rw [show chkG l = if rightG l then 0 else 170 from rfl]
  cases hr : rightG l with
  | false =>
    clear hr
    go_wp2_with fail
    go_ret
    exact ⟨rfl, HE.out⟩
  | true =>
    have HRT := Lib.hid hr
    have HRG := Lib.hid ((rg_iff HK.out).1 hr)
    clear hr
    have qL := HgL.out.cell 0 _ rfl
    have qa : w3.cell? ⟨gA, 1, none⟩ = some (.int .u64 (a.addr : Nat)) := Cs.cell HgA.out 1 _ rfl
    go_wp2_with fail
    refine (findL_any v l a.addr _ HS.out HA.out.2.1).mono ?_
    rintro e wx ⟨rfl, he⟩
    replace HE := Lib.hid (HE.out.trans he)
    replace HgL := Lib.hid (Cs.ext HgL.out he)
    replace HgA := Lib.hid (HgA.out.ext he)
    replace HgB := Lib.hid (HgB.out.ext he)
    replace HS := Lib.hid (HS.out.ext he)
    clear he
    obtain ⟨f, hf⟩ : ∃ f, fdG l a.addr = f := ⟨_, rfl⟩
    have HFg7 := Lib.hid hf
    have HOg7 := Lib.hid (show f.ok by rw [← hf]; exact fdG_ok HK.out HA.out.2.1)
    rw [hf]
    clear hf
    have HP1 := Lib.hid (hdc_one f)
    obtain ⟨fc, hfc⟩ : ∃ fc, hdc f = fc := ⟨_, rfl⟩
    have HFC := Lib.hid hfc
    have HFS := Lib.hid (show fc.size = 11 by rw [← hfc]; rfl)
    rw [hfc] at HP1 ⊢
    clear hfc
    go_upto_region 6 with ((with_reducible refine wpList_store_agg ?_ ?_ 68 (.tmp 7) (.tmp 33) ?_ hdinfo wx.heap.size (hdc hz0) fc ?_ ?_ ?_ ?_ ?_ ?_ ?_); (exact rfl); (exact rfl); (exact rfl); (exact HP1.out); (exact rfl); (exact rfl); (exact Cs.new _ _ _ _ rfl); (exact rfl); (exact HFS.out); intro wy ky gy; have KY := Lib.hid ky; have XY := Lib.hid (((Ext.refl wx).alloc (.cells (hdc hz0) 68)).grown gy (Nat.le_refl _)); clear ky gy)
    have Hg7 : Hid (Hb wy wx.heap.size f) := Lib.hid (by unfold Hb; rw [HFC.out]; exact KY.out)
    replace HE := Lib.hid (HE.out.trans XY.out)
    replace HgL := Lib.hid (Cs.ext HgL.out XY.out)
    replace HgA := Lib.hid (HgA.out.ext XY.out)
    replace HgB := Lib.hid (HgB.out.ext XY.out)
    replace HS := Lib.hid (HS.out.ext XY.out)
    obtain ⟨g7, hg⟩ : ∃ g, wx.heap.size = g := ⟨_, rfl⟩
    rw [hg] at Hg7 ⊢
    clear hg KY XY HFC HFS HP1
    clear qL qa
    have qL := HgL.out.cell 0 _ rfl
    have HRA := Lib.hid (Cs.rg HgA.out)
    obtain ⟨was, hwas⟩ : ∃ x, x = f := ⟨f, rfl⟩
    subst hwas
    go_wp2_with ((with_reducible refine wpList_load_dd ?_ (.tmp 4) ?_ (gA) (0) (a) ?_ ?_ ?_); (exact rfl); (exact rfl); (exact rfl); (exact HRA.out))
    refine (does_any a v l _ HA.out HS.out).mono ?_
    rintro e wx ⟨vn, rfl, ho, he⟩
    obtain ⟨r, hr⟩ : ∃ r, doS l a = r := ⟨_, rfl⟩
    have HRn := Lib.hid hr
    rw [hr] at ho ⊢
    clear hr
    obtain ⟨n, wa, ea⟩ := r
    dsimp only at ho ⊢
    have HSn := Lib.hid ho.hds
    have HV1 := Lib.hid (show vn.oneCell' = true by obtain ⟨A, c, e, _⟩ := ho.hds.len; rw [e]; rfl)
    replace HE := Lib.hid (HE.out.trans he)
    replace HgL := Lib.hid (Cs.ext HgL.out he)
    replace HgA := Lib.hid (HgA.out.ext he)
    replace HgB := Lib.hid (HgB.out.ext he)
    replace HS := Lib.hid (HS.out.ext he)
    replace Hg7 := Lib.hid (Hg7.out.ext he)
    clear ho he
    go_upto_region 7 with (first
      | ((with_reducible refine wpList_store_agg ?_ ?_ 59 (.tmp 8) (.tmp 38) ?_ ldinfo wx.heap.size #[.slice none 0 0] #[vn] ?_ ?_ ?_ ?_ ?_ ?_ ?_); (exact rfl); (exact rfl); (exact rfl); (exact one_val HV1.out); (exact rfl); (exact rfl); (exact Cs.alloc (Cs.new _ _ _ _ rfl) _); (exact rfl); (exact rfl); intro wy ky gy; have KY := Lib.hid ky; have GY := Lib.hid gy; clear ky gy)
      | ((with_reducible refine wpList_store_word rfl rfl 31 (.tmp 9) (.tmp 39) rfl winfo (wx.heap.size + 1) (wc 0) wa ?_ ?_ ?_ ?_ ?_); (exact two_new rfl); (exact rfl); (exact Cs.kept (Cs.new _ _ _ _ (by rw [World.size_alloc])) GY.out (some_ne (by omega))); (exact rfl); intro wz kz gz; have KZ := Lib.hid kz; have GZ := Lib.hid gz; clear kz gz))
    have XZ := Lib.hid (((((Ext.refl wx).alloc (.cells #[.slice none 0 0] 59)).alloc (.cells (wc 0) 31)).grown GY.out (Nat.le_refl _)).grown GZ.out (Nat.le_succ _))
    have Hgg8 := Lib.hid (Cs.kept KY.out GZ.out (some_ne (by omega)))
    have Hwg8 : Hid (Cs wz (wx.heap.size + 1) 31 (wc wa)) := Lib.hid KZ.out
    replace HSn := Lib.hid (HSn.out.ext XZ.out)
    replace HE := Lib.hid (HE.out.trans XZ.out)
    replace HgL := Lib.hid (Cs.ext HgL.out XZ.out)
    replace HgA := Lib.hid (HgA.out.ext XZ.out)
    replace HgB := Lib.hid (HgB.out.ext XZ.out)
    replace HS := Lib.hid (HS.out.ext XZ.out)
    replace Hg7 := Lib.hid (Hg7.out.ext XZ.out)
    obtain ⟨g8w, hgw⟩ : ∃ g, wx.heap.size + 1 = g := ⟨_, rfl⟩
    obtain ⟨g8, hg⟩ : ∃ g, wx.heap.size = g := ⟨_, rfl⟩
    rw [hgw] at Hwg8 ⊢
    rw [hg] at Hgg8 ⊢
    clear hg hgw KY KZ GY GZ XZ
    clear qL
    by_cases he0 : ea = 0
    · subst he0
      have HOW := Lib.hid (doS_own HK.out HRG.out HA.out HRn.out)
      have qn := Hgg8.out.cell 0 _ rfl
      have qa : wz.cell? ⟨gA, 1, none⟩ = some (.int .u64 (a.addr : Nat)) := Cs.cell HgA.out 1 _ rfl
      go_wp2_with fail
      refine (findL_any vn n a.addr _ HSn.out HA.out.2.1).mono ?_
      rintro e wx ⟨rfl, he⟩
      replace HE := Lib.hid (HE.out.trans he)
      replace HgL := Lib.hid (Cs.ext HgL.out he)
      replace Hgg8 := Lib.hid (Cs.ext Hgg8.out he)
      replace Hwg8 := Lib.hid (Cs.ext Hwg8.out he)
      replace HgA := Lib.hid (HgA.out.ext he)
      replace HgB := Lib.hid (HgB.out.ext he)
      replace HS := Lib.hid (HS.out.ext he)
      replace Hg7 := Lib.hid (Hg7.out.ext he)
      replace HSn := Lib.hid (HSn.out.ext he)
      clear he
      obtain ⟨f, hf⟩ : ∃ f, fdG n a.addr = f := ⟨_, rfl⟩
      have HFg11 := Lib.hid hf
      have HOg11 := Lib.hid (show f.ok by rw [← hf]; exact fdG_ok HOW.out.2.2.1 HA.out.2.1)
      rw [hf]
      clear hf
      have HP1 := Lib.hid (hdc_one f)
      obtain ⟨fc, hfc⟩ : ∃ fc, hdc f = fc := ⟨_, rfl⟩
      have HFC := Lib.hid hfc
      have HFS := Lib.hid (show fc.size = 11 by rw [← hfc]; rfl)
      rw [hfc] at HP1 ⊢
      clear hfc
      go_upto_region 10 with ((with_reducible refine wpList_store_agg ?_ ?_ 68 (.tmp 11) (.tmp 46) ?_ hdinfo wx.heap.size (hdc hz0) fc ?_ ?_ ?_ ?_ ?_ ?_ ?_); (exact rfl); (exact rfl); (exact rfl); (exact HP1.out); (exact rfl); (exact rfl); (exact Cs.new _ _ _ _ rfl); (exact rfl); (exact HFS.out); intro wy ky gy; have KY := Lib.hid ky; have XY := Lib.hid (((Ext.refl wx).alloc (.cells (hdc hz0) 68)).grown gy (Nat.le_refl _)); clear ky gy)
      have Hg11 : Hid (Hb wy wx.heap.size f) := Lib.hid (by unfold Hb; rw [HFC.out]; exact KY.out)
      replace HE := Lib.hid (HE.out.trans XY.out)
      replace HgL := Lib.hid (Cs.ext HgL.out XY.out)
      replace Hgg8 := Lib.hid (Cs.ext Hgg8.out XY.out)
      replace Hwg8 := Lib.hid (Cs.ext Hwg8.out XY.out)
      replace HgA := Lib.hid (HgA.out.ext XY.out)
      replace HgB := Lib.hid (HgB.out.ext XY.out)
      replace HS := Lib.hid (HS.out.ext XY.out)
      replace Hg7 := Lib.hid (Hg7.out.ext XY.out)
      replace HSn := Lib.hid (HSn.out.ext XY.out)
      obtain ⟨g11, hg⟩ : ∃ g, wx.heap.size = g := ⟨_, rfl⟩
      rw [hg] at Hg11 ⊢
      clear hg KY XY HFC HFS HP1
      clear qn qa
      have HIS := Lib.hid (show f = rowG n a.addr by rw [← HFg11.out]; exact fd_row ((rg_iff HOW.out.2.2.1).2 HOW.out.2.1) HOW.out.1)
      have HWS := Lib.hid (show was = rowG l a.addr by rw [← HFg7.out]; exact fd_row HRT.out HOW.out.1)
      have HLV := Lib.hid (show ((kdD a = 0 ∨ kdD a = 1) → f.stk = was.stk ∧ f.dly = was.dly ∧ f.fre = was.fre) ∧ (¬ (kdD a = 0 ∨ kdD a = 1) → f.dep = was.dep) by rw [HIS.out, HWS.out]; exact HOW.out.2.2.2.2.1.leaves)
      have qk : wy.cell? ⟨gA, 0, none⟩ = some (.int .i64 a.kind) := Cs.cell HgA.out 0 _ rfl
      by_cases hk : kdD a = 0 ∨ kdD a = 1
      · have e1 : decide ((IntKind.u64.wrap a.kind).tmod 5 < 2) = true := (kd_lt2 a).2 hk
        have e2 : (IntKind.u64.wrap a.kind).tmod 5 < 2 := of_decide_eq_true e1
        obtain ⟨s1, s2, s3⟩ := HLV.out.1 hk
        have HW1 := Lib.hid (show wy.rangeAt g11 5 (wc was.stk).toList by rw [← s1]; exact Hb.stk Hg11.out)
        have HW2 := Lib.hid (Hb.stk Hg7.out)
        have r1 : wy.cell? ⟨g11, 9, none⟩ = some (.int .u64 (was.dly : Nat)) := by rw [← s2]; exact Hb.dly Hg11.out
        have r2 : wy.cell? ⟨g7, 9, none⟩ = some (.int .u64 (was.dly : Nat)) := Hb.dly Hg7.out
        have r3 : wy.cell? ⟨g11, 10, none⟩ = some (.int .u64 (was.fre : Nat)) := by rw [← s3]; exact Hb.fre Hg11.out
        have r4 : wy.cell? ⟨g7, 10, none⟩ = some (.int .u64 (was.fre : Nat)) := Hb.fre Hg7.out
        have e3 : ((was.dly : Int) != (was.dly : Int)) = false := by simp
        have e4 : ((was.fre : Int) != (was.fre : Int)) = false := by simp
        have hws := HOg7.out.2.2.1
        have HM := Lib.hid hws
        clear hk s1 s2 s3 hws
        go_upto_region 15 with (first
          | ((with_reducible refine wpList_load_wordIn ?_ (.tmp 52) ?_ g11 5 (was.stk) ?_ ?_ ?_); (exact rfl); (exact rfl); (exact rfl); (exact HW1.out))
          | ((with_reducible refine wpList_load_wordIn ?_ (.tmp 54) ?_ g7 5 (was.stk) ?_ ?_ ?_); (exact rfl); (exact rfl); (exact rfl); (exact HW2.out))
          | ((with_reducible refine wpList_neq_wsame ?_ (.tmp 53) (.tmp 55) ?_ was.stk HM.out ?_ ?_ ?_); (exact rfl); (exact rfl); (exact rfl); (exact rfl)))
        clear e1 e2 e3 e4 r1 r2 r3 r4 qk
        have qa : wy.cell? ⟨gA, 1, none⟩ = some (.int .u64 (a.addr : Nat)) := Cs.cell HgA.out 1 _ rfl
        have qb : wy.cell? ⟨gB, 1, none⟩ = some (.int .u64 (b.addr : Nat)) := Cs.cell HgB.out 1 _ rfl
        by_cases hab : a.addr = b.addr
        · have e1 : ((a.addr : Int) == (b.addr : Int)) = true := by rw [beq_iff_eq]; omega
          clear hab
          go_wp2_with fail
          go_ret
          exact ⟨rfl, HE.out⟩
        have e1 : ((a.addr : Int) == (b.addr : Int)) = false := by rw [beq_eq_false_iff_ne]; omega
        have HAB := Lib.hid hab
        clear hab
        have qL := HgL.out.cell 0 _ rfl
        have HRB := Lib.hid (Cs.rg HgB.out)
        go_wp2_with ((with_reducible refine wpList_load_dd ?_ (.tmp 5) ?_ (gB) (0) (b) ?_ ?_ ?_); (exact rfl); (exact rfl); (exact rfl); (exact HRB.out))
        refine (does_any b v l _ HB.out HS.out).mono ?_
        rintro e wx ⟨vm, rfl, ho, he⟩
        obtain ⟨r, hr⟩ : ∃ r, doS l b = r := ⟨_, rfl⟩
        have HRm := Lib.hid hr
        rw [hr] at ho ⊢
        clear hr
        obtain ⟨m, wb, eb⟩ := r
        dsimp only at ho ⊢
        have HSm := Lib.hid ho.hds
        have HV1 := Lib.hid (show vm.oneCell' = true by obtain ⟨A, c, e, _⟩ := ho.hds.len; rw [e]; rfl)
        replace HE := Lib.hid (HE.out.trans he)
        replace HgL := Lib.hid (Cs.ext HgL.out he)
        replace Hgg8 := Lib.hid (Cs.ext Hgg8.out he)
        replace Hwg8 := Lib.hid (Cs.ext Hwg8.out he)
        replace HgA := Lib.hid (HgA.out.ext he)
        replace HgB := Lib.hid (HgB.out.ext he)
        replace HS := Lib.hid (HS.out.ext he)
        replace Hg7 := Lib.hid (Hg7.out.ext he)
        replace HSn := Lib.hid (HSn.out.ext he)
        replace Hg11 := Lib.hid (Hg11.out.ext he)
        clear ho he
        go_upto_region 18 with (first
          | ((with_reducible refine wpList_store_agg ?_ ?_ 59 (.tmp 12) (.tmp 85) ?_ ldinfo wx.heap.size #[.slice none 0 0] #[vm] ?_ ?_ ?_ ?_ ?_ ?_ ?_); (exact rfl); (exact rfl); (exact rfl); (exact one_val HV1.out); (exact rfl); (exact rfl); (exact Cs.alloc (Cs.new _ _ _ _ rfl) _); (exact rfl); (exact rfl); intro wy ky gy; have KY := Lib.hid ky; have GY := Lib.hid gy; clear ky gy)
          | ((with_reducible refine wpList_store_word rfl rfl 31 (.tmp 13) (.tmp 86) rfl winfo (wx.heap.size + 1) (wc 0) wb ?_ ?_ ?_ ?_ ?_); (exact two_new rfl); (exact rfl); (exact Cs.kept (Cs.new _ _ _ _ (by rw [World.size_alloc])) GY.out (some_ne (by omega))); (exact rfl); intro wz kz gz; have KZ := Lib.hid kz; have GZ := Lib.hid gz; clear kz gz))
        have XZ := Lib.hid (((((Ext.refl wx).alloc (.cells #[.slice none 0 0] 59)).alloc (.cells (wc 0) 31)).grown GY.out (Nat.le_refl _)).grown GZ.out (Nat.le_succ _))
        have Hgg12 := Lib.hid (Cs.kept KY.out GZ.out (some_ne (by omega)))
        have Hwg12 : Hid (Cs wz (wx.heap.size + 1) 31 (wc wb)) := Lib.hid KZ.out
        replace HSm := Lib.hid (HSm.out.ext XZ.out)
        replace HE := Lib.hid (HE.out.trans XZ.out)
        replace HgL := Lib.hid (Cs.ext HgL.out XZ.out)
        replace Hgg8 := Lib.hid (Cs.ext Hgg8.out XZ.out)
        replace Hwg8 := Lib.hid (Cs.ext Hwg8.out XZ.out)
        replace HgA := Lib.hid (HgA.out.ext XZ.out)
        replace HgB := Lib.hid (HgB.out.ext XZ.out)
        replace HS := Lib.hid (HS.out.ext XZ.out)
        replace Hg7 := Lib.hid (Hg7.out.ext XZ.out)
        replace HSn := Lib.hid (HSn.out.ext XZ.out)
        replace Hg11 := Lib.hid (Hg11.out.ext XZ.out)
        obtain ⟨g12w, hgw⟩ : ∃ g, wx.heap.size + 1 = g := ⟨_, rfl⟩
        obtain ⟨g12, hg⟩ : ∃ g, wx.heap.size = g := ⟨_, rfl⟩
        rw [hgw] at Hwg12 ⊢
        rw [hg] at Hgg12 ⊢
        clear hg hgw KY KZ GY GZ XZ
        clear qL qa qb e1
        have qn := Hgg8.out.cell 0 _ rfl
        have HRB := Lib.hid (Cs.rg HgB.out)
        go_wp2_with ((with_reducible refine wpList_load_dd ?_ (.tmp 5) ?_ (gB) (0) (b) ?_ ?_ ?_); (exact rfl); (exact rfl); (exact rfl); (exact HRB.out))
        refine (does_any b vn n _ HB.out HSn.out).mono ?_
        rintro e wx ⟨vx, rfl, ho, he⟩
        obtain ⟨r, hr⟩ : ∃ r, doS n b = r := ⟨_, rfl⟩
        have HRx := Lib.hid hr
        rw [hr] at ho ⊢
        clear hr
        obtain ⟨x, wb2, eb2⟩ := r
        dsimp only at ho ⊢
        have HSx := Lib.hid ho.hds
        have HV1 := Lib.hid (show vx.oneCell' = true by obtain ⟨A, c, e, _⟩ := ho.hds.len; rw [e]; rfl)
        replace HE := Lib.hid (HE.out.trans he)
        replace HgL := Lib.hid (Cs.ext HgL.out he)
        replace Hgg8 := Lib.hid (Cs.ext Hgg8.out he)
        replace Hwg8 := Lib.hid (Cs.ext Hwg8.out he)
        replace Hgg12 := Lib.hid (Cs.ext Hgg12.out he)
        replace Hwg12 := Lib.hid (Cs.ext Hwg12.out he)
        replace HgA := Lib.hid (HgA.out.ext he)
        replace HgB := Lib.hid (HgB.out.ext he)
        replace HS := Lib.hid (HS.out.ext he)
        replace Hg7 := Lib.hid (Hg7.out.ext he)
        replace HSn := Lib.hid (HSn.out.ext he)
        replace Hg11 := Lib.hid (Hg11.out.ext he)
        replace HSm := Lib.hid (HSm.out.ext he)
        clear ho he
        go_upto_region 19 with (first
          | ((with_reducible refine wpList_store_agg ?_ ?_ 59 (.tmp 15) (.tmp 92) ?_ ldinfo wx.heap.size #[.slice none 0 0] #[vx] ?_ ?_ ?_ ?_ ?_ ?_ ?_); (exact rfl); (exact rfl); (exact rfl); (exact one_val HV1.out); (exact rfl); (exact rfl); (exact Cs.alloc (Cs.new _ _ _ _ rfl) _); (exact rfl); (exact rfl); intro wy ky gy; have KY := Lib.hid ky; have GY := Lib.hid gy; clear ky gy)
          | ((with_reducible refine wpList_store_word rfl rfl 31 (.tmp 16) (.tmp 93) rfl winfo (wx.heap.size + 1) (wc 0) wb2 ?_ ?_ ?_ ?_ ?_); (exact two_new rfl); (exact rfl); (exact Cs.kept (Cs.new _ _ _ _ (by rw [World.size_alloc])) GY.out (some_ne (by omega))); (exact rfl); intro wz kz gz; have KZ := Lib.hid kz; have GZ := Lib.hid gz; clear kz gz))
        have XZ := Lib.hid (((((Ext.refl wx).alloc (.cells #[.slice none 0 0] 59)).alloc (.cells (wc 0) 31)).grown GY.out (Nat.le_refl _)).grown GZ.out (Nat.le_succ _))
        have Hgg15 := Lib.hid (Cs.kept KY.out GZ.out (some_ne (by omega)))
        have Hwg15 : Hid (Cs wz (wx.heap.size + 1) 31 (wc wb2)) := Lib.hid KZ.out
        replace HSx := Lib.hid (HSx.out.ext XZ.out)
        replace HE := Lib.hid (HE.out.trans XZ.out)
        replace HgL := Lib.hid (Cs.ext HgL.out XZ.out)
        replace Hgg8 := Lib.hid (Cs.ext Hgg8.out XZ.out)
        replace Hwg8 := Lib.hid (Cs.ext Hwg8.out XZ.out)
        replace Hgg12 := Lib.hid (Cs.ext Hgg12.out XZ.out)
        replace Hwg12 := Lib.hid (Cs.ext Hwg12.out XZ.out)
        replace HgA := Lib.hid (HgA.out.ext XZ.out)
        replace HgB := Lib.hid (HgB.out.ext XZ.out)
        replace HS := Lib.hid (HS.out.ext XZ.out)
        replace Hg7 := Lib.hid (Hg7.out.ext XZ.out)
        replace HSn := Lib.hid (HSn.out.ext XZ.out)
        replace Hg11 := Lib.hid (Hg11.out.ext XZ.out)
        replace HSm := Lib.hid (HSm.out.ext XZ.out)
        obtain ⟨g15w, hgw⟩ : ∃ g, wx.heap.size + 1 = g := ⟨_, rfl⟩
        obtain ⟨g15, hg⟩ : ∃ g, wx.heap.size = g := ⟨_, rfl⟩
        rw [hgw] at Hwg15 ⊢
        rw [hg] at Hgg15 ⊢
        clear hg hgw KY KZ GY GZ XZ
        clear qn
        by_cases hb0 : eb = 0
        case neg =>
          have e1 : (eb != 0) = true := by simpa using hb0
          go_wp2_with fail
          go_ret
          exact ⟨rfl, HE.out⟩
        subst hb0
        by_cases hb0 : eb2 = 0
        case neg =>
          have e1 : (eb2 != 0) = true := by simpa using hb0
          go_wp2_with fail
          go_ret
          exact ⟨rfl, HE.out⟩
        subst hb0
        have HAP := Lib.hid (doS_apart HK.out HRG.out HA.out HB.out HAB.out HRn.out HRm.out HRx.out)
        have qm := Hgg12.out.cell 0 _ rfl
        have HRA := Lib.hid (Cs.rg HgA.out)
        go_wp2_with ((with_reducible refine wpList_load_dd ?_ (.tmp 4) ?_ (gA) (0) (a) ?_ ?_ ?_); (exact rfl); (exact rfl); (exact rfl); (exact HRA.out))
        refine (does_any a vm m _ HA.out HSm.out).mono ?_
        rintro e wx ⟨vy, rfl, ho, he⟩
        obtain ⟨r, hr⟩ : ∃ r, doS m a = r := ⟨_, rfl⟩
        have HRy := Lib.hid hr
        rw [hr] at ho ⊢
        clear hr
        obtain ⟨y, wa2, ea2⟩ := r
        dsimp only at ho ⊢
        have HSy := Lib.hid ho.hds
        have HV1 := Lib.hid (show vy.oneCell' = true by obtain ⟨A, c, e, _⟩ := ho.hds.len; rw [e]; rfl)
        replace HE := Lib.hid (HE.out.trans he)
        replace HgL := Lib.hid (Cs.ext HgL.out he)
        replace Hgg8 := Lib.hid (Cs.ext Hgg8.out he)
        replace Hwg8 := Lib.hid (Cs.ext Hwg8.out he)
        replace Hgg12 := Lib.hid (Cs.ext Hgg12.out he)
        replace Hwg12 := Lib.hid (Cs.ext Hwg12.out he)
        replace Hgg15 := Lib.hid (Cs.ext Hgg15.out he)
        replace Hwg15 := Lib.hid (Cs.ext Hwg15.out he)
        replace HgA := Lib.hid (HgA.out.ext he)
        replace HgB := Lib.hid (HgB.out.ext he)
        replace HS := Lib.hid (HS.out.ext he)
        replace Hg7 := Lib.hid (Hg7.out.ext he)
        replace HSn := Lib.hid (HSn.out.ext he)
        replace Hg11 := Lib.hid (Hg11.out.ext he)
        replace HSm := Lib.hid (HSm.out.ext he)
        replace HSx := Lib.hid (HSx.out.ext he)
        clear ho he
        go_upto_region 22 with (first
          | ((with_reducible refine wpList_store_agg ?_ ?_ 59 (.tmp 18) (.tmp 105) ?_ ldinfo wx.heap.size #[.slice none 0 0] #[vy] ?_ ?_ ?_ ?_ ?_ ?_ ?_); (exact rfl); (exact rfl); (exact rfl); (exact one_val HV1.out); (exact rfl); (exact rfl); (exact Cs.alloc (Cs.new _ _ _ _ rfl) _); (exact rfl); (exact rfl); intro wy ky gy; have KY := Lib.hid ky; have GY := Lib.hid gy; clear ky gy)
          | ((with_reducible refine wpList_store_word rfl rfl 31 (.tmp 19) (.tmp 106) rfl winfo (wx.heap.size + 1) (wc 0) wa2 ?_ ?_ ?_ ?_ ?_); (exact two_new rfl); (exact rfl); (exact Cs.kept (Cs.new _ _ _ _ (by rw [World.size_alloc])) GY.out (some_ne (by omega))); (exact rfl); intro wz kz gz; have KZ := Lib.hid kz; have GZ := Lib.hid gz; clear kz gz))
        have XZ := Lib.hid (((((Ext.refl wx).alloc (.cells #[.slice none 0 0] 59)).alloc (.cells (wc 0) 31)).grown GY.out (Nat.le_refl _)).grown GZ.out (Nat.le_succ _))
        have Hgg18 := Lib.hid (Cs.kept KY.out GZ.out (some_ne (by omega)))
        have Hwg18 : Hid (Cs wz (wx.heap.size + 1) 31 (wc wa2)) := Lib.hid KZ.out
        replace HSy := Lib.hid (HSy.out.ext XZ.out)
        replace HE := Lib.hid (HE.out.trans XZ.out)
        replace HgL := Lib.hid (Cs.ext HgL.out XZ.out)
        replace Hgg8 := Lib.hid (Cs.ext Hgg8.out XZ.out)
        replace Hwg8 := Lib.hid (Cs.ext Hwg8.out XZ.out)
        replace Hgg12 := Lib.hid (Cs.ext Hgg12.out XZ.out)
        replace Hwg12 := Lib.hid (Cs.ext Hwg12.out XZ.out)
        replace Hgg15 := Lib.hid (Cs.ext Hgg15.out XZ.out)
        replace Hwg15 := Lib.hid (Cs.ext Hwg15.out XZ.out)
        replace HgA := Lib.hid (HgA.out.ext XZ.out)
        replace HgB := Lib.hid (HgB.out.ext XZ.out)
        replace HS := Lib.hid (HS.out.ext XZ.out)
        replace Hg7 := Lib.hid (Hg7.out.ext XZ.out)
        replace HSn := Lib.hid (HSn.out.ext XZ.out)
        replace Hg11 := Lib.hid (Hg11.out.ext XZ.out)
        replace HSm := Lib.hid (HSm.out.ext XZ.out)
        replace HSx := Lib.hid (HSx.out.ext XZ.out)
        obtain ⟨g18w, hgw⟩ : ∃ g, wx.heap.size + 1 = g := ⟨_, rfl⟩
        obtain ⟨g18, hg⟩ : ∃ g, wx.heap.size = g := ⟨_, rfl⟩
        rw [hgw] at Hwg18 ⊢
        rw [hg] at Hgg18 ⊢
        clear hg hgw KY KZ GY GZ XZ
        clear qm
        obtain ⟨wq, hq⟩ := HAP.out
        rw [HRy.out] at hq
        injection hq with hq1 hq2
        injection hq2 with hq2 hq3
        subst hq1 hq3
        have qx := Hgg15.out.cell 0 _ rfl
        have qy := Hgg18.out.cell 0 _ rfl
        clear hq2
        go_wp2_with fail
        refine (sameL_any vx vy y y _ HSx.out HSy.out).mono ?_
        rintro e w9 ⟨rfl, he⟩
        rw [(sameG_iff y y).2 rfl]
        go_wp2_with fail
        go_ret
        exact ⟨rfl, HE.out.trans he⟩
      · have e1 : decide ((IntKind.u64.wrap a.kind).tmod 5 < 2) = false := by
          cases hd : decide (kdD a < 2) with
          | false => exact hd
          | true => exact absurd ((kd_lt2 a).1 hd) hk
        have e2 : ¬ (IntKind.u64.wrap a.kind).tmod 5 < 2 := of_decide_eq_false e1
        have s1 := HLV.out.2 hk
        have HW1 := Lib.hid (show wy.rangeAt g11 1 (wc was.dep).toList by rw [← s1]; exact Hb.dep Hg11.out)
        have HW2 := Lib.hid (Hb.dep Hg7.out)
        have hws := HOg7.out.2.1
        have HM := Lib.hid hws
        clear hk s1 hws
        go_upto_region 15 with (first
          | ((with_reducible refine wpList_load_wordIn ?_ (.tmp 71) ?_ g11 1 (was.dep) ?_ ?_ ?_); (exact rfl); (exact rfl); (exact rfl); (exact HW1.out))
          | ((with_reducible refine wpList_load_wordIn ?_ (.tmp 73) ?_ g7 1 (was.dep) ?_ ?_ ?_); (exact rfl); (exact rfl); (exact rfl); (exact HW2.out))
          | ((with_reducible refine wpList_neq_wsame ?_ (.tmp 72) (.tmp 74) ?_ was.dep HM.out ?_ ?_ ?_); (exact rfl); (exact rfl); (exact rfl); (exact rfl)))
        clear e1 e2 qk
        have qa : wy.cell? ⟨gA, 1, none⟩ = some (.int .u64 (a.addr : Nat)) := Cs.cell HgA.out 1 _ rfl
        have qb : wy.cell? ⟨gB, 1, none⟩ = some (.int .u64 (b.addr : Nat)) := Cs.cell HgB.out 1 _ rfl
        by_cases hab : a.addr = b.addr
        · have e1 : ((a.addr : Int) == (b.addr : Int)) = true := by rw [beq_iff_eq]; omega
          clear hab
          go_wp2_with fail
          go_ret
          exact ⟨rfl, HE.out⟩
        have e1 : ((a.addr : Int) == (b.addr : Int)) = false := by rw [beq_eq_false_iff_ne]; omega
        have HAB := Lib.hid hab
        clear hab
        have qL := HgL.out.cell 0 _ rfl
        have HRB := Lib.hid (Cs.rg HgB.out)
        go_wp2_with ((with_reducible refine wpList_load_dd ?_ (.tmp 5) ?_ (gB) (0) (b) ?_ ?_ ?_); (exact rfl); (exact rfl); (exact rfl); (exact HRB.out))
        refine (does_any b v l _ HB.out HS.out).mono ?_
        rintro e wx ⟨vm, rfl, ho, he⟩
        obtain ⟨r, hr⟩ : ∃ r, doS l b = r := ⟨_, rfl⟩
        have HRm := Lib.hid hr
        rw [hr] at ho ⊢
        clear hr
        obtain ⟨m, wb, eb⟩ := r
        dsimp only at ho ⊢
        have HSm := Lib.hid ho.hds
        have HV1 := Lib.hid (show vm.oneCell' = true by obtain ⟨A, c, e, _⟩ := ho.hds.len; rw [e]; rfl)
        replace HE := Lib.hid (HE.out.trans he)
        replace HgL := Lib.hid (Cs.ext HgL.out he)
        replace Hgg8 := Lib.hid (Cs.ext Hgg8.out he)
        replace Hwg8 := Lib.hid (Cs.ext Hwg8.out he)
        replace HgA := Lib.hid (HgA.out.ext he)
        replace HgB := Lib.hid (HgB.out.ext he)
        replace HS := Lib.hid (HS.out.ext he)
        replace Hg7 := Lib.hid (Hg7.out.ext he)
        replace HSn := Lib.hid (HSn.out.ext he)
        replace Hg11 := Lib.hid (Hg11.out.ext he)
        clear ho he
        go_upto_region 18 with (first
          | ((with_reducible refine wpList_store_agg ?_ ?_ 59 (.tmp 12) (.tmp 85) ?_ ldinfo wx.heap.size #[.slice none 0 0] #[vm] ?_ ?_ ?_ ?_ ?_ ?_ ?_); (exact rfl); (exact rfl); (exact rfl); (exact one_val HV1.out); (exact rfl); (exact rfl); (exact Cs.alloc (Cs.new _ _ _ _ rfl) _); (exact rfl); (exact rfl); intro wy ky gy; have KY := Lib.hid ky; have GY := Lib.hid gy; clear ky gy)
          | ((with_reducible refine wpList_store_word rfl rfl 31 (.tmp 13) (.tmp 86) rfl winfo (wx.heap.size + 1) (wc 0) wb ?_ ?_ ?_ ?_ ?_); (exact two_new rfl); (exact rfl); (exact Cs.kept (Cs.new _ _ _ _ (by rw [World.size_alloc])) GY.out (some_ne (by omega))); (exact rfl); intro wz kz gz; have KZ := Lib.hid kz; have GZ := Lib.hid gz; clear kz gz))
        have XZ := Lib.hid (((((Ext.refl wx).alloc (.cells #[.slice none 0 0] 59)).alloc (.cells (wc 0) 31)).grown GY.out (Nat.le_refl _)).grown GZ.out (Nat.le_succ _))
        have Hgg12 := Lib.hid (Cs.kept KY.out GZ.out (some_ne (by omega)))
        have Hwg12 : Hid (Cs wz (wx.heap.size + 1) 31 (wc wb)) := Lib.hid KZ.out
        replace HSm := Lib.hid (HSm.out.ext XZ.out)
        replace HE := Lib.hid (HE.out.trans XZ.out)
        replace HgL := Lib.hid (Cs.ext HgL.out XZ.out)
        replace Hgg8 := Lib.hid (Cs.ext Hgg8.out XZ.out)
        replace Hwg8 := Lib.hid (Cs.ext Hwg8.out XZ.out)
        replace HgA := Lib.hid (HgA.out.ext XZ.out)
        replace HgB := Lib.hid (HgB.out.ext XZ.out)
        replace HS := Lib.hid (HS.out.ext XZ.out)
        replace Hg7 := Lib.hid (Hg7.out.ext XZ.out)
        replace HSn := Lib.hid (HSn.out.ext XZ.out)
        replace Hg11 := Lib.hid (Hg11.out.ext XZ.out)
        obtain ⟨g12w, hgw⟩ : ∃ g, wx.heap.size + 1 = g := ⟨_, rfl⟩
        obtain ⟨g12, hg⟩ : ∃ g, wx.heap.size = g := ⟨_, rfl⟩
        rw [hgw] at Hwg12 ⊢
        rw [hg] at Hgg12 ⊢
        clear hg hgw KY KZ GY GZ XZ
        clear qL qa qb e1
        have qn := Hgg8.out.cell 0 _ rfl
        have HRB := Lib.hid (Cs.rg HgB.out)
        go_wp2_with ((with_reducible refine wpList_load_dd ?_ (.tmp 5) ?_ (gB) (0) (b) ?_ ?_ ?_); (exact rfl); (exact rfl); (exact rfl); (exact HRB.out))
        refine (does_any b vn n _ HB.out HSn.out).mono ?_
        rintro e wx ⟨vx, rfl, ho, he⟩
        obtain ⟨r, hr⟩ : ∃ r, doS n b = r := ⟨_, rfl⟩
        have HRx := Lib.hid hr
        rw [hr] at ho ⊢
        clear hr
        obtain ⟨x, wb2, eb2⟩ := r
        dsimp only at ho ⊢
        have HSx := Lib.hid ho.hds
        have HV1 := Lib.hid (show vx.oneCell' = true by obtain ⟨A, c, e, _⟩ := ho.hds.len; rw [e]; rfl)
        replace HE := Lib.hid (HE.out.trans he)
        replace HgL := Lib.hid (Cs.ext HgL.out he)
        replace Hgg8 := Lib.hid (Cs.ext Hgg8.out he)
        replace Hwg8 := Lib.hid (Cs.ext Hwg8.out he)
        replace Hgg12 := Lib.hid (Cs.ext Hgg12.out he)
        replace Hwg12 := Lib.hid (Cs.ext Hwg12.out he)
        replace HgA := Lib.hid (HgA.out.ext he)
        replace HgB := Lib.hid (HgB.out.ext he)
        replace HS := Lib.hid (HS.out.ext he)
        replace Hg7 := Lib.hid (Hg7.out.ext he)
        replace HSn := Lib.hid (HSn.out.ext he)
        replace Hg11 := Lib.hid (Hg11.out.ext he)
        replace HSm := Lib.hid (HSm.out.ext he)
        clear ho he
        go_upto_region 19 with (first
          | ((with_reducible refine wpList_store_agg ?_ ?_ 59 (.tmp 15) (.tmp 92) ?_ ldinfo wx.heap.size #[.slice none 0 0] #[vx] ?_ ?_ ?_ ?_ ?_ ?_ ?_); (exact rfl); (exact rfl); (exact rfl); (exact one_val HV1.out); (exact rfl); (exact rfl); (exact Cs.alloc (Cs.new _ _ _ _ rfl) _); (exact rfl); (exact rfl); intro wy ky gy; have KY := Lib.hid ky; have GY := Lib.hid gy; clear ky gy)
          | ((with_reducible refine wpList_store_word rfl rfl 31 (.tmp 16) (.tmp 93) rfl winfo (wx.heap.size + 1) (wc 0) wb2 ?_ ?_ ?_ ?_ ?_); (exact two_new rfl); (exact rfl); (exact Cs.kept (Cs.new _ _ _ _ (by rw [World.size_alloc])) GY.out (some_ne (by omega))); (exact rfl); intro wz kz gz; have KZ := Lib.hid kz; have GZ := Lib.hid gz; clear kz gz))
        have XZ := Lib.hid (((((Ext.refl wx).alloc (.cells #[.slice none 0 0] 59)).alloc (.cells (wc 0) 31)).grown GY.out (Nat.le_refl _)).grown GZ.out (Nat.le_succ _))
        have Hgg15 := Lib.hid (Cs.kept KY.out GZ.out (some_ne (by omega)))
        have Hwg15 : Hid (Cs wz (wx.heap.size + 1) 31 (wc wb2)) := Lib.hid KZ.out
        replace HSx := Lib.hid (HSx.out.ext XZ.out)
        replace HE := Lib.hid (HE.out.trans XZ.out)
        replace HgL := Lib.hid (Cs.ext HgL.out XZ.out)
        replace Hgg8 := Lib.hid (Cs.ext Hgg8.out XZ.out)
        replace Hwg8 := Lib.hid (Cs.ext Hwg8.out XZ.out)
        replace Hgg12 := Lib.hid (Cs.ext Hgg12.out XZ.out)
        replace Hwg12 := Lib.hid (Cs.ext Hwg12.out XZ.out)
        replace HgA := Lib.hid (HgA.out.ext XZ.out)
        replace HgB := Lib.hid (HgB.out.ext XZ.out)
        replace HS := Lib.hid (HS.out.ext XZ.out)
        replace Hg7 := Lib.hid (Hg7.out.ext XZ.out)
        replace HSn := Lib.hid (HSn.out.ext XZ.out)
        replace Hg11 := Lib.hid (Hg11.out.ext XZ.out)
        replace HSm := Lib.hid (HSm.out.ext XZ.out)
        obtain ⟨g15w, hgw⟩ : ∃ g, wx.heap.size + 1 = g := ⟨_, rfl⟩
        obtain ⟨g15, hg⟩ : ∃ g, wx.heap.size = g := ⟨_, rfl⟩
        rw [hgw] at Hwg15 ⊢
        rw [hg] at Hgg15 ⊢
        clear hg hgw KY KZ GY GZ XZ
        clear qn
        by_cases hb0 : eb = 0
        case neg =>
          have e1 : (eb != 0) = true := by simpa using hb0
          go_wp2_with fail
          go_ret
          exact ⟨rfl, HE.out⟩
        subst hb0
        by_cases hb0 : eb2 = 0
        case neg =>
          have e1 : (eb2 != 0) = true := by simpa using hb0
          go_wp2_with fail
          go_ret
          exact ⟨rfl, HE.out⟩
        subst hb0
        have HAP := Lib.hid (doS_apart HK.out HRG.out HA.out HB.out HAB.out HRn.out HRm.out HRx.out)
        have qm := Hgg12.out.cell 0 _ rfl
        have HRA := Lib.hid (Cs.rg HgA.out)
        go_wp2_with ((with_reducible refine wpList_load_dd ?_ (.tmp 4) ?_ (gA) (0) (a) ?_ ?_ ?_); (exact rfl); (exact rfl); (exact rfl); (exact HRA.out))
        refine (does_any a vm m _ HA.out HSm.out).mono ?_
        rintro e wx ⟨vy, rfl, ho, he⟩
        obtain ⟨r, hr⟩ : ∃ r, doS m a = r := ⟨_, rfl⟩
        have HRy := Lib.hid hr
        rw [hr] at ho ⊢
        clear hr
        obtain ⟨y, wa2, ea2⟩ := r
        dsimp only at ho ⊢
        have HSy := Lib.hid ho.hds
        have HV1 := Lib.hid (show vy.oneCell' = true by obtain ⟨A, c, e, _⟩ := ho.hds.len; rw [e]; rfl)
        replace HE := Lib.hid (HE.out.trans he)
        replace HgL := Lib.hid (Cs.ext HgL.out he)
        replace Hgg8 := Lib.hid (Cs.ext Hgg8.out he)
        replace Hwg8 := Lib.hid (Cs.ext Hwg8.out he)
        replace Hgg12 := Lib.hid (Cs.ext Hgg12.out he)
        replace Hwg12 := Lib.hid (Cs.ext Hwg12.out he)
        replace Hgg15 := Lib.hid (Cs.ext Hgg15.out he)
        replace Hwg15 := Lib.hid (Cs.ext Hwg15.out he)
        replace HgA := Lib.hid (HgA.out.ext he)
        replace HgB := Lib.hid (HgB.out.ext he)
        replace HS := Lib.hid (HS.out.ext he)
        replace Hg7 := Lib.hid (Hg7.out.ext he)
        replace HSn := Lib.hid (HSn.out.ext he)
        replace Hg11 := Lib.hid (Hg11.out.ext he)
        replace HSm := Lib.hid (HSm.out.ext he)
        replace HSx := Lib.hid (HSx.out.ext he)
        clear ho he
        go_upto_region 22 with (first
          | ((with_reducible refine wpList_store_agg ?_ ?_ 59 (.tmp 18) (.tmp 105) ?_ ldinfo wx.heap.size #[.slice none 0 0] #[vy] ?_ ?_ ?_ ?_ ?_ ?_ ?_); (exact rfl); (exact rfl); (exact rfl); (exact one_val HV1.out); (exact rfl); (exact rfl); (exact Cs.alloc (Cs.new _ _ _ _ rfl) _); (exact rfl); (exact rfl); intro wy ky gy; have KY := Lib.hid ky; have GY := Lib.hid gy; clear ky gy)
          | ((with_reducible refine wpList_store_word rfl rfl 31 (.tmp 19) (.tmp 106) rfl winfo (wx.heap.size + 1) (wc 0) wa2 ?_ ?_ ?_ ?_ ?_); (exact two_new rfl); (exact rfl); (exact Cs.kept (Cs.new _ _ _ _ (by rw [World.size_alloc])) GY.out (some_ne (by omega))); (exact rfl); intro wz kz gz; have KZ := Lib.hid kz; have GZ := Lib.hid gz; clear kz gz))
        have XZ := Lib.hid (((((Ext.refl wx).alloc (.cells #[.slice none 0 0] 59)).alloc (.cells (wc 0) 31)).grown GY.out (Nat.le_refl _)).grown GZ.out (Nat.le_succ _))
        have Hgg18 := Lib.hid (Cs.kept KY.out GZ.out (some_ne (by omega)))
        have Hwg18 : Hid (Cs wz (wx.heap.size + 1) 31 (wc wa2)) := Lib.hid KZ.out
        replace HSy := Lib.hid (HSy.out.ext XZ.out)
        replace HE := Lib.hid (HE.out.trans XZ.out)
        replace HgL := Lib.hid (Cs.ext HgL.out XZ.out)
        replace Hgg8 := Lib.hid (Cs.ext Hgg8.out XZ.out)
        replace Hwg8 := Lib.hid (Cs.ext Hwg8.out XZ.out)
        replace Hgg12 := Lib.hid (Cs.ext Hgg12.out XZ.out)
        replace Hwg12 := Lib.hid (Cs.ext Hwg12.out XZ.out)
        replace Hgg15 := Lib.hid (Cs.ext Hgg15.out XZ.out)
        replace Hwg15 := Lib.hid (Cs.ext Hwg15.out XZ.out)
        replace HgA := Lib.hid (HgA.out.ext XZ.out)
        replace HgB := Lib.hid (HgB.out.ext XZ.out)
        replace HS := Lib.hid (HS.out.ext XZ.out)
        replace Hg7 := Lib.hid (Hg7.out.ext XZ.out)
        replace HSn := Lib.hid (HSn.out.ext XZ.out)
        replace Hg11 := Lib.hid (Hg11.out.ext XZ.out)
        replace HSm := Lib.hid (HSm.out.ext XZ.out)
        replace HSx := Lib.hid (HSx.out.ext XZ.out)
        obtain ⟨g18w, hgw⟩ : ∃ g, wx.heap.size + 1 = g := ⟨_, rfl⟩
        obtain ⟨g18, hg⟩ : ∃ g, wx.heap.size = g := ⟨_, rfl⟩
        rw [hgw] at Hwg18 ⊢
        rw [hg] at Hgg18 ⊢
        clear hg hgw KY KZ GY GZ XZ
        clear qm
        obtain ⟨wq, hq⟩ := HAP.out
        rw [HRy.out] at hq
        injection hq with hq1 hq2
        injection hq2 with hq2 hq3
        subst hq1 hq3
        have qx := Hgg15.out.cell 0 _ rfl
        have qy := Hgg18.out.cell 0 _ rfl
        clear hq2
        go_wp2_with fail
        refine (sameL_any vx vy y y _ HSx.out HSy.out).mono ?_
        rintro e w9 ⟨rfl, he⟩
        rw [(sameG_iff y y).2 rfl]
        go_wp2_with fail
        go_ret
        exact ⟨rfl, HE.out.trans he⟩
    · have e1 : (ea != 0) = true := by simpa using he0
      go_wp2_with fail
      go_ret
      exact ⟨rfl, HE.out⟩
set_option maxRecDepth 100000 in
theorem ledgerApart_told (W : World) (args : Array Value) (h : Told Try.f8 W args) : Calls Try.prog 8 args W (RetT W) := by
  obtain ⟨H, enc, base, ds, p, hval, hA⟩ := h
  rw [Try.params8] at hA hval
  obtain ⟨v0, v1, v2, d0, d1, d2, p0, p1, p2, rfl, rfl, rfl, h0, h1, h2⟩ := trodAll_three hA
  obtain ⟨s0, x0, rfl, hx0⟩ := ledger_came (hval 0 _ v0 rfl rfl) h0
  obtain ⟨a, rfl, ha⟩ := deed_came (hval 1 _ v1 rfl rfl) h1
  obtain ⟨b, rfl, hb⟩ := deed_came (hval 2 _ v2 rfl rfl) h2
  exact ledgerApart_any s0 x0 a b W hx0 ha hb

set_option maxRecDepth 100000 in
theorem ledgerApart_spec (H : Type) : ∀ ds : List (DataW H), ds.length = Try.f8.params.toList.length → Rows.ledgerApartSpec.fn H ds = { results := [.lit (.bool true)], args := ds }
  | [_, _, _], _ => rfl
  | [], h | [_], h | [_, _], h | _ :: _ :: _ :: _ :: _, h => by rw [Try.params8] at h; simp at h

def zeroDeed : Value := .agg #[.int .i64 0, .int .u64 0, .int .u64 0, .int .u64 0, .int .u64 0, .int .u64 0, .int .u64 0, .int .u64 0]
set_option maxRecDepth 100000 in
theorem ledgerApart_holds : Rows.LedgerApartSaid :=
  OpenClaim.holds_of_wide 8 Try.f8 rfl rfl rfl rfl rfl rfl rfl ⟨rfl, rfl, rfl, rfl, rfl⟩ rfl rfl rfl rfl rfl (by kernel_rfl) Try.func8 (by kernel_rfl)
    (of_decide_eq_true (by kernel_rfl)) (by unfold Func.isWrapper; first | (rw [if_pos (by decide +kernel)]; kernel_rfl) | (rw [if_neg (by decide +kernel)]; exact ⟨rfl, rfl⟩))
    (fun os started H enc _ => law_lifted started (by kernel_rfl) Try.func8 rfl rfl (ledgerApart_spec H) (of_decide_eq_true (by kernel_rfl))
      (ChangeSpec.witness6 (enc := enc) (C := Try.checked) false ⟨#[], #[.agg #[.slice none 0 0], zeroDeed, zeroDeed], []⟩ 8 (by kernel_rfl) (by kernel_rfl) (by kernel_rfl) (by kernel_rfl)) ledgerApart_told)
end Go.Proofs.Yteidmoilldheeaa
