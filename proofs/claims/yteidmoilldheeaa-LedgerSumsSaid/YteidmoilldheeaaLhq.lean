/- LedgerSums: what comes may be; the Sum changes just by what is put in, and taken out; rows of others stay as they were. -/
import Derived.Test.YteidmoilldheeaaLpa
namespace Go.Proofs.Yteidmoilldheeaa
open Go.ChangeShapes Go.WideShapes Go.ChangeAt Go.RowKit Go.Shelf

set_option maxRecDepth 100000 in
theorem two_newS {x : Value} {p : Addr} (h : x = .pointer (some p)) : x = .pointer (some p) := h
/-- What a round finds: the ledger that is gone on from. -/
def LsR (w : World) (gL : Nat) (v : Value) (l : List Hd) (W : World) : Prop := Cs W gL 59 #[v] ∧ Hds W v l ∧ NB gL v l ∧ Rg l ∧ (∀ p ∈ l, p.ok) ∧ Ext w W
set_option maxRecDepth 100000 in
theorem LsR.ext {w W W' : World} {gL : Nat} {v : Value} {l : List Hd} (h : LsR w gL v l W) (he : Ext W W') : LsR w gL v l W' := ⟨Cs.ext h.1 he, h.2.1.ext he, h.2.2.1, h.2.2.2.1, h.2.2.2.2.1, h.2.2.2.2.2.trans he⟩
set_option maxRecDepth 100000 in
theorem ledCheck_ok {v : Value} {l : List Hd} {w : World} (hs : Hds w v l) (hr : rightG l = true) : Calls Try.prog 27 #[.agg #[v]] w fun e w' => e = .returned (.int .i64 0) ∧ Ext w w' :=
  (ledCheck_any v l w hs).mono fun _ _ h => ⟨by rw [h.1]; unfold chkG; rw [hr]; rfl, h.2⟩
set_option maxRecDepth 100000 in
theorem findL_eq {v : Value} {l : List Hd} {a : Nat} {w : World} {f : Hd} (hs : Hds w v l) (ha : a < 18446744073709551616) (hf : fdG l a = f) : Calls Try.prog 28 #[.agg #[v], .int .u64 (a : Nat)] w fun e w' => e = .returned (.agg (hdc f)) ∧ Ext w w' :=
  (findL_any v l a w hs ha).mono fun _ _ h => ⟨by rw [h.1, hf], h.2⟩
set_option maxRecDepth 100000 in
theorem sumL_eq {v : Value} {l : List Hd} {w : World} {n : Nat} (hs : Hds w v l) (hl : l.length ≤ 1000) (hf : sumG l = n) : Calls Try.prog 29 #[.agg #[v]] w fun e w' => e = .returned (.agg (wc n)) ∧ Ext w w' :=
  (sumL_any v l w hs hl).mono fun _ _ h => ⟨by rw [h.1, hf]; rfl, h.2⟩
set_option maxRecDepth 100000 in
theorem wpList_neq_hdsame {ops : Array Oper} {rest : List Oper} {o : Oper} {a : Act} {w : World} {Q : Exit → Act → World → Prop} (hgd : Region.wanted o (yielded ops a.tmps) = true) (x y : Operand) (ho : o.op = .binOp .neq 68 x y 68)
    (p : Hd) (hp : p.ok) (hx : a.eval x = .agg (hdc p)) (hy : a.eval y = .agg (hdc p)) (h : wpList Try.prog ops Q rest (a.put o.dst (.bool false)) w) : wpList Try.prog ops Q (o :: rest) a w :=
  wpList_neq_hd hgd x y ho p p hp hp hx hy (by rw [p.eqB_self]; exact h)
set_option maxRecDepth 100000 in
theorem wpList_neq_wsameS {ops : Array Oper} {rest : List Oper} {o : Oper} {a : Act} {w : World} {Q : Exit → Act → World → Prop} (hgd : Region.wanted o (yielded ops a.tmps) = true) (x y : Operand) (ho : o.op = .binOp .neq 31 x y 31)
    (n : Nat) (hn : n < M256) (hx : a.eval x = wv n) (hy : a.eval y = wv n) (h : wpList Try.prog ops Q rest (a.put o.dst (.bool false)) w) : wpList Try.prog ops Q (o :: rest) a w :=
  wpList_neq_word hgd x y ho n n hn hn hx hy (by simpa using h)
set_option maxRecDepth 100000 in
theorem Cn.wd {r : Hd} {t l : Nat} {d : Dd} {h : Hd} {w : Nat} (c : Cn r t l d h w) (k : kdD d ≠ 4) : w = 0 := by
  unfold Cn at c
  rcases c with ⟨_, _, _, e⟩ | ⟨_, _, _, e⟩ | ⟨_, _, _, _, _, e⟩ | ⟨_, _, _, _, e⟩ | ⟨k', _⟩
  · exact e
  · exact e
  · exact e
  · exact e
  · exact absurd k' k
set_option maxRecDepth 100000 in
set_option maxHeartbeats 16000000 in
theorem ledgerSums_any (v u : Value) (l : List Hd) (ds : List Dd) (oth : Nat) (w : World) (hs : Hds w v l) (hd : Dds w u ds) (hoth : oth < 18446744073709551616) : Calls Try.prog 6 #[.agg #[v], u, .int .u64 (oth : Nat)] w (RetT w) := by
  have HK := Lib.hid hs.oks
  have HNB := Lib.hid (NB.old hs (Nat.le_refl _))
  have HDS := Lib.hid hd
  have HOT := Lib.hid hoth
  obtain ⟨A2, c2, rfl, k1, k2⟩ := hd.len
  unfold maxLen at k2
  have HE := Lib.hid ((Ext.refl w).alloc (.cells #[v] 59))
  have HgL := Lib.hid (Cs.new w #[v] 59 _ rfl)
  have HS := Lib.hid (hs.ext HE.out)
  clear hs hd hoth
  go_enter Try.func6, Try.ntmps6
  go_upto_region 1 with fail
  generalize hwa : w.alloc (.cells #[v] 59) = w0 at *
  clear hwa
  obtain ⟨gL, hgL⟩ : ∃ g, w.heap.size = g := ⟨_, rfl⟩
  have HGL := Lib.hid (show w.heap.size ≤ gL by omega)
  rw [hgL] at HgL HNB ⊢
  clear hgL
  go_wp2_with fail
  refine (wakesL_any _).mono ?_
  rintro e w1 ⟨rfl, he⟩
  replace HE := Lib.hid (HE.out.trans he)
  replace HgL := Lib.hid (Cs.ext HgL.out he)
  replace HS := Lib.hid (HS.out.ext he)
  clear he
  have qL := HgL.out.cell 0 _ rfl
  go_wp2_with fail
  refine (overL_any v l _ HS.out).mono ?_
  rintro e w2 ⟨rfl, he⟩
  replace HE := Lib.hid (HE.out.trans he)
  replace HgL := Lib.hid (Cs.ext HgL.out he)
  replace HS := Lib.hid (HS.out.ext he)
  clear he qL
  by_cases ho : 40 < l.length
  · rw [decide_eq_true ho]
    clear ho
    go_wp2_with fail
    go_ret
    exact ⟨rfl, HE.out⟩
  rw [decide_eq_false ho]
  clear ho
  by_cases ho : 60 < ds.length
  · have e1 : decide ((60 : Int) < (ds.length : Int)) = true := decide_eq_true (by omega)
    have e2 : decide (60 < ds.length) = true := decide_eq_true ho
    clear ho
    go_wp2_with fail
    go_ret
    exact ⟨rfl, HE.out⟩
  have e1 : decide ((60 : Int) < (ds.length : Int)) = false := decide_eq_false (by omega)
  have e2 : decide (60 < ds.length) = false := decide_eq_false ho
  have hdl : (ds.length : Int) ≤ 60 := by omega
  clear ho
  have qL := HgL.out.cell 0 _ rfl
  go_wp2_with fail
  refine (ledCheck_any v l _ HS.out).mono ?_
  rintro e w3 ⟨rfl, he⟩
  replace HE := Lib.hid (HE.out.trans he)
  replace HgL := Lib.hid (Cs.ext HgL.out he)
  replace HS := Lib.hid (HS.out.ext he)
  clear he qL e1 e2
  rw [show chkG l = if rightG l then 0 else 170 from rfl]
  cases hr : rightG l with
  | false =>
    clear hr
    go_wp2_with fail
    go_ret
    exact ⟨rfl, HE.out⟩
  | true =>
    have HRG := Lib.hid ((rg_iff HK.out).1 hr)
    clear hr
    have HLS := Lib.hid (show LsR w gL v l w3 from ⟨HgL.out, HS.out, HNB.out, HRG.out, HK.out, HE.out⟩)
    clear HgL HS HNB HRG HK HE
    go_wp2_with fail
    go_loopw [30] (fun iv wr => ∃ k : Nat, k ≤ ds.length ∧ iv = .int .i64 k ∧ ∃ vc lc, Hid (LsR w gL vc lc wr)) (fun iv _ => ds.length - (intOf iv).toNat)
    case atStart => exact ⟨0, by omega, rfl, v, l, HLS⟩
    case round =>
      clear HLS
      obtain ⟨k, hk, rfl, vc, lc, HLS⟩ := hrel
      by_cases hlt : k < ds.length
      case neg =>
        obtain rfl : k = ds.length := by omega
        have hd : decide (ds.length < ds.length) = false := decide_eq_false (by omega)
        have hd2 : decide ((ds.length : Int) < (ds.length : Int)) = false := decide_eq_false (by omega)
        have HE := Lib.hid HLS.out.2.2.2.2.2
        clear HLS
        go_wp2_with fail
        go_ret
        exact ⟨rfl, HE.out⟩
      have hd : decide (k < ds.length) = true := decide_eq_true hlt
      have hd2 : decide ((k : Int) < (ds.length : Int)) = true := decide_eq_true (by omega)
      obtain ⟨bb, oo, rfl, hrg, hdk⟩ := (HDS.out.ext HLS.out.2.2.2.2.2).at k hlt
      have HR := Lib.hid hrg
      have HD := Lib.hid hdk
      clear hrg hdk
      generalize ds.getD k dz0 = d at *
      have HP1 := Lib.hid (ddc_one d)
      obtain ⟨pc, hpc⟩ : ∃ pc, ddc d = pc := ⟨_, rfl⟩
      have HPC := Lib.hid hpc
      have HPS := Lib.hid (show pc.size = 8 by rw [← hpc]; rfl)
      rw [hpc] at HP1
      clear hpc
      go_upto_region 8 with (first
        | ((with_reducible refine wpList_load_dd ?_ (.tmp 32) ?_ (bb) (oo + k * 8) (d) ?_ ?_ ?_); (exact rfl); (exact rfl); (exact rfl); (exact HR.out); rw [HPC.out])
        | ((with_reducible refine wpList_store_agg ?_ ?_ 63 (.tmp 8) (.tmp 33) ?_ ddinfo wr.heap.size (ddc dz0) pc ?_ ?_ ?_ ?_ ?_ ?_ ?_); (exact rfl); (exact rfl); (exact rfl); (exact HP1.out); (exact rfl); (exact rfl); (exact Cs.new _ _ _ _ rfl); (exact rfl); (exact HPS.out); intro wy ky gy; have KY := Lib.hid ky; have XY := Lib.hid (((Ext.refl wr).alloc (.cells (ddc dz0) 63)).grown gy (Nat.le_refl _)); clear ky gy))
      have Hg8 : Hid (Db wy wr.heap.size d) := Lib.hid (by unfold Db; rw [HPC.out]; exact KY.out)
      have HLC := Lib.hid (HLS.out.ext XY.out)
      have HGB := Lib.hid (show gL < wr.heap.size from Cs.lt HLS.out.1)
      have HE := Lib.hid HLC.out.2.2.2.2.2
      obtain ⟨g8, hg⟩ : ∃ g, wr.heap.size = g := ⟨_, rfl⟩
      rw [hg] at Hg8 HGB ⊢
      clear hg KY XY HPC HPS HP1 HR HLS
      have HGW := Lib.hid (show gL < wy.heap.size from Cs.lt HLC.out.1)
      have HS := Lib.hid HLC.out.2.1
      have HKL := Lib.hid (And.intro HLC.out.2.2.1 (And.intro HLC.out.2.2.2.1 HLC.out.2.2.2.2.1))
      have HgL := Lib.hid HLC.out.1
      clear HLC
      have qL := HgL.out.cell 0 _ rfl
      have HRA := Lib.hid (Cs.rg Hg8.out)
      go_wp2_with ((with_reducible refine wpList_load_dd ?_ (.tmp 8) ?_ (g8) (0) (d) ?_ ?_ ?_); (exact rfl); (exact rfl); (exact rfl); (exact HRA.out))
      refine (does_any d vc lc _ HD.out HS.out).mono ?_
      rintro e wx ⟨vn, rfl, ho, he⟩
      obtain ⟨r, hr⟩ : ∃ r, doS lc d = r := ⟨_, rfl⟩
      have HRn := Lib.hid hr
      rw [hr] at ho ⊢
      clear hr
      obtain ⟨n, wd, er⟩ := r
      dsimp only at ho ⊢
      have HSn := Lib.hid ho.hds
      have HNn := Lib.hid (NB.own ho (Nat.lt_of_lt_of_le HGW.out (Nat.le_refl _)))
      have HSH := Lib.hid ho.sl
      have HV1 := Lib.hid (show vn.oneCell' = true by obtain ⟨A, c, e, _⟩ := ho.hds.len; rw [e]; rfl)
      replace HE := Lib.hid (HE.out.trans he)
      replace HgL := Lib.hid (Cs.ext HgL.out he)
      replace Hg8 := Lib.hid (Hg8.out.ext he)
      replace HS := Lib.hid (HS.out.ext he)
      clear ho he
      go_upto_region 9 with (first
        | ((with_reducible refine wpList_store_agg ?_ ?_ 59 (.tmp 9) (.tmp 38) ?_ ldinfo wx.heap.size #[.slice none 0 0] #[vn] ?_ ?_ ?_ ?_ ?_ ?_ ?_); (exact rfl); (exact rfl); (exact rfl); (exact one_val HV1.out); (exact rfl); (exact rfl); (exact Cs.alloc (Cs.new _ _ _ _ rfl) _); (exact rfl); (exact rfl); intro wy ky gy; have KY := Lib.hid ky; have GY := Lib.hid gy; clear ky gy)
        | ((with_reducible refine wpList_store_word rfl rfl 31 (.tmp 10) (.tmp 39) rfl winfo (wx.heap.size + 1) (wc 0) wd ?_ ?_ ?_ ?_ ?_); (exact two_newS rfl); (exact rfl); (exact Cs.kept (Cs.new _ _ _ _ (by rw [World.size_alloc])) GY.out (some_ne (by omega))); (exact rfl); intro wz kz gz; have KZ := Lib.hid kz; have GZ := Lib.hid gz; clear kz gz))
      have XZ := Lib.hid (((((Ext.refl wx).alloc (.cells #[.slice none 0 0] 59)).alloc (.cells (wc 0) 31)).grown GY.out (Nat.le_refl _)).grown GZ.out (Nat.le_succ _))
      have Hgg9 := Lib.hid (Cs.kept KY.out GZ.out (some_ne (by omega)))
      have Hwg9 : Hid (Cs wz (wx.heap.size + 1) 31 (wc wd)) := Lib.hid KZ.out
      replace HSn := Lib.hid (HSn.out.ext XZ.out)
      replace HE := Lib.hid (HE.out.trans XZ.out)
      replace HgL := Lib.hid (Cs.ext HgL.out XZ.out)
      replace Hg8 := Lib.hid (Hg8.out.ext XZ.out)
      replace HS := Lib.hid (HS.out.ext XZ.out)
      obtain ⟨g9w, hgw⟩ : ∃ g, wx.heap.size + 1 = g := ⟨_, rfl⟩
      obtain ⟨g9, hg⟩ : ∃ g, wx.heap.size = g := ⟨_, rfl⟩
      rw [hgw] at Hwg9 ⊢
      rw [hg] at Hgg9 ⊢
      clear hg hgw KY KZ GY GZ XZ
      clear qL HRA
      by_cases he0 : er = 0
      case neg =>
        have e1 : (er != 0) = true := by simpa using he0
        obtain ⟨hn0, hw0⟩ := doS_err HRn.out he0
        subst hn0 hw0
        obtain ⟨An, cn, hsh, _, _⟩ := HSH.out
        rw [List.length_nil] at hsh
        subst hsh
        have qn := Hgg9.out.cell 0 _ rfl
        have HWZ := Lib.hid (Cs.rg Hwg9.out)
        clear he0
        go_wp2_with (first
          | ((with_reducible refine wpList_load_wordIn ?_ (.tmp 10) ?_ g9w 0 (0) ?_ ?_ ?_); (exact rfl); (exact rfl); (exact rfl); (exact HWZ.out))
          | ((with_reducible refine wpList_neq_wsameS ?_ (.tmp 48) (.tmp 49) ?_ 0 (by decide) ?_ ?_ ?_); (exact rfl); (exact rfl); (exact rfl); (exact rfl)))
        exact ⟨⟨k + 1, by omega, by go_num, vc, lc, Lib.hid ⟨HgL.out, HS.out, HKL.out.1, HKL.out.2.1, HKL.out.2.2, HE.out⟩⟩, by simp [intOf]; omega⟩
      subst he0
      have HOW := Lib.hid (doS_own HKL.out.2.2 HKL.out.2.1 HD.out HRn.out)
      have HRN := Lib.hid ((rg_iff HOW.out.2.2.1).2 HOW.out.2.1)
      have HRL := Lib.hid ((rg_iff HKL.out.2.2).2 HKL.out.2.1)
      go_upto_region 12 with fail
      by_cases hab : oth = d.addr
      · have e1 : ((oth : Int) != (d.addr : Int)) = false := by rw [hab]; simp
        clear hab
        refine wp_named fun a0 ha0 => ?_
        obtain ⟨fr, hfr⟩ : ∃ fr : (Nat → Value) → Act, ∀ V, fr V = ((((((((((((((((((a0.put (some 52) (V 0)).put (some 53) (V 1)).put (some 54) (V 2)).put (some 55) (V 3)).put (some 56) (V 4)).put (some 57) (V 5)).put (some 58) (V 6)).put (some 59) (V 7)).put (some 60) (V 8)).put (some 61) (V 9)).put (some 62) (V 10)).put (some 63) (V 11)).put (some 64) (V 12)).put (some 65) (V 13)).put (some 66) (V 14)).put (some 67) (V 15)).put (some 68) (V 16)).put (some 69) (V 17)) := ⟨fun V => ((((((((((((((((((a0.put (some 52) (V 0)).put (some 53) (V 1)).put (some 54) (V 2)).put (some 55) (V 3)).put (some 56) (V 4)).put (some 57) (V 5)).put (some 58) (V 6)).put (some 59) (V 7)).put (some 60) (V 8)).put (some 61) (V 9)).put (some 62) (V 10)).put (some 63) (V 11)).put (some 64) (V 12)).put (some 65) (V 13)).put (some 66) (V 14)).put (some 67) (V 15)).put (some 68) (V 16)).put (some 69) (V 17)), fun _ => rfl⟩
        rw [ha0] at hfr
        simp only [Act.put, List.setIfInBounds_toArray, List.set_cons_zero, List.set_cons_succ] at hfr
        have HFR := Lib.hid hfr
        clear hfr
        refine wp_region_inv (by kernel_rfl) (by kernel_rfl) (fun L A W => ∃ V : Nat → Value, A = fr V ∧ Vals (fun j => ([some (.agg #[vn]), some (.int .i64 0), some (.bool false), some (.bool false), some (.int .u64 (oth : Nat)), some (.pointer (some ⟨g8, 1, none⟩)), some (.int .u64 (d.addr : Nat)), some (.bool false), some (.bool false), some (undef), some (undef), some (undef), some (undef), some (undef), some (undef), some (undef), some (.bool false), some (.bool false)] : List (Option Value)).getD j none) L V ∧ (Ext wz W)) ?_ ⟨?_, ?_, ?_, ?_, ?_, ?_, ?_, ?_, ?_, ?_, ?_, ?_, ?_, ?_, ?_, ?_, ?_, ?_, trivial⟩ ?_
        · refine ⟨fun j => a0.tmps.getD (([52, 53, 54, 55, 56, 57, 58, 59, 60, 61, 62, 63, 64, 65, 66, 67, 68, 69] : List Nat).getD j 0) undef, ?_, Vals.no _ _ _ (far_none _ _ rfl), (Ext.refl _).drew⟩
          rw [HFR.out, ha0]
          rfl
        all_goals clear ha0
        · rintro L A W K hL hC hW ⟨V, rfl, HV, s0⟩ hK
          have hB := s0
          have H := Lib.hid (show ∀ W', Ext W W' → K (fr (upd V 0 (.agg #[vn]))) W' from fun W' he => hK _ _ ⟨upd V 0 (.agg #[vn]), rfl, HV.up 0 _ (fun x hx => Option.some.inj hx), Ext.trans s0 he⟩)
          clear hK hC hW hL HV s0
          rw [HFR.out]
          have hcl := (Cs.ext Hgg9.out hB).cell 0 _ rfl
          clear hB
          go_wp2_with fail
          show K _ _
          have := H.out _ (Ext.refl _)
          rw [HFR.out] at this
          exact this
        · rintro L A W K hL hC hW ⟨V, rfl, HV, s0⟩ hK
          have e0 : V 0 = .agg #[vn] := HV 0 _ rfl (hW 0 rfl)
          have hB := s0
          have H := Lib.hid (show ∀ W', Ext W W' → K (fr (upd V 1 (.int .i64 0))) W' from fun W' he => hK _ _ ⟨upd V 1 (.int .i64 0), rfl, HV.up 1 _ (fun x hx => Option.some.inj hx), Ext.trans s0 he⟩)
          have HU := Lib.hid (show (upd V 1 (.int .i64 0)) 0 = .agg #[vn] from e0)
          clear hK hC hW hL HV s0
          rw [HFR.out]
          rw [e0]
          clear e0
          have HB' := Lib.hid hB
          clear hB
          go_wp2_with fail
          refine (ledCheck_ok (HSn.out.ext HB'.out) HRN.out).mono ?_
          rintro e wx ⟨rfl, he⟩
          have := H.out _ he
          clear H
          go_wp2_with fail
          show K _ _
          rw [HFR.out] at this
          obtain u0 := HU.out
          rw [u0] at this
          exact this
        · rintro L A W K hL hC hW ⟨V, rfl, HV, s0⟩ hK
          have e1 : V 1 = .int .i64 0 := HV 1 _ rfl (hW 1 rfl)
          have H := Lib.hid (show ∀ W', Ext W W' → K (fr (upd V 2 (.bool false))) W' from fun W' he => hK _ _ ⟨upd V 2 (.bool false), rfl, HV.up 2 _ (fun x hx => Option.some.inj hx), Ext.trans s0 he⟩)
          have HU := Lib.hid (show (upd V 2 (.bool false)) 1 = .int .i64 0 from e1)
          clear hK hC hW hL HV s0
          rw [HFR.out]
          rw [e1]
          clear e1
          go_wp2_with fail
          show K _ _
          have := H.out _ (Ext.refl _)
          rw [HFR.out] at this
          obtain u1 := HU.out
          rw [u1] at this
          exact this
        · rintro L A W K hL hC hW ⟨V, rfl, HV, s0⟩ hK
          have e2 : V 2 = .bool false := HV 2 _ rfl (hW 2 rfl)
          have H := Lib.hid (show ∀ W', Ext W W' → K (fr (upd V 3 (.bool false))) W' from fun W' he => hK _ _ ⟨upd V 3 (.bool false), rfl, HV.up 3 _ (fun x hx => Option.some.inj hx), Ext.trans s0 he⟩)
          have HU := Lib.hid (show (upd V 3 (.bool false)) 2 = .bool false from e2)
          clear hK hC hW hL HV s0
          rw [HFR.out]
          rw [e2]
          clear e2
          go_wp2_with fail
          show K _ _
          have := H.out _ (Ext.refl _)
          rw [HFR.out] at this
          obtain u2 := HU.out
          rw [u2] at this
          exact this
        · rintro L A W K hL hC hW ⟨V, rfl, HV, s0⟩ hK
          have e3 : V 3 = .bool false := HV 3 _ rfl (hW 3 rfl)
          have H := Lib.hid (show ∀ W', Ext W W' → K (fr (upd V 4 (.int .u64 (oth : Nat)))) W' from fun W' he => hK _ _ ⟨upd V 4 (.int .u64 (oth : Nat)), rfl, HV.up 4 _ (fun x hx => Option.some.inj hx), Ext.trans s0 he⟩)
          have HU := Lib.hid (show (upd V 4 (.int .u64 (oth : Nat))) 3 = .bool false from e3)
          clear hK hC hW hL HV s0
          rw [HFR.out]
          rw [e3]
          clear e3
          go_wp2_with fail
          show K _ _
          have := H.out _ (Ext.refl _)
          rw [HFR.out] at this
          obtain u3 := HU.out
          rw [u3] at this
          exact this
        · rintro L A W K hL hC hW ⟨V, rfl, HV, s0⟩ hK
          have e3 : V 3 = .bool false := HV 3 _ rfl (hW 3 rfl)
          have H := Lib.hid (show ∀ W', Ext W W' → K (fr (upd V 5 (.pointer (some ⟨g8, 1, none⟩)))) W' from fun W' he => hK _ _ ⟨upd V 5 (.pointer (some ⟨g8, 1, none⟩)), rfl, HV.up 5 _ (fun x hx => Option.some.inj hx), Ext.trans s0 he⟩)
          have HU := Lib.hid (show (upd V 5 (.pointer (some ⟨g8, 1, none⟩))) 3 = .bool false from e3)
          clear hK hC hW hL HV s0
          rw [HFR.out]
          rw [e3]
          clear e3
          go_wp2_with fail
          show K _ _
          have := H.out _ (Ext.refl _)
          rw [HFR.out] at this
          obtain u3 := HU.out
          rw [u3] at this
          exact this
        · rintro L A W K hL hC hW ⟨V, rfl, HV, s0⟩ hK
          have e3 : V 3 = .bool false := HV 3 _ rfl (hW 3 rfl)
          have e5 : V 5 = .pointer (some ⟨g8, 1, none⟩) := HV 5 _ rfl (hW 5 rfl)
          have hB := s0
          have H := Lib.hid (show ∀ W', Ext W W' → K (fr (upd V 6 (.int .u64 (d.addr : Nat)))) W' from fun W' he => hK _ _ ⟨upd V 6 (.int .u64 (d.addr : Nat)), rfl, HV.up 6 _ (fun x hx => Option.some.inj hx), Ext.trans s0 he⟩)
          have HU := Lib.hid (show (upd V 6 (.int .u64 (d.addr : Nat))) 3 = .bool false ∧ (upd V 6 (.int .u64 (d.addr : Nat))) 5 = .pointer (some ⟨g8, 1, none⟩) from ⟨e3, e5⟩)
          clear hK hC hW hL HV s0
          rw [HFR.out]
          rw [e3, e5]
          clear e3 e5
          have hcl : W.cell? ⟨g8, 1, none⟩ = some (.int .u64 (d.addr : Nat)) := Cs.cell (Cs.ext Hg8.out hB) 1 _ rfl
          clear hB
          go_wp2_with fail
          show K _ _
          have := H.out _ (Ext.refl _)
          rw [HFR.out] at this
          obtain ⟨u3, u5⟩ := HU.out
          rw [u3, u5] at this
          exact this
        · rintro L A W K hL hC hW ⟨V, rfl, HV, s0⟩ hK
          have e3 : V 3 = .bool false := HV 3 _ rfl (hW 3 rfl)
          have e4 : V 4 = .int .u64 (oth : Nat) := HV 4 _ rfl (hW 4 rfl)
          have e6 : V 6 = .int .u64 (d.addr : Nat) := HV 6 _ rfl (hW 6 rfl)
          have H := Lib.hid (show ∀ W', Ext W W' → K (fr (upd V 7 (.bool false))) W' from fun W' he => hK _ _ ⟨upd V 7 (.bool false), rfl, HV.up 7 _ (fun x hx => Option.some.inj hx), Ext.trans s0 he⟩)
          have HU := Lib.hid (show (upd V 7 (.bool false)) 3 = .bool false ∧ (upd V 7 (.bool false)) 4 = .int .u64 (oth : Nat) ∧ (upd V 7 (.bool false)) 6 = .int .u64 (d.addr : Nat) from ⟨e3, e4, e6⟩)
          clear hK hC hW hL HV s0
          rw [HFR.out]
          rw [e3, e4, e6]
          clear e3 e4 e6
          go_wp2_with fail
          show K _ _
          have := H.out _ (Ext.refl _)
          rw [HFR.out] at this
          obtain ⟨u3, u4, u6⟩ := HU.out
          rw [u3, u4, u6] at this
          exact this
        · rintro L A W K hL hC hW ⟨V, rfl, HV, s0⟩ hK
          have e3 : V 3 = .bool false := HV 3 _ rfl (hW 3 rfl)
          have e7 : V 7 = .bool false := HV 7 _ rfl (hW 7 rfl)
          have H := Lib.hid (show ∀ W', Ext W W' → K (fr (upd V 8 (.bool false))) W' from fun W' he => hK _ _ ⟨upd V 8 (.bool false), rfl, HV.up 8 _ (fun x hx => Option.some.inj hx), Ext.trans s0 he⟩)
          have HU := Lib.hid (show (upd V 8 (.bool false)) 3 = .bool false ∧ (upd V 8 (.bool false)) 7 = .bool false from ⟨e3, e7⟩)
          clear hK hC hW hL HV s0
          rw [HFR.out]
          rw [e3, e7]
          clear e3 e7
          go_wp2_with fail
          show K _ _
          have := H.out _ (Ext.refl _)
          rw [HFR.out] at this
          obtain ⟨u3, u7⟩ := HU.out
          rw [u3, u7] at this
          exact this
        · rintro L A W K hL hC hW ⟨V, rfl, HV, s0⟩ hK
          have e8 : V 8 = .bool false := HV 8 _ rfl (hW 8 rfl)
          have H := Lib.hid (show ∀ W', Ext W W' → K (fr (upd V 9 (undef))) W' from fun W' he => hK _ _ ⟨upd V 9 (undef), rfl, HV.up 9 _ (fun x hx => Option.some.inj hx), Ext.trans s0 he⟩)
          have HU := Lib.hid (show (upd V 9 (undef)) 8 = .bool false from e8)
          clear hK hC hW hL HV s0
          rw [HFR.out]
          rw [e8]
          clear e8
          go_wp2_with fail
          show K _ _
          have := H.out _ (Ext.refl _)
          rw [HFR.out] at this
          obtain u8 := HU.out
          rw [u8] at this
          exact this
        · rintro L A W K hL hC hW ⟨V, rfl, HV, s0⟩ hK
          have e8 : V 8 = .bool false := HV 8 _ rfl (hW 8 rfl)
          have H := Lib.hid (show ∀ W', Ext W W' → K (fr (upd V 10 (undef))) W' from fun W' he => hK _ _ ⟨upd V 10 (undef), rfl, HV.up 10 _ (fun x hx => Option.some.inj hx), Ext.trans s0 he⟩)
          have HU := Lib.hid (show (upd V 10 (undef)) 8 = .bool false from e8)
          clear hK hC hW hL HV s0
          rw [HFR.out]
          rw [e8]
          clear e8
          go_wp2_with fail
          show K _ _
          have := H.out _ (Ext.refl _)
          rw [HFR.out] at this
          obtain u8 := HU.out
          rw [u8] at this
          exact this
        · rintro L A W K hL hC hW ⟨V, rfl, HV, s0⟩ hK
          have e8 : V 8 = .bool false := HV 8 _ rfl (hW 8 rfl)
          have e9 : V 9 = undef := HV 9 _ rfl (hW 9 rfl)
          have e10 : V 10 = undef := HV 10 _ rfl (hW 10 rfl)
          have H := Lib.hid (show ∀ W', Ext W W' → K (fr (upd V 11 (undef))) W' from fun W' he => hK _ _ ⟨upd V 11 (undef), rfl, HV.up 11 _ (fun x hx => Option.some.inj hx), Ext.trans s0 he⟩)
          have HU := Lib.hid (show (upd V 11 (undef)) 8 = .bool false ∧ (upd V 11 (undef)) 9 = undef ∧ (upd V 11 (undef)) 10 = undef from ⟨e8, e9, e10⟩)
          clear hK hC hW hL HV s0
          rw [HFR.out]
          rw [e8, e9, e10]
          clear e8 e9 e10
          go_wp2_with fail
          show K _ _
          have := H.out _ (Ext.refl _)
          rw [HFR.out] at this
          obtain ⟨u8, u9, u10⟩ := HU.out
          rw [u8, u9, u10] at this
          exact this
        · rintro L A W K hL hC hW ⟨V, rfl, HV, s0⟩ hK
          have e8 : V 8 = .bool false := HV 8 _ rfl (hW 8 rfl)
          have H := Lib.hid (show ∀ W', Ext W W' → K (fr (upd V 12 (undef))) W' from fun W' he => hK _ _ ⟨upd V 12 (undef), rfl, HV.up 12 _ (fun x hx => Option.some.inj hx), Ext.trans s0 he⟩)
          have HU := Lib.hid (show (upd V 12 (undef)) 8 = .bool false from e8)
          clear hK hC hW hL HV s0
          rw [HFR.out]
          rw [e8]
          clear e8
          go_wp2_with fail
          show K _ _
          have := H.out _ (Ext.refl _)
          rw [HFR.out] at this
          obtain u8 := HU.out
          rw [u8] at this
          exact this
        · rintro L A W K hL hC hW ⟨V, rfl, HV, s0⟩ hK
          have e8 : V 8 = .bool false := HV 8 _ rfl (hW 8 rfl)
          have H := Lib.hid (show ∀ W', Ext W W' → K (fr (upd V 13 (undef))) W' from fun W' he => hK _ _ ⟨upd V 13 (undef), rfl, HV.up 13 _ (fun x hx => Option.some.inj hx), Ext.trans s0 he⟩)
          have HU := Lib.hid (show (upd V 13 (undef)) 8 = .bool false from e8)
          clear hK hC hW hL HV s0
          rw [HFR.out]
          rw [e8]
          clear e8
          go_wp2_with fail
          show K _ _
          have := H.out _ (Ext.refl _)
          rw [HFR.out] at this
          obtain u8 := HU.out
          rw [u8] at this
          exact this
        · rintro L A W K hL hC hW ⟨V, rfl, HV, s0⟩ hK
          have e8 : V 8 = .bool false := HV 8 _ rfl (hW 8 rfl)
          have e12 : V 12 = undef := HV 12 _ rfl (hW 12 rfl)
          have e13 : V 13 = undef := HV 13 _ rfl (hW 13 rfl)
          have H := Lib.hid (show ∀ W', Ext W W' → K (fr (upd V 14 (undef))) W' from fun W' he => hK _ _ ⟨upd V 14 (undef), rfl, HV.up 14 _ (fun x hx => Option.some.inj hx), Ext.trans s0 he⟩)
          have HU := Lib.hid (show (upd V 14 (undef)) 8 = .bool false ∧ (upd V 14 (undef)) 12 = undef ∧ (upd V 14 (undef)) 13 = undef from ⟨e8, e12, e13⟩)
          clear hK hC hW hL HV s0
          rw [HFR.out]
          rw [e8, e12, e13]
          clear e8 e12 e13
          go_wp2_with fail
          show K _ _
          have := H.out _ (Ext.refl _)
          rw [HFR.out] at this
          obtain ⟨u8, u12, u13⟩ := HU.out
          rw [u8, u12, u13] at this
          exact this
        · rintro L A W K hL hC hW ⟨V, rfl, HV, s0⟩ hK
          have e8 : V 8 = .bool false := HV 8 _ rfl (hW 8 rfl)
          have e11 : V 11 = undef := HV 11 _ rfl (hW 11 rfl)
          have e14 : V 14 = undef := HV 14 _ rfl (hW 14 rfl)
          have H := Lib.hid (show ∀ W', Ext W W' → K (fr (upd V 15 (undef))) W' from fun W' he => hK _ _ ⟨upd V 15 (undef), rfl, HV.up 15 _ (fun x hx => Option.some.inj hx), Ext.trans s0 he⟩)
          have HU := Lib.hid (show (upd V 15 (undef)) 8 = .bool false ∧ (upd V 15 (undef)) 11 = undef ∧ (upd V 15 (undef)) 14 = undef from ⟨e8, e11, e14⟩)
          clear hK hC hW hL HV s0
          rw [HFR.out]
          rw [e8, e11, e14]
          clear e8 e11 e14
          go_wp2_with fail
          show K _ _
          have := H.out _ (Ext.refl _)
          rw [HFR.out] at this
          obtain ⟨u8, u11, u14⟩ := HU.out
          rw [u8, u11, u14] at this
          exact this
        · rintro L A W K hL hC hW ⟨V, rfl, HV, s0⟩ hK
          have e3 : V 3 = .bool false := HV 3 _ rfl (hW 3 rfl)
          have e8 : V 8 = .bool false := HV 8 _ rfl (hW 8 rfl)
          have e15 : V 15 = undef := HV 15 _ rfl (hW 15 rfl)
          have H := Lib.hid (show ∀ W', Ext W W' → K (fr (upd V 16 (.bool false))) W' from fun W' he => hK _ _ ⟨upd V 16 (.bool false), rfl, HV.up 16 _ (fun x hx => Option.some.inj hx), Ext.trans s0 he⟩)
          have HU := Lib.hid (show (upd V 16 (.bool false)) 3 = .bool false ∧ (upd V 16 (.bool false)) 8 = .bool false ∧ (upd V 16 (.bool false)) 15 = undef from ⟨e3, e8, e15⟩)
          clear hK hC hW hL HV s0
          rw [HFR.out]
          rw [e3, e8, e15]
          clear e3 e8 e15
          go_wp2_with fail
          show K _ _
          have := H.out _ (Ext.refl _)
          rw [HFR.out] at this
          obtain ⟨u3, u8, u15⟩ := HU.out
          rw [u3, u8, u15] at this
          exact this
        · rintro L A W K hL hC hW ⟨V, rfl, HV, s0⟩ hK
          have e3 : V 3 = .bool false := HV 3 _ rfl (hW 3 rfl)
          have e16 : V 16 = .bool false := HV 16 _ rfl (hW 16 rfl)
          have H := Lib.hid (show ∀ W', Ext W W' → K (fr (upd V 17 (.bool false))) W' from fun W' he => hK _ _ ⟨upd V 17 (.bool false), rfl, HV.up 17 _ (fun x hx => Option.some.inj hx), Ext.trans s0 he⟩)
          have HU := Lib.hid (show (upd V 17 (.bool false)) 3 = .bool false ∧ (upd V 17 (.bool false)) 16 = .bool false from ⟨e3, e16⟩)
          clear hK hC hW hL HV s0
          rw [HFR.out]
          rw [e3, e16]
          clear e3 e16
          go_wp2_with fail
          show K _ _
          have := H.out _ (Ext.refl _)
          rw [HFR.out] at this
          obtain ⟨u3, u16⟩ := HU.out
          rw [u3, u16] at this
          exact this
        · rintro L A W hL ⟨V, rfl, HV, s0⟩
          have e0 : V 0 = .agg #[vn] := HV 0 _ rfl (hL 0 (by simp))
          have e1 : V 1 = .int .i64 0 := HV 1 _ rfl (hL 1 (by simp))
          have e2 : V 2 = .bool false := HV 2 _ rfl (hL 2 (by simp))
          have e3 : V 3 = .bool false := HV 3 _ rfl (hL 3 (by simp))
          have e4 : V 4 = .int .u64 (oth : Nat) := HV 4 _ rfl (hL 4 (by simp))
          have e5 : V 5 = .pointer (some ⟨g8, 1, none⟩) := HV 5 _ rfl (hL 5 (by simp))
          have e6 : V 6 = .int .u64 (d.addr : Nat) := HV 6 _ rfl (hL 6 (by simp))
          have e7 : V 7 = .bool false := HV 7 _ rfl (hL 7 (by simp))
          have e8 : V 8 = .bool false := HV 8 _ rfl (hL 8 (by simp))
          have e9 : V 9 = undef := HV 9 _ rfl (hL 9 (by simp))
          have e10 : V 10 = undef := HV 10 _ rfl (hL 10 (by simp))
          have e11 : V 11 = undef := HV 11 _ rfl (hL 11 (by simp))
          have e12 : V 12 = undef := HV 12 _ rfl (hL 12 (by simp))
          have e13 : V 13 = undef := HV 13 _ rfl (hL 13 (by simp))
          have e14 : V 14 = undef := HV 14 _ rfl (hL 14 (by simp))
          have e15 : V 15 = undef := HV 15 _ rfl (hL 15 (by simp))
          have e16 : V 16 = .bool false := HV 16 _ rfl (hL 16 (by simp))
          have e17 : V 17 = .bool false := HV 17 _ rfl (hL 17 (by simp))
          have hA := s0
          rw [HFR.out]
          rw [e0, e1, e2, e3, e4, e5, e6, e7, e8, e9, e10, e11, e12, e13, e14, e15, e16, e17]
          clear hL HV HFR e0 e1 e2 e3 e4 e5 e6 e7 e8 e9 e10 e11 e12 e13 e14 e15 e16 e17 s0
          have HA' := Lib.hid hA
          clear hA
          replace HE := Lib.hid (HE.out.trans HA'.out)
          replace HgL := Lib.hid (Cs.ext HgL.out HA'.out)
          replace Hgg9 := Lib.hid (Cs.ext Hgg9.out HA'.out)
          replace Hwg9 := Lib.hid (Cs.ext Hwg9.out HA'.out)
          replace Hg8 := Lib.hid (Hg8.out.ext HA'.out)
          replace HS := Lib.hid (HS.out.ext HA'.out)
          replace HSn := Lib.hid (HSn.out.ext HA'.out)
          clear HA'
          obtain ⟨wb, rfl⟩ : ∃ wb, wb = W := ⟨W, rfl⟩
          have HL9 := Lib.hid (show g9 < wb.heap.size from Cs.lt Hgg9.out)
          have HWB := Lib.hid (show w.heap.size ≤ wb.heap.size ∧ gL < wb.heap.size from ⟨HE.out.size, Cs.lt HgL.out⟩)
          have HSB := Lib.hid (show 0 < n.length → ∀ b o sp nn cc, vn = .slice (some ⟨b, o, sp⟩) nn cc → b < wb.heap.size from fun hp b o sp nn cc e => by
            obtain ⟨A, c', e', h1, h2, h3⟩ := HSn.out
            obtain ⟨b', o', e1, hc⟩ := h3 hp
            rw [e'] at e
            injection e with e2 _ _
            rw [e1] at e2
            injection e2 with e2
            injection e2 with e2
            obtain ⟨cs, k1, k2, k3⟩ := hc 0 _ (List.getElem?_eq_getElem hp)
            have hcs : ∃ u, cs[0]? = some u := by
              obtain ⟨_, rfl⟩ := k2
              exact ⟨_, rfl⟩
            obtain ⟨u, hu⟩ := hcs
            have := World.block_lt_of_cell? _ _ (k3 0 u hu)
            dsimp only at this
            omega)
          go_upto_region 14 with fail
          obtain ⟨t1, ht1⟩ : ∃ t, totG lc = t := ⟨_, rfl⟩
          obtain ⟨t2, ht2⟩ : ∃ t, totG n = t := ⟨_, rfl⟩
          have HS1 := Lib.hid (show sumG lc = t1 by rw [HKL.out.2.1.sum HKL.out.2.2, ht1])
          have HS2 := Lib.hid (show sumG n = t2 by rw [HOW.out.2.1.sum HOW.out.2.2.1, ht2])
          have HT := Lib.hid (show t1 < M256 ∧ t2 < M256 ∧ t2 + (if kdD d = 1 then d.n else 0) + wd = t1 + (if kdD d = 0 ∨ kdD d = 2 then d.n else 0) from ⟨by rw [← ht1]; exact HKL.out.2.1.fits, by rw [← ht2]; exact HOW.out.2.1.fits, by rw [← ht1, ← ht2]; exact HOW.out.2.2.2.2.2.2.1⟩)
          have HFE := Lib.hid (show lc.length ≤ 1000 ∧ n.length ≤ 1000 from ⟨by have := HKL.out.2.1.few; omega, by have := HOW.out.2.1.few; omega⟩)
          clear ht1 ht2
          refine wp_named fun a0 ha0 => ?_
          obtain ⟨fr, hfr⟩ : ∃ fr : (Nat → Value) → Act, ∀ V, fr V = ((((((a0.put (some 70) (V 0)).put (some 71) (V 1)).put (some 72) (V 2)).put (some 73) (V 3)).put (some 12) (V 4)).put (some 13) (V 5)) := ⟨fun V => ((((((a0.put (some 70) (V 0)).put (some 71) (V 1)).put (some 72) (V 2)).put (some 73) (V 3)).put (some 12) (V 4)).put (some 13) (V 5)), fun _ => rfl⟩
          rw [ha0] at hfr
          simp only [Act.put, List.setIfInBounds_toArray, List.set_cons_zero, List.set_cons_succ] at hfr
          have HFR := Lib.hid hfr
          clear hfr
          refine wp_region_inv (by kernel_rfl) (by kernel_rfl) (fun L A W => ∃ V : Nat → Value, A = fr V ∧ Vals (fun j => ([some (.agg #[vc]), none, some (.agg #[vn]), none, none, none, none, none] : List (Option Value)).getD j none) L V ∧ (L 6 = true → L 4 = true) ∧ (L 7 = true → L 5 = true) ∧ PrIL 31 ((wc 0)) wb.heap.size (WdPL t1) (WdPL t2) wb (L 1) (L 3) (L 4) (L 5) (L 6) (L 7) (V 1) (V 3) (V 4) (V 5) W) ?_ ⟨?_, ?_, ?_, ?_, ?_, ?_, ?_, ?_, trivial⟩ ?_
          · refine ⟨fun j => a0.tmps.getD (([70, 71, 72, 73, 12, 13, 0, 0] : List Nat).getD j 0) undef, ?_, Vals.no _ _ _ (far_none _ _ rfl), (by decide), (by decide), (Ext.refl _).drew, (fun h => absurd h (by decide)), (fun h => absurd h (by decide)), (fun h => absurd h (by decide)), (fun h => absurd h (by decide)), (fun h => absurd h (by decide)), (fun h => absurd h (by decide)), (fun h => absurd h (by decide))⟩
            rw [HFR.out, ha0]
            rfl
          all_goals clear ha0
          · rintro L A W K hL hC hW ⟨V, rfl, HV, l1, l2, s0⟩ hK
            have H := Lib.hid (show K (fr (upd V 0 (.agg #[vc]))) W from hK _ _ ⟨upd V 0 (.agg #[vc]), rfl, HV.up 0 _ (fun x hx => Option.some.inj hx), (by unfold More; rw [if_neg (by decide), if_neg (by decide)]; exact l1), (by unfold More; rw [if_neg (by decide), if_neg (by decide)]; exact l2), by simpa [More, upd] using s0⟩)
            have hE := s0.1
            have hcl := (Cs.ext HgL.out hE).cell 0 _ rfl
            clear hK hC hW hL HV l1 l2 s0 hE
            rw [HFR.out]
            go_wp2_with fail
            show K _ _
            have := H.out
            rw [HFR.out] at this
            exact this
          · rintro L A W K hL hC hW ⟨V, rfl, HV, l1, l2, s0⟩ hK
            have e0 : V 0 = .agg #[vc] := HV 0 _ rfl (hW 0 rfl)
            have s0' : PrIL 31 ((wc 0)) wb.heap.size (WdPL t1) (WdPL t2) wb (L 1) (L 3) (L 4) (L 5) (L 6) (L 7) (V 1) (V 3) (V 4) (V 5) W := s0
            rw [(hC.no hL 6 _ rfl rfl)] at s0'
            have H := Lib.hid (show ∀ v W', Ext W W' → (WdPL t1) W' v → K (fr (upd V 1 v)) W' from fun v W' he hv => hK _ _ ⟨upd V 1 v, rfl, HV.up 1 _ (fun x hx => absurd hx (by intro h; cases h)), (by unfold More; rw [if_neg (by decide), if_neg (by decide)]; exact l1), (by unfold More; rw [if_neg (by decide), if_neg (by decide)]; exact l2), by simpa [More, upd, (hC.no hL 6 _ rfl rfl)] using (PrIL.call (WdPL.pk wb.heap.size _) (WdPL.pk wb.heap.size _) s0' he hv)⟩)
            have HU := Lib.hid (show ∀ v, (upd V 1 v) 0 = .agg #[vc] from fun v => e0)
            have hE := s0.1
            have HS0 := Lib.hid hE
            clear hK hC hW hL HV l1 l2 s0 s0' hE
            rw [HFR.out]
            rw [e0]
            clear e0
            go_wp2_with fail
            have hE := HS0.out
            refine (sumL_eq (HS.out.ext hE) HFE.out.1 HS1.out).mono ?_
            rintro e wx ⟨rfl, he⟩
            have := H.out _ _ he (rfl)
            clear H
            go_wp2_with fail
            show K _ _
            rw [HFR.out] at this
            obtain u0 := HU.out _
            rw [u0] at this
            exact this
          · rintro L A W K hL hC hW ⟨V, rfl, HV, l1, l2, s0⟩ hK
            have H := Lib.hid (show K (fr (upd V 2 (.agg #[vn]))) W from hK _ _ ⟨upd V 2 (.agg #[vn]), rfl, HV.up 2 _ (fun x hx => Option.some.inj hx), (by unfold More; rw [if_neg (by decide), if_neg (by decide)]; exact l1), (by unfold More; rw [if_neg (by decide), if_neg (by decide)]; exact l2), by simpa [More, upd] using s0⟩)
            have hE := s0.1
            have hcl := (Cs.ext Hgg9.out hE).cell 0 _ rfl
            clear hK hC hW hL HV l1 l2 s0 hE
            rw [HFR.out]
            go_wp2_with fail
            show K _ _
            have := H.out
            rw [HFR.out] at this
            exact this
          · rintro L A W K hL hC hW ⟨V, rfl, HV, l1, l2, s0⟩ hK
            have e2 : V 2 = .agg #[vn] := HV 2 _ rfl (hW 2 rfl)
            have s0' : PrIL 31 ((wc 0)) wb.heap.size (WdPL t1) (WdPL t2) wb (L 1) (L 3) (L 4) (L 5) (L 6) (L 7) (V 1) (V 3) (V 4) (V 5) W := s0
            rw [(hC.no hL 7 _ rfl rfl)] at s0'
            have H := Lib.hid (show ∀ v W', Ext W W' → (WdPL t2) W' v → K (fr (upd V 3 v)) W' from fun v W' he hv => hK _ _ ⟨upd V 3 v, rfl, HV.up 3 _ (fun x hx => absurd hx (by intro h; cases h)), (by unfold More; rw [if_neg (by decide), if_neg (by decide)]; exact l1), (by unfold More; rw [if_neg (by decide), if_neg (by decide)]; exact l2), by simpa [More, upd, (hC.no hL 7 _ rfl rfl)] using (PrIL.call (WdPL.pk wb.heap.size _) (WdPL.pk wb.heap.size _) s0'.swap he hv).swap⟩)
            have HU := Lib.hid (show ∀ v, (upd V 3 v) 2 = .agg #[vn] from fun v => e2)
            have hE := s0.1
            have HS0 := Lib.hid hE
            clear hK hC hW hL HV l1 l2 s0 s0' hE
            rw [HFR.out]
            rw [e2]
            clear e2
            go_wp2_with fail
            have hE := HS0.out
            refine (sumL_eq (HSn.out.ext hE) HFE.out.2 HS2.out).mono ?_
            rintro e wx ⟨rfl, he⟩
            have := H.out _ _ he (rfl)
            clear H
            go_wp2_with fail
            show K _ _
            rw [HFR.out] at this
            obtain u2 := HU.out _
            rw [u2] at this
            exact this
          · rintro L A W K hL hC hW ⟨V, rfl, HV, l1, l2, s0⟩ hK
            have s0' : PrIL 31 ((wc 0)) wb.heap.size (WdPL t1) (WdPL t2) wb (L 1) (L 3) (L 4) (L 5) (L 6) (L 7) (V 1) (V 3) (V 4) (V 5) W := s0
            rw [(hC.no hL 6 _ rfl rfl)] at s0'
            have H := Lib.hid (show K (fr (upd V 4 (.pointer (some ⟨W.heap.size, 0, none⟩)))) (W.alloc (.cells ((wc 0)) 31)) from hK _ _ ⟨upd V 4 (.pointer (some ⟨W.heap.size, 0, none⟩)), rfl, HV.up 4 _ (fun x hx => absurd hx (by intro h; cases h)), (fun _ => by unfold More; exact if_pos rfl), (by unfold More; rw [if_neg (by decide), if_neg (by decide)]; exact l2), by simpa [More, upd, (hC.no hL 6 _ rfl rfl)] using (PrIL.alloc (WdPL.pk wb.heap.size _) (WdPL.pk wb.heap.size _) (Nat.le_refl _) s0')⟩)
            clear hK hC hW hL HV l1 l2 s0 s0'
            rw [HFR.out]
            go_wp2_with fail
            show K _ _
            have := H.out
            rw [HFR.out] at this
            exact this
          · rintro L A W K hL hC hW ⟨V, rfl, HV, l1, l2, s0⟩ hK
            have s0' : PrIL 31 ((wc 0)) wb.heap.size (WdPL t1) (WdPL t2) wb (L 1) (L 3) (L 4) (L 5) (L 6) (L 7) (V 1) (V 3) (V 4) (V 5) W := s0
            rw [(hC.no hL 7 _ rfl rfl)] at s0'
            have H := Lib.hid (show K (fr (upd V 5 (.pointer (some ⟨W.heap.size, 0, none⟩)))) (W.alloc (.cells ((wc 0)) 31)) from hK _ _ ⟨upd V 5 (.pointer (some ⟨W.heap.size, 0, none⟩)), rfl, HV.up 5 _ (fun x hx => absurd hx (by intro h; cases h)), (by unfold More; rw [if_neg (by decide), if_neg (by decide)]; exact l1), (fun _ => by unfold More; exact if_pos rfl), by simpa [More, upd, (hC.no hL 7 _ rfl rfl)] using (PrIL.alloc (WdPL.pk wb.heap.size _) (WdPL.pk wb.heap.size _) (Nat.le_refl _) s0'.swap).swap⟩)
            clear hK hC hW hL HV l1 l2 s0 s0'
            rw [HFR.out]
            go_wp2_with fail
            show K _ _
            have := H.out
            rw [HFR.out] at this
            exact this
          · rintro L A W K hL hC hW ⟨V, rfl, HV, l1, l2, s0⟩ hK
            have s0' : PrIL 31 ((wc 0)) wb.heap.size (WdPL t1) (WdPL t2) wb (L 1) (L 3) (L 4) (L 5) (L 6) (L 7) (V 1) (V 3) (V 4) (V 5) W := s0
            rw [hW 1 rfl, hW 4 rfl, hL] at s0'
            obtain ⟨g, eg, hlo, hcg⟩ := s0'.2.2.2.1 rfl rfl
            obtain ⟨cs, ev, hcn, hone⟩ := PkL.agg (WdPL.pk wb.heap.size _) (s0'.2.1 rfl)
            rw [eg, ev] at s0'
            have HN := Lib.hid (fun (W' : World) (hc : Cs W' g 31 cs) (hg : W.grownBy W' (some g)) => (PrIL.store (WdPL.pk wb.heap.size _) (WdPL.pk wb.heap.size _) (Nat.le_refl _) s0' l2 hc hg))
            have H := Lib.hid (show ∀ W', Cs W' g 31 cs → W.grownBy W' (some g) → K (fr V) W' from fun W' hc hg => hK _ _ ⟨V, rfl, HV.st 6 rfl, (fun _ => by unfold More; rw [if_neg (by decide)]; exact hW 4 rfl), (by unfold More; rw [if_neg (by decide), if_neg (by decide)]; exact l2), by rw [eg, ev]; simpa [More, hW 1 rfl, hW 4 rfl] using HN.out W' hc hg⟩)
            have HCG := Lib.hid hcg
            have HU := Lib.hid (show V 4 = .pointer (some ⟨g, 0, none⟩) ∧ V 1 = .agg cs from ⟨eg, ev⟩)
            clear hK hC hW hL HV l1 l2 s0 s0' HN hlo hcg
            rw [HFR.out]
            rw [eg, ev]
            clear eg ev
            refine wpList_store_agg rfl rfl 31 (.tmp 12) (.tmp 71) rfl winfo g ((wc 0)) cs hone rfl rfl HCG.out (by first | rfl | simp [wc]) hcn ?_
            intro W' hc hg
            show K _ _
            have := H.out _ hc hg
            rw [HFR.out] at this
            rw [HU.out.1, HU.out.2] at this
            exact this
          · rintro L A W K hL hC hW ⟨V, rfl, HV, l1, l2, s0⟩ hK
            have s0' : PrIL 31 ((wc 0)) wb.heap.size (WdPL t1) (WdPL t2) wb (L 1) (L 3) (L 4) (L 5) (L 6) (L 7) (V 1) (V 3) (V 4) (V 5) W := s0
            rw [hW 3 rfl, hW 5 rfl, hL] at s0'
            obtain ⟨g, eg, hlo, hcg⟩ := s0'.2.2.2.2.1 rfl rfl
            obtain ⟨cs, ev, hcn, hone⟩ := PkL.agg (WdPL.pk wb.heap.size _) (s0'.2.2.1 rfl)
            rw [eg, ev] at s0'
            have HN := Lib.hid (fun (W' : World) (hc : Cs W' g 31 cs) (hg : W.grownBy W' (some g)) => (PrIL.store (WdPL.pk wb.heap.size _) (WdPL.pk wb.heap.size _) (Nat.le_refl _) s0'.swap l1 hc hg).swap)
            have H := Lib.hid (show ∀ W', Cs W' g 31 cs → W.grownBy W' (some g) → K (fr V) W' from fun W' hc hg => hK _ _ ⟨V, rfl, HV.st 7 rfl, (by unfold More; rw [if_neg (by decide), if_neg (by decide)]; exact l1), (fun _ => by unfold More; rw [if_neg (by decide)]; exact hW 5 rfl), by rw [eg, ev]; simpa [More, hW 3 rfl, hW 5 rfl] using HN.out W' hc hg⟩)
            have HCG := Lib.hid hcg
            have HU := Lib.hid (show V 5 = .pointer (some ⟨g, 0, none⟩) ∧ V 3 = .agg cs from ⟨eg, ev⟩)
            clear hK hC hW hL HV l1 l2 s0 s0' HN hlo hcg
            rw [HFR.out]
            rw [eg, ev]
            clear eg ev
            refine wpList_store_agg rfl rfl 31 (.tmp 13) (.tmp 73) rfl winfo g ((wc 0)) cs hone rfl rfl HCG.out (by first | rfl | simp [wc]) hcn ?_
            intro W' hc hg
            show K _ _
            have := H.out _ hc hg
            rw [HFR.out] at this
            rw [HU.out.1, HU.out.2] at this
            exact this
          · rintro L A W hL ⟨V, rfl, HV, l1, l2, s0⟩
            rw [show L 1 = true from hL 1 (by simp), show L 3 = true from hL 3 (by simp), show L 4 = true from hL 4 (by simp), show L 5 = true from hL 5 (by simp), show L 6 = true from hL 6 (by simp), show L 7 = true from hL 7 (by simp)] at s0
            obtain ⟨z0, z1, z2, z3, z4, z5, z6, z7⟩ := s0
            clear l1 l2
            obtain ea := z1 rfl
            obtain ⟨cx, ex, g1x, eg1, hb1, hc1⟩ := z5 rfl
            obtain rfl : cx = wc t1 := by have ey := ex.symm.trans ea; injection ey
            clear ex
            obtain eb := z2 rfl
            obtain ⟨cx, ex, g2x, eg2, hb2, hc2⟩ := z6 rfl
            obtain rfl : cx = wc t2 := by have ey := ex.symm.trans eb; injection ey
            clear ex
            have hne12 : g1x ≠ g2x := fun e => z7 rfl rfl (by rw [eg1, eg2, e])
            rw [HFR.out]
            rw [eg1, eg2]
            clear hL HV HFR z1 z2 z5 z6 z7 eg1 eg2
            replace HE := Lib.hid (HE.out.trans z0)
            replace HgL := Lib.hid (Cs.ext HgL.out z0)
            replace Hgg9 := Lib.hid (Cs.ext Hgg9.out z0)
            replace Hwg9 := Lib.hid (Cs.ext Hwg9.out z0)
            replace Hg8 := Lib.hid (Hg8.out.ext z0)
            replace HS := Lib.hid (HS.out.ext z0)
            replace HSn := Lib.hid (HSn.out.ext z0)
            have Hg12 : Hid (Cs W g1x 31 (wc t1)) := Lib.hid hc1
            have Hg13 : Hid (Cs W g2x 31 (wc t2)) := Lib.hid hc2
            have HXG := Lib.hid (And.intro hb1 (And.intro hb2 hne12))
            clear z0 hc1 hc2 hb1 hb2 hne12 ea eb z3 z4
            have HBS := Lib.hid (show w.heap.size ≤ wb.heap.size ∧ gL < wb.heap.size from HWB.out)
            have HC12 := Lib.hid (And.intro (Cs.lt Hg12.out) (Cs.lt Hg13.out))
            have qk : W.cell? ⟨g8, 0, none⟩ = some (.int .i64 d.kind) := Cs.cell Hg8.out 0 _ rfl
            have HKC := Lib.hid (kdD_cases d)
            have hkk : (IntKind.u64.wrap d.kind).tmod 5 = kdD d := rfl
            go_upto_region 16 with fail
            clear hkk qk
            rcases HKC.out with hk | hk | hk | hk | hk
            · rw [hk]
              have HWD := Lib.hid (HOW.out.2.2.2.2.1)
              have HWN := Lib.hid (dd_word Hg8.out)
              have R1 := Lib.hid (Cs.rg Hg12.out)
              have ht1 := HT.out.1
              have HT1 := Lib.hid ht1
              clear ht1
              have HEQ := Lib.hid (show (t1 + d.n) % M256 = t2 by
                have h1 := HT.out.2.2
                rw [if_neg (by rw [hk]; decide), if_pos (by rw [hk]; decide), HWD.out.wd (by rw [hk]; decide)] at h1
                rw [← show t2 = t1 + d.n by omega]
                exact Nat.mod_eq_of_lt HT.out.2.1)
              clear hk
              go_wp2_with (first
                | ((with_reducible refine wpList_load_wordIn ?_ (.tmp 12) ?_ g1x 0 (t1) ?_ ?_ ?_); (exact rfl); (exact rfl); (exact rfl); (exact R1.out))
                | ((with_reducible refine wpList_load_wordIn ?_ (.tmp 83) ?_ g8 2 (d.n) ?_ ?_ ?_); (exact rfl); (exact rfl); (exact rfl); (exact HWN.out)))
              refine (add_any t1 d.n _ HT1.out HD.out.2.2.1).mono ?_
              rintro e w9 ⟨rfl, he⟩
              have HX9 := Lib.hid he
              have K12 := Lib.hid (Cs.ext Hg12.out he)
              clear he
              rw [HEQ.out]
              go_upto_region 23 with ((with_reducible refine wpList_store_word rfl rfl 31 (.tmp 12) (.tmp 86) rfl winfo g1x (wc t1) t2 ?_ ?_ ?_ ?_ ?_); (exact rfl); (exact rfl); (exact K12.out); (exact rfl); intro wp kp gp; have KP := Lib.hid kp; have GP := Lib.hid gp; clear kp gp)
              have KN := Lib.hid (Cs.kept (Cs.ext Hgg9.out HX9.out) GP.out (some_ne (fun e => by have h1 := HXG.out.1; have h2 := HL9.out; omega)))
              have KL := Lib.hid (Cs.kept (Cs.ext HgL.out HX9.out) GP.out (some_ne (fun e => by have h1 := HXG.out.1; have h2 := HBS.out.2; omega)))
              have KS := Lib.hid ((HSn.out.ext HX9.out).set (fun hp b o sp nn cc e => by have h1 := HXG.out.1; have h2 := HSB.out hp b o sp nn cc e; omega) GP.out)
              have KE := Lib.hid ((HE.out.trans HX9.out).grown GP.out (Nat.le_trans HBS.out.1 HXG.out.1))
              have K13 := Lib.hid (Cs.kept (Cs.ext Hg13.out HX9.out) GP.out (some_ne (fun e => HXG.out.2.2 e.symm)))
              have R1 := Lib.hid (Cs.rg KP.out)
              have R2 := Lib.hid (Cs.rg K13.out)
              have ht2 := HT.out.2.1
              have HT2 := Lib.hid ht2
              clear ht2
              have qn := KN.out.cell 0 _ rfl
              have qL := KL.out.cell 0 _ rfl
              go_wp2_with (first
                | ((with_reducible refine wpList_load_wordIn ?_ (.tmp 12) ?_ g1x 0 (t2) ?_ ?_ ?_); (exact rfl); (exact rfl); (exact rfl); (exact R1.out))
                | ((with_reducible refine wpList_load_wordIn ?_ (.tmp 13) ?_ g2x 0 (t2) ?_ ?_ ?_); (exact rfl); (exact rfl); (exact rfl); (exact R2.out))
                | ((with_reducible refine wpList_neq_wsameS ?_ (.tmp 105) (.tmp 106) ?_ t2 HT2.out ?_ ?_ ?_); (exact rfl); (exact rfl); (exact rfl); (exact rfl))
                | ((with_reducible refine wpList_store_agg ?_ ?_ 59 (.tmp 3) (.tmp 108) ?_ ldinfo gL #[vc] #[vn] ?_ ?_ ?_ ?_ ?_ ?_ ?_); (exact rfl); (exact rfl); (exact rfl); (exact one_val HV1.out); (exact rfl); (exact rfl); (exact KL.out); (exact rfl); (exact rfl); intro wq kq gq; have KQ := Lib.hid kq; have GQ := Lib.hid gq; clear kq gq))
              exact ⟨⟨k + 1, by omega, by go_num, vn, n, Lib.hid ⟨KQ.out, KS.out.set HNn.out GQ.out, HNn.out, HOW.out.2.1, HOW.out.2.2.1, KE.out.grown GQ.out HGL.out⟩⟩, by simp [intOf]; omega⟩
            · rw [hk]
              have HWD := Lib.hid (HOW.out.2.2.2.2.1)
              have HWN := Lib.hid (dd_word Hg8.out)
              have R1 := Lib.hid (Cs.rg Hg12.out)
              have ht1 := HT.out.1
              have HT1 := Lib.hid ht1
              clear ht1
              have HEQ := Lib.hid (show (t1 + M256 - d.n) % M256 = t2 by
                have h1 := HT.out.2.2
                rw [if_pos hk, if_neg (by rw [hk]; decide), HWD.out.wd (by rw [hk]; decide)] at h1
                rw [show t1 + M256 - d.n = t2 + M256 by omega, Nat.add_mod_right]
                exact Nat.mod_eq_of_lt HT.out.2.1)
              clear hk
              go_wp2_with (first
                | ((with_reducible refine wpList_load_wordIn ?_ (.tmp 12) ?_ g1x 0 (t1) ?_ ?_ ?_); (exact rfl); (exact rfl); (exact rfl); (exact R1.out))
                | ((with_reducible refine wpList_load_wordIn ?_ (.tmp 92) ?_ g8 2 (d.n) ?_ ?_ ?_); (exact rfl); (exact rfl); (exact rfl); (exact HWN.out)))
              refine (sub_any t1 d.n _ HT1.out HD.out.2.2.1).mono ?_
              rintro e w9 ⟨rfl, he⟩
              have HX9 := Lib.hid he
              have K12 := Lib.hid (Cs.ext Hg12.out he)
              clear he
              rw [HEQ.out]
              go_upto_region 23 with ((with_reducible refine wpList_store_word rfl rfl 31 (.tmp 12) (.tmp 95) rfl winfo g1x (wc t1) t2 ?_ ?_ ?_ ?_ ?_); (exact rfl); (exact rfl); (exact K12.out); (exact rfl); intro wp kp gp; have KP := Lib.hid kp; have GP := Lib.hid gp; clear kp gp)
              have KN := Lib.hid (Cs.kept (Cs.ext Hgg9.out HX9.out) GP.out (some_ne (fun e => by have h1 := HXG.out.1; have h2 := HL9.out; omega)))
              have KL := Lib.hid (Cs.kept (Cs.ext HgL.out HX9.out) GP.out (some_ne (fun e => by have h1 := HXG.out.1; have h2 := HBS.out.2; omega)))
              have KS := Lib.hid ((HSn.out.ext HX9.out).set (fun hp b o sp nn cc e => by have h1 := HXG.out.1; have h2 := HSB.out hp b o sp nn cc e; omega) GP.out)
              have KE := Lib.hid ((HE.out.trans HX9.out).grown GP.out (Nat.le_trans HBS.out.1 HXG.out.1))
              have K13 := Lib.hid (Cs.kept (Cs.ext Hg13.out HX9.out) GP.out (some_ne (fun e => HXG.out.2.2 e.symm)))
              have R1 := Lib.hid (Cs.rg KP.out)
              have R2 := Lib.hid (Cs.rg K13.out)
              have ht2 := HT.out.2.1
              have HT2 := Lib.hid ht2
              clear ht2
              have qn := KN.out.cell 0 _ rfl
              have qL := KL.out.cell 0 _ rfl
              go_wp2_with (first
                | ((with_reducible refine wpList_load_wordIn ?_ (.tmp 12) ?_ g1x 0 (t2) ?_ ?_ ?_); (exact rfl); (exact rfl); (exact rfl); (exact R1.out))
                | ((with_reducible refine wpList_load_wordIn ?_ (.tmp 13) ?_ g2x 0 (t2) ?_ ?_ ?_); (exact rfl); (exact rfl); (exact rfl); (exact R2.out))
                | ((with_reducible refine wpList_neq_wsameS ?_ (.tmp 105) (.tmp 106) ?_ t2 HT2.out ?_ ?_ ?_); (exact rfl); (exact rfl); (exact rfl); (exact rfl))
                | ((with_reducible refine wpList_store_agg ?_ ?_ 59 (.tmp 3) (.tmp 108) ?_ ldinfo gL #[vc] #[vn] ?_ ?_ ?_ ?_ ?_ ?_ ?_); (exact rfl); (exact rfl); (exact rfl); (exact one_val HV1.out); (exact rfl); (exact rfl); (exact KL.out); (exact rfl); (exact rfl); intro wq kq gq; have KQ := Lib.hid kq; have GQ := Lib.hid gq; clear kq gq))
              exact ⟨⟨k + 1, by omega, by go_num, vn, n, Lib.hid ⟨KQ.out, KS.out.set HNn.out GQ.out, HNn.out, HOW.out.2.1, HOW.out.2.2.1, KE.out.grown GQ.out HGL.out⟩⟩, by simp [intOf]; omega⟩
            · rw [hk]
              have HWD := Lib.hid (HOW.out.2.2.2.2.1)
              have HWN := Lib.hid (dd_word Hg8.out)
              have R1 := Lib.hid (Cs.rg Hg12.out)
              have ht1 := HT.out.1
              have HT1 := Lib.hid ht1
              clear ht1
              have HEQ := Lib.hid (show (t1 + d.n) % M256 = t2 by
                have h1 := HT.out.2.2
                rw [if_neg (by rw [hk]; decide), if_pos (by rw [hk]; decide), HWD.out.wd (by rw [hk]; decide)] at h1
                rw [← show t2 = t1 + d.n by omega]
                exact Nat.mod_eq_of_lt HT.out.2.1)
              clear hk
              go_wp2_with (first
                | ((with_reducible refine wpList_load_wordIn ?_ (.tmp 12) ?_ g1x 0 (t1) ?_ ?_ ?_); (exact rfl); (exact rfl); (exact rfl); (exact R1.out))
                | ((with_reducible refine wpList_load_wordIn ?_ (.tmp 83) ?_ g8 2 (d.n) ?_ ?_ ?_); (exact rfl); (exact rfl); (exact rfl); (exact HWN.out)))
              refine (add_any t1 d.n _ HT1.out HD.out.2.2.1).mono ?_
              rintro e w9 ⟨rfl, he⟩
              have HX9 := Lib.hid he
              have K12 := Lib.hid (Cs.ext Hg12.out he)
              clear he
              rw [HEQ.out]
              go_upto_region 23 with ((with_reducible refine wpList_store_word rfl rfl 31 (.tmp 12) (.tmp 86) rfl winfo g1x (wc t1) t2 ?_ ?_ ?_ ?_ ?_); (exact rfl); (exact rfl); (exact K12.out); (exact rfl); intro wp kp gp; have KP := Lib.hid kp; have GP := Lib.hid gp; clear kp gp)
              have KN := Lib.hid (Cs.kept (Cs.ext Hgg9.out HX9.out) GP.out (some_ne (fun e => by have h1 := HXG.out.1; have h2 := HL9.out; omega)))
              have KL := Lib.hid (Cs.kept (Cs.ext HgL.out HX9.out) GP.out (some_ne (fun e => by have h1 := HXG.out.1; have h2 := HBS.out.2; omega)))
              have KS := Lib.hid ((HSn.out.ext HX9.out).set (fun hp b o sp nn cc e => by have h1 := HXG.out.1; have h2 := HSB.out hp b o sp nn cc e; omega) GP.out)
              have KE := Lib.hid ((HE.out.trans HX9.out).grown GP.out (Nat.le_trans HBS.out.1 HXG.out.1))
              have K13 := Lib.hid (Cs.kept (Cs.ext Hg13.out HX9.out) GP.out (some_ne (fun e => HXG.out.2.2 e.symm)))
              have R1 := Lib.hid (Cs.rg KP.out)
              have R2 := Lib.hid (Cs.rg K13.out)
              have ht2 := HT.out.2.1
              have HT2 := Lib.hid ht2
              clear ht2
              have qn := KN.out.cell 0 _ rfl
              have qL := KL.out.cell 0 _ rfl
              go_wp2_with (first
                | ((with_reducible refine wpList_load_wordIn ?_ (.tmp 12) ?_ g1x 0 (t2) ?_ ?_ ?_); (exact rfl); (exact rfl); (exact rfl); (exact R1.out))
                | ((with_reducible refine wpList_load_wordIn ?_ (.tmp 13) ?_ g2x 0 (t2) ?_ ?_ ?_); (exact rfl); (exact rfl); (exact rfl); (exact R2.out))
                | ((with_reducible refine wpList_neq_wsameS ?_ (.tmp 105) (.tmp 106) ?_ t2 HT2.out ?_ ?_ ?_); (exact rfl); (exact rfl); (exact rfl); (exact rfl))
                | ((with_reducible refine wpList_store_agg ?_ ?_ 59 (.tmp 3) (.tmp 108) ?_ ldinfo gL #[vc] #[vn] ?_ ?_ ?_ ?_ ?_ ?_ ?_); (exact rfl); (exact rfl); (exact rfl); (exact one_val HV1.out); (exact rfl); (exact rfl); (exact KL.out); (exact rfl); (exact rfl); intro wq kq gq; have KQ := Lib.hid kq; have GQ := Lib.hid gq; clear kq gq))
              exact ⟨⟨k + 1, by omega, by go_num, vn, n, Lib.hid ⟨KQ.out, KS.out.set HNn.out GQ.out, HNn.out, HOW.out.2.1, HOW.out.2.2.1, KE.out.grown GQ.out HGL.out⟩⟩, by simp [intOf]; omega⟩
            · rw [hk]
              have HWD := Lib.hid (HOW.out.2.2.2.2.1)
              have HEQ := Lib.hid (show t1 = t2 by
                have h1 := HT.out.2.2
                rw [if_neg (by rw [hk]; decide), if_neg (by rw [hk]; decide), HWD.out.wd (by rw [hk]; decide)] at h1
                omega)
              clear hk
              rw [HEQ.out] at Hg12
              go_upto_region 23 with fail
              have KN := Lib.hid (Cs.ext Hgg9.out (Ext.refl W))
              have KL := Lib.hid (Cs.ext HgL.out (Ext.refl W))
              have KS := Lib.hid (HSn.out.ext (Ext.refl W))
              have KE := Lib.hid (HE.out.trans (Ext.refl W))
              have K13 := Lib.hid (Cs.ext Hg13.out (Ext.refl W))
              have R1 := Lib.hid (Cs.rg Hg12.out)
              have R2 := Lib.hid (Cs.rg K13.out)
              have ht2 := HT.out.2.1
              have HT2 := Lib.hid ht2
              clear ht2
              have qn := KN.out.cell 0 _ rfl
              have qL := KL.out.cell 0 _ rfl
              go_wp2_with (first
                | ((with_reducible refine wpList_load_wordIn ?_ (.tmp 12) ?_ g1x 0 (t2) ?_ ?_ ?_); (exact rfl); (exact rfl); (exact rfl); (exact R1.out))
                | ((with_reducible refine wpList_load_wordIn ?_ (.tmp 13) ?_ g2x 0 (t2) ?_ ?_ ?_); (exact rfl); (exact rfl); (exact rfl); (exact R2.out))
                | ((with_reducible refine wpList_neq_wsameS ?_ (.tmp 105) (.tmp 106) ?_ t2 HT2.out ?_ ?_ ?_); (exact rfl); (exact rfl); (exact rfl); (exact rfl))
                | ((with_reducible refine wpList_store_agg ?_ ?_ 59 (.tmp 3) (.tmp 108) ?_ ldinfo gL #[vc] #[vn] ?_ ?_ ?_ ?_ ?_ ?_ ?_); (exact rfl); (exact rfl); (exact rfl); (exact one_val HV1.out); (exact rfl); (exact rfl); (exact KL.out); (exact rfl); (exact rfl); intro wq kq gq; have KQ := Lib.hid kq; have GQ := Lib.hid gq; clear kq gq))
              exact ⟨⟨k + 1, by omega, by go_num, vn, n, Lib.hid ⟨KQ.out, KS.out.set HNn.out GQ.out, HNn.out, HOW.out.2.1, HOW.out.2.2.1, KE.out.grown GQ.out HGL.out⟩⟩, by simp [intOf]; omega⟩
            · rw [hk]
              have HWD := Lib.hid (HOW.out.2.2.2.2.1)
              have RW := Lib.hid (Cs.rg Hwg9.out)
              have hwd := HOW.out.2.2.2.2.2.1
              have HWM := Lib.hid hwd
              clear hwd
              have R1 := Lib.hid (Cs.rg Hg12.out)
              have ht1 := HT.out.1
              have HT1 := Lib.hid ht1
              clear ht1
              have HEQ := Lib.hid (show (t1 + M256 - wd) % M256 = t2 by
                have h1 := HT.out.2.2
                rw [if_neg (by rw [hk]; decide), if_neg (by rw [hk]; decide)] at h1
                rw [show t1 + M256 - wd = t2 + M256 by omega, Nat.add_mod_right]
                exact Nat.mod_eq_of_lt HT.out.2.1)
              clear hk
              go_wp2_with (first
                | ((with_reducible refine wpList_load_wordIn ?_ (.tmp 12) ?_ g1x 0 (t1) ?_ ?_ ?_); (exact rfl); (exact rfl); (exact rfl); (exact R1.out))
                | ((with_reducible refine wpList_load_wordIn ?_ (.tmp 10) ?_ g9w 0 (wd) ?_ ?_ ?_); (exact rfl); (exact rfl); (exact rfl); (exact RW.out)))
              refine (sub_any t1 wd _ HT1.out HWM.out).mono ?_
              rintro e w9 ⟨rfl, he⟩
              have HX9 := Lib.hid he
              have K12 := Lib.hid (Cs.ext Hg12.out he)
              clear he
              rw [HEQ.out]
              go_upto_region 23 with ((with_reducible refine wpList_store_word rfl rfl 31 (.tmp 12) (.tmp 103) rfl winfo g1x (wc t1) t2 ?_ ?_ ?_ ?_ ?_); (exact rfl); (exact rfl); (exact K12.out); (exact rfl); intro wp kp gp; have KP := Lib.hid kp; have GP := Lib.hid gp; clear kp gp)
              have KN := Lib.hid (Cs.kept (Cs.ext Hgg9.out HX9.out) GP.out (some_ne (fun e => by have h1 := HXG.out.1; have h2 := HL9.out; omega)))
              have KL := Lib.hid (Cs.kept (Cs.ext HgL.out HX9.out) GP.out (some_ne (fun e => by have h1 := HXG.out.1; have h2 := HBS.out.2; omega)))
              have KS := Lib.hid ((HSn.out.ext HX9.out).set (fun hp b o sp nn cc e => by have h1 := HXG.out.1; have h2 := HSB.out hp b o sp nn cc e; omega) GP.out)
              have KE := Lib.hid ((HE.out.trans HX9.out).grown GP.out (Nat.le_trans HBS.out.1 HXG.out.1))
              have K13 := Lib.hid (Cs.kept (Cs.ext Hg13.out HX9.out) GP.out (some_ne (fun e => HXG.out.2.2 e.symm)))
              have R1 := Lib.hid (Cs.rg KP.out)
              have R2 := Lib.hid (Cs.rg K13.out)
              have ht2 := HT.out.2.1
              have HT2 := Lib.hid ht2
              clear ht2
              have qn := KN.out.cell 0 _ rfl
              have qL := KL.out.cell 0 _ rfl
              go_wp2_with (first
                | ((with_reducible refine wpList_load_wordIn ?_ (.tmp 12) ?_ g1x 0 (t2) ?_ ?_ ?_); (exact rfl); (exact rfl); (exact rfl); (exact R1.out))
                | ((with_reducible refine wpList_load_wordIn ?_ (.tmp 13) ?_ g2x 0 (t2) ?_ ?_ ?_); (exact rfl); (exact rfl); (exact rfl); (exact R2.out))
                | ((with_reducible refine wpList_neq_wsameS ?_ (.tmp 105) (.tmp 106) ?_ t2 HT2.out ?_ ?_ ?_); (exact rfl); (exact rfl); (exact rfl); (exact rfl))
                | ((with_reducible refine wpList_store_agg ?_ ?_ 59 (.tmp 3) (.tmp 108) ?_ ldinfo gL #[vc] #[vn] ?_ ?_ ?_ ?_ ?_ ?_ ?_); (exact rfl); (exact rfl); (exact rfl); (exact one_val HV1.out); (exact rfl); (exact rfl); (exact KL.out); (exact rfl); (exact rfl); intro wq kq gq; have KQ := Lib.hid kq; have GQ := Lib.hid gq; clear kq gq))
              exact ⟨⟨k + 1, by omega, by go_num, vn, n, Lib.hid ⟨KQ.out, KS.out.set HNn.out GQ.out, HNn.out, HOW.out.2.1, HOW.out.2.2.1, KE.out.grown GQ.out HGL.out⟩⟩, by simp [intOf]; omega⟩
      have e1 : ((oth : Int) != (d.addr : Int)) = true := by simp; omega
      have HF0 := Lib.hid (show fdG n oth = fdG lc oth by
        by_cases h0 : oth = 0
        · rw [h0, fd_zero, fd_zero]
        · rw [fd_row HRN.out h0, fd_row HRL.out h0, HOW.out.2.2.2.1 oth hab])
      obtain ⟨f, hf⟩ : ∃ f, fdG lc oth = f := ⟨_, rfl⟩
      have HF2 := Lib.hid hf
      have HF1 := Lib.hid (show fdG n oth = f by rw [HF0.out, hf])
      have HFO := Lib.hid (show f.ok by rw [← hf]; exact fdG_ok HKL.out.2.2 HOT.out)
      clear hab hf
      refine wp_named fun a0 ha0 => ?_
      obtain ⟨fr, hfr⟩ : ∃ fr : (Nat → Value) → Act, ∀ V, fr V = ((((((((((((((((((a0.put (some 52) (V 0)).put (some 53) (V 1)).put (some 54) (V 2)).put (some 55) (V 3)).put (some 56) (V 4)).put (some 57) (V 5)).put (some 58) (V 6)).put (some 59) (V 7)).put (some 60) (V 8)).put (some 61) (V 9)).put (some 62) (V 10)).put (some 63) (V 11)).put (some 64) (V 12)).put (some 65) (V 13)).put (some 66) (V 14)).put (some 67) (V 15)).put (some 68) (V 16)).put (some 69) (V 17)) := ⟨fun V => ((((((((((((((((((a0.put (some 52) (V 0)).put (some 53) (V 1)).put (some 54) (V 2)).put (some 55) (V 3)).put (some 56) (V 4)).put (some 57) (V 5)).put (some 58) (V 6)).put (some 59) (V 7)).put (some 60) (V 8)).put (some 61) (V 9)).put (some 62) (V 10)).put (some 63) (V 11)).put (some 64) (V 12)).put (some 65) (V 13)).put (some 66) (V 14)).put (some 67) (V 15)).put (some 68) (V 16)).put (some 69) (V 17)), fun _ => rfl⟩
      rw [ha0] at hfr
      simp only [Act.put, List.setIfInBounds_toArray, List.set_cons_zero, List.set_cons_succ] at hfr
      have HFR := Lib.hid hfr
      clear hfr
      refine wp_region_inv (by kernel_rfl) (by kernel_rfl) (fun L A W => ∃ V : Nat → Value, A = fr V ∧ Vals (fun j => ([some (.agg #[vn]), some (.int .i64 0), some (.bool false), some (.bool false), some (.int .u64 (oth : Nat)), some (.pointer (some ⟨g8, 1, none⟩)), some (.int .u64 (d.addr : Nat)), some (.bool true), some (.bool true), some (.agg #[vn]), some (.int .u64 (oth : Nat)), some (.agg (hdc f)), some (.agg #[vc]), some (.int .u64 (oth : Nat)), some (.agg (hdc f)), some (.bool false), some (.bool false), some (.bool false)] : List (Option Value)).getD j none) L V ∧ (Ext wz W)) ?_ ⟨?_, ?_, ?_, ?_, ?_, ?_, ?_, ?_, ?_, ?_, ?_, ?_, ?_, ?_, ?_, ?_, ?_, ?_, trivial⟩ ?_
      · refine ⟨fun j => a0.tmps.getD (([52, 53, 54, 55, 56, 57, 58, 59, 60, 61, 62, 63, 64, 65, 66, 67, 68, 69] : List Nat).getD j 0) undef, ?_, Vals.no _ _ _ (far_none _ _ rfl), (Ext.refl _).drew⟩
        rw [HFR.out, ha0]
        rfl
      all_goals clear ha0
      · rintro L A W K hL hC hW ⟨V, rfl, HV, s0⟩ hK
        have hB := s0
        have H := Lib.hid (show ∀ W', Ext W W' → K (fr (upd V 0 (.agg #[vn]))) W' from fun W' he => hK _ _ ⟨upd V 0 (.agg #[vn]), rfl, HV.up 0 _ (fun x hx => Option.some.inj hx), Ext.trans s0 he⟩)
        clear hK hC hW hL HV s0
        rw [HFR.out]
        have hcl := (Cs.ext Hgg9.out hB).cell 0 _ rfl
        clear hB
        go_wp2_with fail
        show K _ _
        have := H.out _ (Ext.refl _)
        rw [HFR.out] at this
        exact this
      · rintro L A W K hL hC hW ⟨V, rfl, HV, s0⟩ hK
        have e0 : V 0 = .agg #[vn] := HV 0 _ rfl (hW 0 rfl)
        have hB := s0
        have H := Lib.hid (show ∀ W', Ext W W' → K (fr (upd V 1 (.int .i64 0))) W' from fun W' he => hK _ _ ⟨upd V 1 (.int .i64 0), rfl, HV.up 1 _ (fun x hx => Option.some.inj hx), Ext.trans s0 he⟩)
        have HU := Lib.hid (show (upd V 1 (.int .i64 0)) 0 = .agg #[vn] from e0)
        clear hK hC hW hL HV s0
        rw [HFR.out]
        rw [e0]
        clear e0
        have HB' := Lib.hid hB
        clear hB
        go_wp2_with fail
        refine (ledCheck_ok (HSn.out.ext HB'.out) HRN.out).mono ?_
        rintro e wx ⟨rfl, he⟩
        have := H.out _ he
        clear H
        go_wp2_with fail
        show K _ _
        rw [HFR.out] at this
        obtain u0 := HU.out
        rw [u0] at this
        exact this
      · rintro L A W K hL hC hW ⟨V, rfl, HV, s0⟩ hK
        have e1 : V 1 = .int .i64 0 := HV 1 _ rfl (hW 1 rfl)
        have H := Lib.hid (show ∀ W', Ext W W' → K (fr (upd V 2 (.bool false))) W' from fun W' he => hK _ _ ⟨upd V 2 (.bool false), rfl, HV.up 2 _ (fun x hx => Option.some.inj hx), Ext.trans s0 he⟩)
        have HU := Lib.hid (show (upd V 2 (.bool false)) 1 = .int .i64 0 from e1)
        clear hK hC hW hL HV s0
        rw [HFR.out]
        rw [e1]
        clear e1
        go_wp2_with fail
        show K _ _
        have := H.out _ (Ext.refl _)
        rw [HFR.out] at this
        obtain u1 := HU.out
        rw [u1] at this
        exact this
      · rintro L A W K hL hC hW ⟨V, rfl, HV, s0⟩ hK
        have e2 : V 2 = .bool false := HV 2 _ rfl (hW 2 rfl)
        have H := Lib.hid (show ∀ W', Ext W W' → K (fr (upd V 3 (.bool false))) W' from fun W' he => hK _ _ ⟨upd V 3 (.bool false), rfl, HV.up 3 _ (fun x hx => Option.some.inj hx), Ext.trans s0 he⟩)
        have HU := Lib.hid (show (upd V 3 (.bool false)) 2 = .bool false from e2)
        clear hK hC hW hL HV s0
        rw [HFR.out]
        rw [e2]
        clear e2
        go_wp2_with fail
        show K _ _
        have := H.out _ (Ext.refl _)
        rw [HFR.out] at this
        obtain u2 := HU.out
        rw [u2] at this
        exact this
      · rintro L A W K hL hC hW ⟨V, rfl, HV, s0⟩ hK
        have e3 : V 3 = .bool false := HV 3 _ rfl (hW 3 rfl)
        have H := Lib.hid (show ∀ W', Ext W W' → K (fr (upd V 4 (.int .u64 (oth : Nat)))) W' from fun W' he => hK _ _ ⟨upd V 4 (.int .u64 (oth : Nat)), rfl, HV.up 4 _ (fun x hx => Option.some.inj hx), Ext.trans s0 he⟩)
        have HU := Lib.hid (show (upd V 4 (.int .u64 (oth : Nat))) 3 = .bool false from e3)
        clear hK hC hW hL HV s0
        rw [HFR.out]
        rw [e3]
        clear e3
        go_wp2_with fail
        show K _ _
        have := H.out _ (Ext.refl _)
        rw [HFR.out] at this
        obtain u3 := HU.out
        rw [u3] at this
        exact this
      · rintro L A W K hL hC hW ⟨V, rfl, HV, s0⟩ hK
        have e3 : V 3 = .bool false := HV 3 _ rfl (hW 3 rfl)
        have H := Lib.hid (show ∀ W', Ext W W' → K (fr (upd V 5 (.pointer (some ⟨g8, 1, none⟩)))) W' from fun W' he => hK _ _ ⟨upd V 5 (.pointer (some ⟨g8, 1, none⟩)), rfl, HV.up 5 _ (fun x hx => Option.some.inj hx), Ext.trans s0 he⟩)
        have HU := Lib.hid (show (upd V 5 (.pointer (some ⟨g8, 1, none⟩))) 3 = .bool false from e3)
        clear hK hC hW hL HV s0
        rw [HFR.out]
        rw [e3]
        clear e3
        go_wp2_with fail
        show K _ _
        have := H.out _ (Ext.refl _)
        rw [HFR.out] at this
        obtain u3 := HU.out
        rw [u3] at this
        exact this
      · rintro L A W K hL hC hW ⟨V, rfl, HV, s0⟩ hK
        have e3 : V 3 = .bool false := HV 3 _ rfl (hW 3 rfl)
        have e5 : V 5 = .pointer (some ⟨g8, 1, none⟩) := HV 5 _ rfl (hW 5 rfl)
        have hB := s0
        have H := Lib.hid (show ∀ W', Ext W W' → K (fr (upd V 6 (.int .u64 (d.addr : Nat)))) W' from fun W' he => hK _ _ ⟨upd V 6 (.int .u64 (d.addr : Nat)), rfl, HV.up 6 _ (fun x hx => Option.some.inj hx), Ext.trans s0 he⟩)
        have HU := Lib.hid (show (upd V 6 (.int .u64 (d.addr : Nat))) 3 = .bool false ∧ (upd V 6 (.int .u64 (d.addr : Nat))) 5 = .pointer (some ⟨g8, 1, none⟩) from ⟨e3, e5⟩)
        clear hK hC hW hL HV s0
        rw [HFR.out]
        rw [e3, e5]
        clear e3 e5
        have hcl : W.cell? ⟨g8, 1, none⟩ = some (.int .u64 (d.addr : Nat)) := Cs.cell (Cs.ext Hg8.out hB) 1 _ rfl
        clear hB
        go_wp2_with fail
        show K _ _
        have := H.out _ (Ext.refl _)
        rw [HFR.out] at this
        obtain ⟨u3, u5⟩ := HU.out
        rw [u3, u5] at this
        exact this
      · rintro L A W K hL hC hW ⟨V, rfl, HV, s0⟩ hK
        have e3 : V 3 = .bool false := HV 3 _ rfl (hW 3 rfl)
        have e4 : V 4 = .int .u64 (oth : Nat) := HV 4 _ rfl (hW 4 rfl)
        have e6 : V 6 = .int .u64 (d.addr : Nat) := HV 6 _ rfl (hW 6 rfl)
        have H := Lib.hid (show ∀ W', Ext W W' → K (fr (upd V 7 (.bool true))) W' from fun W' he => hK _ _ ⟨upd V 7 (.bool true), rfl, HV.up 7 _ (fun x hx => Option.some.inj hx), Ext.trans s0 he⟩)
        have HU := Lib.hid (show (upd V 7 (.bool true)) 3 = .bool false ∧ (upd V 7 (.bool true)) 4 = .int .u64 (oth : Nat) ∧ (upd V 7 (.bool true)) 6 = .int .u64 (d.addr : Nat) from ⟨e3, e4, e6⟩)
        clear hK hC hW hL HV s0
        rw [HFR.out]
        rw [e3, e4, e6]
        clear e3 e4 e6
        go_wp2_with fail
        show K _ _
        have := H.out _ (Ext.refl _)
        rw [HFR.out] at this
        obtain ⟨u3, u4, u6⟩ := HU.out
        rw [u3, u4, u6] at this
        exact this
      · rintro L A W K hL hC hW ⟨V, rfl, HV, s0⟩ hK
        have e3 : V 3 = .bool false := HV 3 _ rfl (hW 3 rfl)
        have e7 : V 7 = .bool true := HV 7 _ rfl (hW 7 rfl)
        have H := Lib.hid (show ∀ W', Ext W W' → K (fr (upd V 8 (.bool true))) W' from fun W' he => hK _ _ ⟨upd V 8 (.bool true), rfl, HV.up 8 _ (fun x hx => Option.some.inj hx), Ext.trans s0 he⟩)
        have HU := Lib.hid (show (upd V 8 (.bool true)) 3 = .bool false ∧ (upd V 8 (.bool true)) 7 = .bool true from ⟨e3, e7⟩)
        clear hK hC hW hL HV s0
        rw [HFR.out]
        rw [e3, e7]
        clear e3 e7
        go_wp2_with fail
        show K _ _
        have := H.out _ (Ext.refl _)
        rw [HFR.out] at this
        obtain ⟨u3, u7⟩ := HU.out
        rw [u3, u7] at this
        exact this
      · rintro L A W K hL hC hW ⟨V, rfl, HV, s0⟩ hK
        have e8 : V 8 = .bool true := HV 8 _ rfl (hW 8 rfl)
        have hB := s0
        have H := Lib.hid (show ∀ W', Ext W W' → K (fr (upd V 9 (.agg #[vn]))) W' from fun W' he => hK _ _ ⟨upd V 9 (.agg #[vn]), rfl, HV.up 9 _ (fun x hx => Option.some.inj hx), Ext.trans s0 he⟩)
        have HU := Lib.hid (show (upd V 9 (.agg #[vn])) 8 = .bool true from e8)
        clear hK hC hW hL HV s0
        rw [HFR.out]
        rw [e8]
        clear e8
        have hcl := (Cs.ext Hgg9.out hB).cell 0 _ rfl
        clear hB
        go_wp2_with fail
        show K _ _
        have := H.out _ (Ext.refl _)
        rw [HFR.out] at this
        obtain u8 := HU.out
        rw [u8] at this
        exact this
      · rintro L A W K hL hC hW ⟨V, rfl, HV, s0⟩ hK
        have e8 : V 8 = .bool true := HV 8 _ rfl (hW 8 rfl)
        have H := Lib.hid (show ∀ W', Ext W W' → K (fr (upd V 10 (.int .u64 (oth : Nat)))) W' from fun W' he => hK _ _ ⟨upd V 10 (.int .u64 (oth : Nat)), rfl, HV.up 10 _ (fun x hx => Option.some.inj hx), Ext.trans s0 he⟩)
        have HU := Lib.hid (show (upd V 10 (.int .u64 (oth : Nat))) 8 = .bool true from e8)
        clear hK hC hW hL HV s0
        rw [HFR.out]
        rw [e8]
        clear e8
        go_wp2_with fail
        show K _ _
        have := H.out _ (Ext.refl _)
        rw [HFR.out] at this
        obtain u8 := HU.out
        rw [u8] at this
        exact this
      · rintro L A W K hL hC hW ⟨V, rfl, HV, s0⟩ hK
        have e8 : V 8 = .bool true := HV 8 _ rfl (hW 8 rfl)
        have e9 : V 9 = .agg #[vn] := HV 9 _ rfl (hW 9 rfl)
        have e10 : V 10 = .int .u64 (oth : Nat) := HV 10 _ rfl (hW 10 rfl)
        have hB := s0
        have H := Lib.hid (show ∀ W', Ext W W' → K (fr (upd V 11 (.agg (hdc f)))) W' from fun W' he => hK _ _ ⟨upd V 11 (.agg (hdc f)), rfl, HV.up 11 _ (fun x hx => Option.some.inj hx), Ext.trans s0 he⟩)
        have HU := Lib.hid (show (upd V 11 (.agg (hdc f))) 8 = .bool true ∧ (upd V 11 (.agg (hdc f))) 9 = .agg #[vn] ∧ (upd V 11 (.agg (hdc f))) 10 = .int .u64 (oth : Nat) from ⟨e8, e9, e10⟩)
        clear hK hC hW hL HV s0
        rw [HFR.out]
        rw [e8, e9, e10]
        clear e8 e9 e10
        have HB' := Lib.hid hB
        clear hB
        go_wp2_with fail
        refine (findL_eq (HSn.out.ext HB'.out) HOT.out HF1.out).mono ?_
        rintro e wx ⟨rfl, he⟩
        have := H.out _ he
        clear H
        go_wp2_with fail
        show K _ _
        rw [HFR.out] at this
        obtain ⟨u8, u9, u10⟩ := HU.out
        rw [u8, u9, u10] at this
        exact this
      · rintro L A W K hL hC hW ⟨V, rfl, HV, s0⟩ hK
        have e8 : V 8 = .bool true := HV 8 _ rfl (hW 8 rfl)
        have hB := s0
        have H := Lib.hid (show ∀ W', Ext W W' → K (fr (upd V 12 (.agg #[vc]))) W' from fun W' he => hK _ _ ⟨upd V 12 (.agg #[vc]), rfl, HV.up 12 _ (fun x hx => Option.some.inj hx), Ext.trans s0 he⟩)
        have HU := Lib.hid (show (upd V 12 (.agg #[vc])) 8 = .bool true from e8)
        clear hK hC hW hL HV s0
        rw [HFR.out]
        rw [e8]
        clear e8
        have hcl := (Cs.ext HgL.out hB).cell 0 _ rfl
        clear hB
        go_wp2_with fail
        show K _ _
        have := H.out _ (Ext.refl _)
        rw [HFR.out] at this
        obtain u8 := HU.out
        rw [u8] at this
        exact this
      · rintro L A W K hL hC hW ⟨V, rfl, HV, s0⟩ hK
        have e8 : V 8 = .bool true := HV 8 _ rfl (hW 8 rfl)
        have H := Lib.hid (show ∀ W', Ext W W' → K (fr (upd V 13 (.int .u64 (oth : Nat)))) W' from fun W' he => hK _ _ ⟨upd V 13 (.int .u64 (oth : Nat)), rfl, HV.up 13 _ (fun x hx => Option.some.inj hx), Ext.trans s0 he⟩)
        have HU := Lib.hid (show (upd V 13 (.int .u64 (oth : Nat))) 8 = .bool true from e8)
        clear hK hC hW hL HV s0
        rw [HFR.out]
        rw [e8]
        clear e8
        go_wp2_with fail
        show K _ _
        have := H.out _ (Ext.refl _)
        rw [HFR.out] at this
        obtain u8 := HU.out
        rw [u8] at this
        exact this
      · rintro L A W K hL hC hW ⟨V, rfl, HV, s0⟩ hK
        have e8 : V 8 = .bool true := HV 8 _ rfl (hW 8 rfl)
        have e12 : V 12 = .agg #[vc] := HV 12 _ rfl (hW 12 rfl)
        have e13 : V 13 = .int .u64 (oth : Nat) := HV 13 _ rfl (hW 13 rfl)
        have hB := s0
        have H := Lib.hid (show ∀ W', Ext W W' → K (fr (upd V 14 (.agg (hdc f)))) W' from fun W' he => hK _ _ ⟨upd V 14 (.agg (hdc f)), rfl, HV.up 14 _ (fun x hx => Option.some.inj hx), Ext.trans s0 he⟩)
        have HU := Lib.hid (show (upd V 14 (.agg (hdc f))) 8 = .bool true ∧ (upd V 14 (.agg (hdc f))) 12 = .agg #[vc] ∧ (upd V 14 (.agg (hdc f))) 13 = .int .u64 (oth : Nat) from ⟨e8, e12, e13⟩)
        clear hK hC hW hL HV s0
        rw [HFR.out]
        rw [e8, e12, e13]
        clear e8 e12 e13
        have HB' := Lib.hid hB
        clear hB
        go_wp2_with fail
        refine (findL_eq (HS.out.ext HB'.out) HOT.out HF2.out).mono ?_
        rintro e wx ⟨rfl, he⟩
        have := H.out _ he
        clear H
        go_wp2_with fail
        show K _ _
        rw [HFR.out] at this
        obtain ⟨u8, u12, u13⟩ := HU.out
        rw [u8, u12, u13] at this
        exact this
      · rintro L A W K hL hC hW ⟨V, rfl, HV, s0⟩ hK
        have e8 : V 8 = .bool true := HV 8 _ rfl (hW 8 rfl)
        have e11 : V 11 = .agg (hdc f) := HV 11 _ rfl (hW 11 rfl)
        have e14 : V 14 = .agg (hdc f) := HV 14 _ rfl (hW 14 rfl)
        have hB := s0
        have H := Lib.hid (show ∀ W', Ext W W' → K (fr (upd V 15 (.bool false))) W' from fun W' he => hK _ _ ⟨upd V 15 (.bool false), rfl, HV.up 15 _ (fun x hx => Option.some.inj hx), Ext.trans s0 he⟩)
        have HU := Lib.hid (show (upd V 15 (.bool false)) 8 = .bool true ∧ (upd V 15 (.bool false)) 11 = .agg (hdc f) ∧ (upd V 15 (.bool false)) 14 = .agg (hdc f) from ⟨e8, e11, e14⟩)
        clear hK hC hW hL HV s0
        rw [HFR.out]
        rw [e8, e11, e14]
        clear e8 e11 e14
        clear hB
        refine wpList_neq_hdsame rfl (.tmp 63) (.tmp 66) rfl f HFO.out rfl rfl ?_
        show K _ _
        have := H.out _ (Ext.refl _)
        rw [HFR.out] at this
        obtain ⟨u8, u11, u14⟩ := HU.out
        rw [u8, u11, u14] at this
        exact this
      · rintro L A W K hL hC hW ⟨V, rfl, HV, s0⟩ hK
        have e3 : V 3 = .bool false := HV 3 _ rfl (hW 3 rfl)
        have e8 : V 8 = .bool true := HV 8 _ rfl (hW 8 rfl)
        have e15 : V 15 = .bool false := HV 15 _ rfl (hW 15 rfl)
        have H := Lib.hid (show ∀ W', Ext W W' → K (fr (upd V 16 (.bool false))) W' from fun W' he => hK _ _ ⟨upd V 16 (.bool false), rfl, HV.up 16 _ (fun x hx => Option.some.inj hx), Ext.trans s0 he⟩)
        have HU := Lib.hid (show (upd V 16 (.bool false)) 3 = .bool false ∧ (upd V 16 (.bool false)) 8 = .bool true ∧ (upd V 16 (.bool false)) 15 = .bool false from ⟨e3, e8, e15⟩)
        clear hK hC hW hL HV s0
        rw [HFR.out]
        rw [e3, e8, e15]
        clear e3 e8 e15
        go_wp2_with fail
        show K _ _
        have := H.out _ (Ext.refl _)
        rw [HFR.out] at this
        obtain ⟨u3, u8, u15⟩ := HU.out
        rw [u3, u8, u15] at this
        exact this
      · rintro L A W K hL hC hW ⟨V, rfl, HV, s0⟩ hK
        have e3 : V 3 = .bool false := HV 3 _ rfl (hW 3 rfl)
        have e16 : V 16 = .bool false := HV 16 _ rfl (hW 16 rfl)
        have H := Lib.hid (show ∀ W', Ext W W' → K (fr (upd V 17 (.bool false))) W' from fun W' he => hK _ _ ⟨upd V 17 (.bool false), rfl, HV.up 17 _ (fun x hx => Option.some.inj hx), Ext.trans s0 he⟩)
        have HU := Lib.hid (show (upd V 17 (.bool false)) 3 = .bool false ∧ (upd V 17 (.bool false)) 16 = .bool false from ⟨e3, e16⟩)
        clear hK hC hW hL HV s0
        rw [HFR.out]
        rw [e3, e16]
        clear e3 e16
        go_wp2_with fail
        show K _ _
        have := H.out _ (Ext.refl _)
        rw [HFR.out] at this
        obtain ⟨u3, u16⟩ := HU.out
        rw [u3, u16] at this
        exact this
      · rintro L A W hL ⟨V, rfl, HV, s0⟩
        have e0 : V 0 = .agg #[vn] := HV 0 _ rfl (hL 0 (by simp))
        have e1 : V 1 = .int .i64 0 := HV 1 _ rfl (hL 1 (by simp))
        have e2 : V 2 = .bool false := HV 2 _ rfl (hL 2 (by simp))
        have e3 : V 3 = .bool false := HV 3 _ rfl (hL 3 (by simp))
        have e4 : V 4 = .int .u64 (oth : Nat) := HV 4 _ rfl (hL 4 (by simp))
        have e5 : V 5 = .pointer (some ⟨g8, 1, none⟩) := HV 5 _ rfl (hL 5 (by simp))
        have e6 : V 6 = .int .u64 (d.addr : Nat) := HV 6 _ rfl (hL 6 (by simp))
        have e7 : V 7 = .bool true := HV 7 _ rfl (hL 7 (by simp))
        have e8 : V 8 = .bool true := HV 8 _ rfl (hL 8 (by simp))
        have e9 : V 9 = .agg #[vn] := HV 9 _ rfl (hL 9 (by simp))
        have e10 : V 10 = .int .u64 (oth : Nat) := HV 10 _ rfl (hL 10 (by simp))
        have e11 : V 11 = .agg (hdc f) := HV 11 _ rfl (hL 11 (by simp))
        have e12 : V 12 = .agg #[vc] := HV 12 _ rfl (hL 12 (by simp))
        have e13 : V 13 = .int .u64 (oth : Nat) := HV 13 _ rfl (hL 13 (by simp))
        have e14 : V 14 = .agg (hdc f) := HV 14 _ rfl (hL 14 (by simp))
        have e15 : V 15 = .bool false := HV 15 _ rfl (hL 15 (by simp))
        have e16 : V 16 = .bool false := HV 16 _ rfl (hL 16 (by simp))
        have e17 : V 17 = .bool false := HV 17 _ rfl (hL 17 (by simp))
        have hA := s0
        rw [HFR.out]
        rw [e0, e1, e2, e3, e4, e5, e6, e7, e8, e9, e10, e11, e12, e13, e14, e15, e16, e17]
        clear hL HV HFR e0 e1 e2 e3 e4 e5 e6 e7 e8 e9 e10 e11 e12 e13 e14 e15 e16 e17 s0
        have HA' := Lib.hid hA
        clear hA
        replace HE := Lib.hid (HE.out.trans HA'.out)
        replace HgL := Lib.hid (Cs.ext HgL.out HA'.out)
        replace Hgg9 := Lib.hid (Cs.ext Hgg9.out HA'.out)
        replace Hwg9 := Lib.hid (Cs.ext Hwg9.out HA'.out)
        replace Hg8 := Lib.hid (Hg8.out.ext HA'.out)
        replace HS := Lib.hid (HS.out.ext HA'.out)
        replace HSn := Lib.hid (HSn.out.ext HA'.out)
        clear HA'
        obtain ⟨wb, rfl⟩ : ∃ wb, wb = W := ⟨W, rfl⟩
        have HL9 := Lib.hid (show g9 < wb.heap.size from Cs.lt Hgg9.out)
        have HWB := Lib.hid (show w.heap.size ≤ wb.heap.size ∧ gL < wb.heap.size from ⟨HE.out.size, Cs.lt HgL.out⟩)
        have HSB := Lib.hid (show 0 < n.length → ∀ b o sp nn cc, vn = .slice (some ⟨b, o, sp⟩) nn cc → b < wb.heap.size from fun hp b o sp nn cc e => by
          obtain ⟨A, c', e', h1, h2, h3⟩ := HSn.out
          obtain ⟨b', o', e1, hc⟩ := h3 hp
          rw [e'] at e
          injection e with e2 _ _
          rw [e1] at e2
          injection e2 with e2
          injection e2 with e2
          obtain ⟨cs, k1, k2, k3⟩ := hc 0 _ (List.getElem?_eq_getElem hp)
          have hcs : ∃ u, cs[0]? = some u := by
            obtain ⟨_, rfl⟩ := k2
            exact ⟨_, rfl⟩
          obtain ⟨u, hu⟩ := hcs
          have := World.block_lt_of_cell? _ _ (k3 0 u hu)
          dsimp only at this
          omega)
        go_upto_region 14 with fail
        obtain ⟨t1, ht1⟩ : ∃ t, totG lc = t := ⟨_, rfl⟩
        obtain ⟨t2, ht2⟩ : ∃ t, totG n = t := ⟨_, rfl⟩
        have HS1 := Lib.hid (show sumG lc = t1 by rw [HKL.out.2.1.sum HKL.out.2.2, ht1])
        have HS2 := Lib.hid (show sumG n = t2 by rw [HOW.out.2.1.sum HOW.out.2.2.1, ht2])
        have HT := Lib.hid (show t1 < M256 ∧ t2 < M256 ∧ t2 + (if kdD d = 1 then d.n else 0) + wd = t1 + (if kdD d = 0 ∨ kdD d = 2 then d.n else 0) from ⟨by rw [← ht1]; exact HKL.out.2.1.fits, by rw [← ht2]; exact HOW.out.2.1.fits, by rw [← ht1, ← ht2]; exact HOW.out.2.2.2.2.2.2.1⟩)
        have HFE := Lib.hid (show lc.length ≤ 1000 ∧ n.length ≤ 1000 from ⟨by have := HKL.out.2.1.few; omega, by have := HOW.out.2.1.few; omega⟩)
        clear ht1 ht2
        refine wp_named fun a0 ha0 => ?_
        obtain ⟨fr, hfr⟩ : ∃ fr : (Nat → Value) → Act, ∀ V, fr V = ((((((a0.put (some 70) (V 0)).put (some 71) (V 1)).put (some 72) (V 2)).put (some 73) (V 3)).put (some 12) (V 4)).put (some 13) (V 5)) := ⟨fun V => ((((((a0.put (some 70) (V 0)).put (some 71) (V 1)).put (some 72) (V 2)).put (some 73) (V 3)).put (some 12) (V 4)).put (some 13) (V 5)), fun _ => rfl⟩
        rw [ha0] at hfr
        simp only [Act.put, List.setIfInBounds_toArray, List.set_cons_zero, List.set_cons_succ] at hfr
        have HFR := Lib.hid hfr
        clear hfr
        refine wp_region_inv (by kernel_rfl) (by kernel_rfl) (fun L A W => ∃ V : Nat → Value, A = fr V ∧ Vals (fun j => ([some (.agg #[vc]), none, some (.agg #[vn]), none, none, none, none, none] : List (Option Value)).getD j none) L V ∧ (L 6 = true → L 4 = true) ∧ (L 7 = true → L 5 = true) ∧ PrIL 31 ((wc 0)) wb.heap.size (WdPL t1) (WdPL t2) wb (L 1) (L 3) (L 4) (L 5) (L 6) (L 7) (V 1) (V 3) (V 4) (V 5) W) ?_ ⟨?_, ?_, ?_, ?_, ?_, ?_, ?_, ?_, trivial⟩ ?_
        · refine ⟨fun j => a0.tmps.getD (([70, 71, 72, 73, 12, 13, 0, 0] : List Nat).getD j 0) undef, ?_, Vals.no _ _ _ (far_none _ _ rfl), (by decide), (by decide), (Ext.refl _).drew, (fun h => absurd h (by decide)), (fun h => absurd h (by decide)), (fun h => absurd h (by decide)), (fun h => absurd h (by decide)), (fun h => absurd h (by decide)), (fun h => absurd h (by decide)), (fun h => absurd h (by decide))⟩
          rw [HFR.out, ha0]
          rfl
        all_goals clear ha0
        · rintro L A W K hL hC hW ⟨V, rfl, HV, l1, l2, s0⟩ hK
          have H := Lib.hid (show K (fr (upd V 0 (.agg #[vc]))) W from hK _ _ ⟨upd V 0 (.agg #[vc]), rfl, HV.up 0 _ (fun x hx => Option.some.inj hx), (by unfold More; rw [if_neg (by decide), if_neg (by decide)]; exact l1), (by unfold More; rw [if_neg (by decide), if_neg (by decide)]; exact l2), by simpa [More, upd] using s0⟩)
          have hE := s0.1
          have hcl := (Cs.ext HgL.out hE).cell 0 _ rfl
          clear hK hC hW hL HV l1 l2 s0 hE
          rw [HFR.out]
          go_wp2_with fail
          show K _ _
          have := H.out
          rw [HFR.out] at this
          exact this
        · rintro L A W K hL hC hW ⟨V, rfl, HV, l1, l2, s0⟩ hK
          have e0 : V 0 = .agg #[vc] := HV 0 _ rfl (hW 0 rfl)
          have s0' : PrIL 31 ((wc 0)) wb.heap.size (WdPL t1) (WdPL t2) wb (L 1) (L 3) (L 4) (L 5) (L 6) (L 7) (V 1) (V 3) (V 4) (V 5) W := s0
          rw [(hC.no hL 6 _ rfl rfl)] at s0'
          have H := Lib.hid (show ∀ v W', Ext W W' → (WdPL t1) W' v → K (fr (upd V 1 v)) W' from fun v W' he hv => hK _ _ ⟨upd V 1 v, rfl, HV.up 1 _ (fun x hx => absurd hx (by intro h; cases h)), (by unfold More; rw [if_neg (by decide), if_neg (by decide)]; exact l1), (by unfold More; rw [if_neg (by decide), if_neg (by decide)]; exact l2), by simpa [More, upd, (hC.no hL 6 _ rfl rfl)] using (PrIL.call (WdPL.pk wb.heap.size _) (WdPL.pk wb.heap.size _) s0' he hv)⟩)
          have HU := Lib.hid (show ∀ v, (upd V 1 v) 0 = .agg #[vc] from fun v => e0)
          have hE := s0.1
          have HS0 := Lib.hid hE
          clear hK hC hW hL HV l1 l2 s0 s0' hE
          rw [HFR.out]
          rw [e0]
          clear e0
          go_wp2_with fail
          have hE := HS0.out
          refine (sumL_eq (HS.out.ext hE) HFE.out.1 HS1.out).mono ?_
          rintro e wx ⟨rfl, he⟩
          have := H.out _ _ he (rfl)
          clear H
          go_wp2_with fail
          show K _ _
          rw [HFR.out] at this
          obtain u0 := HU.out _
          rw [u0] at this
          exact this
        · rintro L A W K hL hC hW ⟨V, rfl, HV, l1, l2, s0⟩ hK
          have H := Lib.hid (show K (fr (upd V 2 (.agg #[vn]))) W from hK _ _ ⟨upd V 2 (.agg #[vn]), rfl, HV.up 2 _ (fun x hx => Option.some.inj hx), (by unfold More; rw [if_neg (by decide), if_neg (by decide)]; exact l1), (by unfold More; rw [if_neg (by decide), if_neg (by decide)]; exact l2), by simpa [More, upd] using s0⟩)
          have hE := s0.1
          have hcl := (Cs.ext Hgg9.out hE).cell 0 _ rfl
          clear hK hC hW hL HV l1 l2 s0 hE
          rw [HFR.out]
          go_wp2_with fail
          show K _ _
          have := H.out
          rw [HFR.out] at this
          exact this
        · rintro L A W K hL hC hW ⟨V, rfl, HV, l1, l2, s0⟩ hK
          have e2 : V 2 = .agg #[vn] := HV 2 _ rfl (hW 2 rfl)
          have s0' : PrIL 31 ((wc 0)) wb.heap.size (WdPL t1) (WdPL t2) wb (L 1) (L 3) (L 4) (L 5) (L 6) (L 7) (V 1) (V 3) (V 4) (V 5) W := s0
          rw [(hC.no hL 7 _ rfl rfl)] at s0'
          have H := Lib.hid (show ∀ v W', Ext W W' → (WdPL t2) W' v → K (fr (upd V 3 v)) W' from fun v W' he hv => hK _ _ ⟨upd V 3 v, rfl, HV.up 3 _ (fun x hx => absurd hx (by intro h; cases h)), (by unfold More; rw [if_neg (by decide), if_neg (by decide)]; exact l1), (by unfold More; rw [if_neg (by decide), if_neg (by decide)]; exact l2), by simpa [More, upd, (hC.no hL 7 _ rfl rfl)] using (PrIL.call (WdPL.pk wb.heap.size _) (WdPL.pk wb.heap.size _) s0'.swap he hv).swap⟩)
          have HU := Lib.hid (show ∀ v, (upd V 3 v) 2 = .agg #[vn] from fun v => e2)
          have hE := s0.1
          have HS0 := Lib.hid hE
          clear hK hC hW hL HV l1 l2 s0 s0' hE
          rw [HFR.out]
          rw [e2]
          clear e2
          go_wp2_with fail
          have hE := HS0.out
          refine (sumL_eq (HSn.out.ext hE) HFE.out.2 HS2.out).mono ?_
          rintro e wx ⟨rfl, he⟩
          have := H.out _ _ he (rfl)
          clear H
          go_wp2_with fail
          show K _ _
          rw [HFR.out] at this
          obtain u2 := HU.out _
          rw [u2] at this
          exact this
        · rintro L A W K hL hC hW ⟨V, rfl, HV, l1, l2, s0⟩ hK
          have s0' : PrIL 31 ((wc 0)) wb.heap.size (WdPL t1) (WdPL t2) wb (L 1) (L 3) (L 4) (L 5) (L 6) (L 7) (V 1) (V 3) (V 4) (V 5) W := s0
          rw [(hC.no hL 6 _ rfl rfl)] at s0'
          have H := Lib.hid (show K (fr (upd V 4 (.pointer (some ⟨W.heap.size, 0, none⟩)))) (W.alloc (.cells ((wc 0)) 31)) from hK _ _ ⟨upd V 4 (.pointer (some ⟨W.heap.size, 0, none⟩)), rfl, HV.up 4 _ (fun x hx => absurd hx (by intro h; cases h)), (fun _ => by unfold More; exact if_pos rfl), (by unfold More; rw [if_neg (by decide), if_neg (by decide)]; exact l2), by simpa [More, upd, (hC.no hL 6 _ rfl rfl)] using (PrIL.alloc (WdPL.pk wb.heap.size _) (WdPL.pk wb.heap.size _) (Nat.le_refl _) s0')⟩)
          clear hK hC hW hL HV l1 l2 s0 s0'
          rw [HFR.out]
          go_wp2_with fail
          show K _ _
          have := H.out
          rw [HFR.out] at this
          exact this
        · rintro L A W K hL hC hW ⟨V, rfl, HV, l1, l2, s0⟩ hK
          have s0' : PrIL 31 ((wc 0)) wb.heap.size (WdPL t1) (WdPL t2) wb (L 1) (L 3) (L 4) (L 5) (L 6) (L 7) (V 1) (V 3) (V 4) (V 5) W := s0
          rw [(hC.no hL 7 _ rfl rfl)] at s0'
          have H := Lib.hid (show K (fr (upd V 5 (.pointer (some ⟨W.heap.size, 0, none⟩)))) (W.alloc (.cells ((wc 0)) 31)) from hK _ _ ⟨upd V 5 (.pointer (some ⟨W.heap.size, 0, none⟩)), rfl, HV.up 5 _ (fun x hx => absurd hx (by intro h; cases h)), (by unfold More; rw [if_neg (by decide), if_neg (by decide)]; exact l1), (fun _ => by unfold More; exact if_pos rfl), by simpa [More, upd, (hC.no hL 7 _ rfl rfl)] using (PrIL.alloc (WdPL.pk wb.heap.size _) (WdPL.pk wb.heap.size _) (Nat.le_refl _) s0'.swap).swap⟩)
          clear hK hC hW hL HV l1 l2 s0 s0'
          rw [HFR.out]
          go_wp2_with fail
          show K _ _
          have := H.out
          rw [HFR.out] at this
          exact this
        · rintro L A W K hL hC hW ⟨V, rfl, HV, l1, l2, s0⟩ hK
          have s0' : PrIL 31 ((wc 0)) wb.heap.size (WdPL t1) (WdPL t2) wb (L 1) (L 3) (L 4) (L 5) (L 6) (L 7) (V 1) (V 3) (V 4) (V 5) W := s0
          rw [hW 1 rfl, hW 4 rfl, hL] at s0'
          obtain ⟨g, eg, hlo, hcg⟩ := s0'.2.2.2.1 rfl rfl
          obtain ⟨cs, ev, hcn, hone⟩ := PkL.agg (WdPL.pk wb.heap.size _) (s0'.2.1 rfl)
          rw [eg, ev] at s0'
          have HN := Lib.hid (fun (W' : World) (hc : Cs W' g 31 cs) (hg : W.grownBy W' (some g)) => (PrIL.store (WdPL.pk wb.heap.size _) (WdPL.pk wb.heap.size _) (Nat.le_refl _) s0' l2 hc hg))
          have H := Lib.hid (show ∀ W', Cs W' g 31 cs → W.grownBy W' (some g) → K (fr V) W' from fun W' hc hg => hK _ _ ⟨V, rfl, HV.st 6 rfl, (fun _ => by unfold More; rw [if_neg (by decide)]; exact hW 4 rfl), (by unfold More; rw [if_neg (by decide), if_neg (by decide)]; exact l2), by rw [eg, ev]; simpa [More, hW 1 rfl, hW 4 rfl] using HN.out W' hc hg⟩)
          have HCG := Lib.hid hcg
          have HU := Lib.hid (show V 4 = .pointer (some ⟨g, 0, none⟩) ∧ V 1 = .agg cs from ⟨eg, ev⟩)
          clear hK hC hW hL HV l1 l2 s0 s0' HN hlo hcg
          rw [HFR.out]
          rw [eg, ev]
          clear eg ev
          refine wpList_store_agg rfl rfl 31 (.tmp 12) (.tmp 71) rfl winfo g ((wc 0)) cs hone rfl rfl HCG.out (by first | rfl | simp [wc]) hcn ?_
          intro W' hc hg
          show K _ _
          have := H.out _ hc hg
          rw [HFR.out] at this
          rw [HU.out.1, HU.out.2] at this
          exact this
        · rintro L A W K hL hC hW ⟨V, rfl, HV, l1, l2, s0⟩ hK
          have s0' : PrIL 31 ((wc 0)) wb.heap.size (WdPL t1) (WdPL t2) wb (L 1) (L 3) (L 4) (L 5) (L 6) (L 7) (V 1) (V 3) (V 4) (V 5) W := s0
          rw [hW 3 rfl, hW 5 rfl, hL] at s0'
          obtain ⟨g, eg, hlo, hcg⟩ := s0'.2.2.2.2.1 rfl rfl
          obtain ⟨cs, ev, hcn, hone⟩ := PkL.agg (WdPL.pk wb.heap.size _) (s0'.2.2.1 rfl)
          rw [eg, ev] at s0'
          have HN := Lib.hid (fun (W' : World) (hc : Cs W' g 31 cs) (hg : W.grownBy W' (some g)) => (PrIL.store (WdPL.pk wb.heap.size _) (WdPL.pk wb.heap.size _) (Nat.le_refl _) s0'.swap l1 hc hg).swap)
          have H := Lib.hid (show ∀ W', Cs W' g 31 cs → W.grownBy W' (some g) → K (fr V) W' from fun W' hc hg => hK _ _ ⟨V, rfl, HV.st 7 rfl, (by unfold More; rw [if_neg (by decide), if_neg (by decide)]; exact l1), (fun _ => by unfold More; rw [if_neg (by decide)]; exact hW 5 rfl), by rw [eg, ev]; simpa [More, hW 3 rfl, hW 5 rfl] using HN.out W' hc hg⟩)
          have HCG := Lib.hid hcg
          have HU := Lib.hid (show V 5 = .pointer (some ⟨g, 0, none⟩) ∧ V 3 = .agg cs from ⟨eg, ev⟩)
          clear hK hC hW hL HV l1 l2 s0 s0' HN hlo hcg
          rw [HFR.out]
          rw [eg, ev]
          clear eg ev
          refine wpList_store_agg rfl rfl 31 (.tmp 13) (.tmp 73) rfl winfo g ((wc 0)) cs hone rfl rfl HCG.out (by first | rfl | simp [wc]) hcn ?_
          intro W' hc hg
          show K _ _
          have := H.out _ hc hg
          rw [HFR.out] at this
          rw [HU.out.1, HU.out.2] at this
          exact this
        · rintro L A W hL ⟨V, rfl, HV, l1, l2, s0⟩
          rw [show L 1 = true from hL 1 (by simp), show L 3 = true from hL 3 (by simp), show L 4 = true from hL 4 (by simp), show L 5 = true from hL 5 (by simp), show L 6 = true from hL 6 (by simp), show L 7 = true from hL 7 (by simp)] at s0
          obtain ⟨z0, z1, z2, z3, z4, z5, z6, z7⟩ := s0
          clear l1 l2
          obtain ea := z1 rfl
          obtain ⟨cx, ex, g1x, eg1, hb1, hc1⟩ := z5 rfl
          obtain rfl : cx = wc t1 := by have ey := ex.symm.trans ea; injection ey
          clear ex
          obtain eb := z2 rfl
          obtain ⟨cx, ex, g2x, eg2, hb2, hc2⟩ := z6 rfl
          obtain rfl : cx = wc t2 := by have ey := ex.symm.trans eb; injection ey
          clear ex
          have hne12 : g1x ≠ g2x := fun e => z7 rfl rfl (by rw [eg1, eg2, e])
          rw [HFR.out]
          rw [eg1, eg2]
          clear hL HV HFR z1 z2 z5 z6 z7 eg1 eg2
          replace HE := Lib.hid (HE.out.trans z0)
          replace HgL := Lib.hid (Cs.ext HgL.out z0)
          replace Hgg9 := Lib.hid (Cs.ext Hgg9.out z0)
          replace Hwg9 := Lib.hid (Cs.ext Hwg9.out z0)
          replace Hg8 := Lib.hid (Hg8.out.ext z0)
          replace HS := Lib.hid (HS.out.ext z0)
          replace HSn := Lib.hid (HSn.out.ext z0)
          have Hg12 : Hid (Cs W g1x 31 (wc t1)) := Lib.hid hc1
          have Hg13 : Hid (Cs W g2x 31 (wc t2)) := Lib.hid hc2
          have HXG := Lib.hid (And.intro hb1 (And.intro hb2 hne12))
          clear z0 hc1 hc2 hb1 hb2 hne12 ea eb z3 z4
          have HBS := Lib.hid (show w.heap.size ≤ wb.heap.size ∧ gL < wb.heap.size from HWB.out)
          have HC12 := Lib.hid (And.intro (Cs.lt Hg12.out) (Cs.lt Hg13.out))
          have qk : W.cell? ⟨g8, 0, none⟩ = some (.int .i64 d.kind) := Cs.cell Hg8.out 0 _ rfl
          have HKC := Lib.hid (kdD_cases d)
          have hkk : (IntKind.u64.wrap d.kind).tmod 5 = kdD d := rfl
          go_upto_region 16 with fail
          clear hkk qk
          rcases HKC.out with hk | hk | hk | hk | hk
          · rw [hk]
            have HWD := Lib.hid (HOW.out.2.2.2.2.1)
            have HWN := Lib.hid (dd_word Hg8.out)
            have R1 := Lib.hid (Cs.rg Hg12.out)
            have ht1 := HT.out.1
            have HT1 := Lib.hid ht1
            clear ht1
            have HEQ := Lib.hid (show (t1 + d.n) % M256 = t2 by
              have h1 := HT.out.2.2
              rw [if_neg (by rw [hk]; decide), if_pos (by rw [hk]; decide), HWD.out.wd (by rw [hk]; decide)] at h1
              rw [← show t2 = t1 + d.n by omega]
              exact Nat.mod_eq_of_lt HT.out.2.1)
            clear hk
            go_wp2_with (first
              | ((with_reducible refine wpList_load_wordIn ?_ (.tmp 12) ?_ g1x 0 (t1) ?_ ?_ ?_); (exact rfl); (exact rfl); (exact rfl); (exact R1.out))
              | ((with_reducible refine wpList_load_wordIn ?_ (.tmp 83) ?_ g8 2 (d.n) ?_ ?_ ?_); (exact rfl); (exact rfl); (exact rfl); (exact HWN.out)))
            refine (add_any t1 d.n _ HT1.out HD.out.2.2.1).mono ?_
            rintro e w9 ⟨rfl, he⟩
            have HX9 := Lib.hid he
            have K12 := Lib.hid (Cs.ext Hg12.out he)
            clear he
            rw [HEQ.out]
            go_upto_region 23 with ((with_reducible refine wpList_store_word rfl rfl 31 (.tmp 12) (.tmp 86) rfl winfo g1x (wc t1) t2 ?_ ?_ ?_ ?_ ?_); (exact rfl); (exact rfl); (exact K12.out); (exact rfl); intro wp kp gp; have KP := Lib.hid kp; have GP := Lib.hid gp; clear kp gp)
            have KN := Lib.hid (Cs.kept (Cs.ext Hgg9.out HX9.out) GP.out (some_ne (fun e => by have h1 := HXG.out.1; have h2 := HL9.out; omega)))
            have KL := Lib.hid (Cs.kept (Cs.ext HgL.out HX9.out) GP.out (some_ne (fun e => by have h1 := HXG.out.1; have h2 := HBS.out.2; omega)))
            have KS := Lib.hid ((HSn.out.ext HX9.out).set (fun hp b o sp nn cc e => by have h1 := HXG.out.1; have h2 := HSB.out hp b o sp nn cc e; omega) GP.out)
            have KE := Lib.hid ((HE.out.trans HX9.out).grown GP.out (Nat.le_trans HBS.out.1 HXG.out.1))
            have K13 := Lib.hid (Cs.kept (Cs.ext Hg13.out HX9.out) GP.out (some_ne (fun e => HXG.out.2.2 e.symm)))
            have R1 := Lib.hid (Cs.rg KP.out)
            have R2 := Lib.hid (Cs.rg K13.out)
            have ht2 := HT.out.2.1
            have HT2 := Lib.hid ht2
            clear ht2
            have qn := KN.out.cell 0 _ rfl
            have qL := KL.out.cell 0 _ rfl
            go_wp2_with (first
              | ((with_reducible refine wpList_load_wordIn ?_ (.tmp 12) ?_ g1x 0 (t2) ?_ ?_ ?_); (exact rfl); (exact rfl); (exact rfl); (exact R1.out))
              | ((with_reducible refine wpList_load_wordIn ?_ (.tmp 13) ?_ g2x 0 (t2) ?_ ?_ ?_); (exact rfl); (exact rfl); (exact rfl); (exact R2.out))
              | ((with_reducible refine wpList_neq_wsameS ?_ (.tmp 105) (.tmp 106) ?_ t2 HT2.out ?_ ?_ ?_); (exact rfl); (exact rfl); (exact rfl); (exact rfl))
              | ((with_reducible refine wpList_store_agg ?_ ?_ 59 (.tmp 3) (.tmp 108) ?_ ldinfo gL #[vc] #[vn] ?_ ?_ ?_ ?_ ?_ ?_ ?_); (exact rfl); (exact rfl); (exact rfl); (exact one_val HV1.out); (exact rfl); (exact rfl); (exact KL.out); (exact rfl); (exact rfl); intro wq kq gq; have KQ := Lib.hid kq; have GQ := Lib.hid gq; clear kq gq))
            exact ⟨⟨k + 1, by omega, by go_num, vn, n, Lib.hid ⟨KQ.out, KS.out.set HNn.out GQ.out, HNn.out, HOW.out.2.1, HOW.out.2.2.1, KE.out.grown GQ.out HGL.out⟩⟩, by simp [intOf]; omega⟩
          · rw [hk]
            have HWD := Lib.hid (HOW.out.2.2.2.2.1)
            have HWN := Lib.hid (dd_word Hg8.out)
            have R1 := Lib.hid (Cs.rg Hg12.out)
            have ht1 := HT.out.1
            have HT1 := Lib.hid ht1
            clear ht1
            have HEQ := Lib.hid (show (t1 + M256 - d.n) % M256 = t2 by
              have h1 := HT.out.2.2
              rw [if_pos hk, if_neg (by rw [hk]; decide), HWD.out.wd (by rw [hk]; decide)] at h1
              rw [show t1 + M256 - d.n = t2 + M256 by omega, Nat.add_mod_right]
              exact Nat.mod_eq_of_lt HT.out.2.1)
            clear hk
            go_wp2_with (first
              | ((with_reducible refine wpList_load_wordIn ?_ (.tmp 12) ?_ g1x 0 (t1) ?_ ?_ ?_); (exact rfl); (exact rfl); (exact rfl); (exact R1.out))
              | ((with_reducible refine wpList_load_wordIn ?_ (.tmp 92) ?_ g8 2 (d.n) ?_ ?_ ?_); (exact rfl); (exact rfl); (exact rfl); (exact HWN.out)))
            refine (sub_any t1 d.n _ HT1.out HD.out.2.2.1).mono ?_
            rintro e w9 ⟨rfl, he⟩
            have HX9 := Lib.hid he
            have K12 := Lib.hid (Cs.ext Hg12.out he)
            clear he
            rw [HEQ.out]
            go_upto_region 23 with ((with_reducible refine wpList_store_word rfl rfl 31 (.tmp 12) (.tmp 95) rfl winfo g1x (wc t1) t2 ?_ ?_ ?_ ?_ ?_); (exact rfl); (exact rfl); (exact K12.out); (exact rfl); intro wp kp gp; have KP := Lib.hid kp; have GP := Lib.hid gp; clear kp gp)
            have KN := Lib.hid (Cs.kept (Cs.ext Hgg9.out HX9.out) GP.out (some_ne (fun e => by have h1 := HXG.out.1; have h2 := HL9.out; omega)))
            have KL := Lib.hid (Cs.kept (Cs.ext HgL.out HX9.out) GP.out (some_ne (fun e => by have h1 := HXG.out.1; have h2 := HBS.out.2; omega)))
            have KS := Lib.hid ((HSn.out.ext HX9.out).set (fun hp b o sp nn cc e => by have h1 := HXG.out.1; have h2 := HSB.out hp b o sp nn cc e; omega) GP.out)
            have KE := Lib.hid ((HE.out.trans HX9.out).grown GP.out (Nat.le_trans HBS.out.1 HXG.out.1))
            have K13 := Lib.hid (Cs.kept (Cs.ext Hg13.out HX9.out) GP.out (some_ne (fun e => HXG.out.2.2 e.symm)))
            have R1 := Lib.hid (Cs.rg KP.out)
            have R2 := Lib.hid (Cs.rg K13.out)
            have ht2 := HT.out.2.1
            have HT2 := Lib.hid ht2
            clear ht2
            have qn := KN.out.cell 0 _ rfl
            have qL := KL.out.cell 0 _ rfl
            go_wp2_with (first
              | ((with_reducible refine wpList_load_wordIn ?_ (.tmp 12) ?_ g1x 0 (t2) ?_ ?_ ?_); (exact rfl); (exact rfl); (exact rfl); (exact R1.out))
              | ((with_reducible refine wpList_load_wordIn ?_ (.tmp 13) ?_ g2x 0 (t2) ?_ ?_ ?_); (exact rfl); (exact rfl); (exact rfl); (exact R2.out))
              | ((with_reducible refine wpList_neq_wsameS ?_ (.tmp 105) (.tmp 106) ?_ t2 HT2.out ?_ ?_ ?_); (exact rfl); (exact rfl); (exact rfl); (exact rfl))
              | ((with_reducible refine wpList_store_agg ?_ ?_ 59 (.tmp 3) (.tmp 108) ?_ ldinfo gL #[vc] #[vn] ?_ ?_ ?_ ?_ ?_ ?_ ?_); (exact rfl); (exact rfl); (exact rfl); (exact one_val HV1.out); (exact rfl); (exact rfl); (exact KL.out); (exact rfl); (exact rfl); intro wq kq gq; have KQ := Lib.hid kq; have GQ := Lib.hid gq; clear kq gq))
            exact ⟨⟨k + 1, by omega, by go_num, vn, n, Lib.hid ⟨KQ.out, KS.out.set HNn.out GQ.out, HNn.out, HOW.out.2.1, HOW.out.2.2.1, KE.out.grown GQ.out HGL.out⟩⟩, by simp [intOf]; omega⟩
          · rw [hk]
            have HWD := Lib.hid (HOW.out.2.2.2.2.1)
            have HWN := Lib.hid (dd_word Hg8.out)
            have R1 := Lib.hid (Cs.rg Hg12.out)
            have ht1 := HT.out.1
            have HT1 := Lib.hid ht1
            clear ht1
            have HEQ := Lib.hid (show (t1 + d.n) % M256 = t2 by
              have h1 := HT.out.2.2
              rw [if_neg (by rw [hk]; decide), if_pos (by rw [hk]; decide), HWD.out.wd (by rw [hk]; decide)] at h1
              rw [← show t2 = t1 + d.n by omega]
              exact Nat.mod_eq_of_lt HT.out.2.1)
            clear hk
            go_wp2_with (first
              | ((with_reducible refine wpList_load_wordIn ?_ (.tmp 12) ?_ g1x 0 (t1) ?_ ?_ ?_); (exact rfl); (exact rfl); (exact rfl); (exact R1.out))
              | ((with_reducible refine wpList_load_wordIn ?_ (.tmp 83) ?_ g8 2 (d.n) ?_ ?_ ?_); (exact rfl); (exact rfl); (exact rfl); (exact HWN.out)))
            refine (add_any t1 d.n _ HT1.out HD.out.2.2.1).mono ?_
            rintro e w9 ⟨rfl, he⟩
            have HX9 := Lib.hid he
            have K12 := Lib.hid (Cs.ext Hg12.out he)
            clear he
            rw [HEQ.out]
            go_upto_region 23 with ((with_reducible refine wpList_store_word rfl rfl 31 (.tmp 12) (.tmp 86) rfl winfo g1x (wc t1) t2 ?_ ?_ ?_ ?_ ?_); (exact rfl); (exact rfl); (exact K12.out); (exact rfl); intro wp kp gp; have KP := Lib.hid kp; have GP := Lib.hid gp; clear kp gp)
            have KN := Lib.hid (Cs.kept (Cs.ext Hgg9.out HX9.out) GP.out (some_ne (fun e => by have h1 := HXG.out.1; have h2 := HL9.out; omega)))
            have KL := Lib.hid (Cs.kept (Cs.ext HgL.out HX9.out) GP.out (some_ne (fun e => by have h1 := HXG.out.1; have h2 := HBS.out.2; omega)))
            have KS := Lib.hid ((HSn.out.ext HX9.out).set (fun hp b o sp nn cc e => by have h1 := HXG.out.1; have h2 := HSB.out hp b o sp nn cc e; omega) GP.out)
            have KE := Lib.hid ((HE.out.trans HX9.out).grown GP.out (Nat.le_trans HBS.out.1 HXG.out.1))
            have K13 := Lib.hid (Cs.kept (Cs.ext Hg13.out HX9.out) GP.out (some_ne (fun e => HXG.out.2.2 e.symm)))
            have R1 := Lib.hid (Cs.rg KP.out)
            have R2 := Lib.hid (Cs.rg K13.out)
            have ht2 := HT.out.2.1
            have HT2 := Lib.hid ht2
            clear ht2
            have qn := KN.out.cell 0 _ rfl
            have qL := KL.out.cell 0 _ rfl
            go_wp2_with (first
              | ((with_reducible refine wpList_load_wordIn ?_ (.tmp 12) ?_ g1x 0 (t2) ?_ ?_ ?_); (exact rfl); (exact rfl); (exact rfl); (exact R1.out))
              | ((with_reducible refine wpList_load_wordIn ?_ (.tmp 13) ?_ g2x 0 (t2) ?_ ?_ ?_); (exact rfl); (exact rfl); (exact rfl); (exact R2.out))
              | ((with_reducible refine wpList_neq_wsameS ?_ (.tmp 105) (.tmp 106) ?_ t2 HT2.out ?_ ?_ ?_); (exact rfl); (exact rfl); (exact rfl); (exact rfl))
              | ((with_reducible refine wpList_store_agg ?_ ?_ 59 (.tmp 3) (.tmp 108) ?_ ldinfo gL #[vc] #[vn] ?_ ?_ ?_ ?_ ?_ ?_ ?_); (exact rfl); (exact rfl); (exact rfl); (exact one_val HV1.out); (exact rfl); (exact rfl); (exact KL.out); (exact rfl); (exact rfl); intro wq kq gq; have KQ := Lib.hid kq; have GQ := Lib.hid gq; clear kq gq))
            exact ⟨⟨k + 1, by omega, by go_num, vn, n, Lib.hid ⟨KQ.out, KS.out.set HNn.out GQ.out, HNn.out, HOW.out.2.1, HOW.out.2.2.1, KE.out.grown GQ.out HGL.out⟩⟩, by simp [intOf]; omega⟩
          · rw [hk]
            have HWD := Lib.hid (HOW.out.2.2.2.2.1)
            have HEQ := Lib.hid (show t1 = t2 by
              have h1 := HT.out.2.2
              rw [if_neg (by rw [hk]; decide), if_neg (by rw [hk]; decide), HWD.out.wd (by rw [hk]; decide)] at h1
              omega)
            clear hk
            rw [HEQ.out] at Hg12
            go_upto_region 23 with fail
            have KN := Lib.hid (Cs.ext Hgg9.out (Ext.refl W))
            have KL := Lib.hid (Cs.ext HgL.out (Ext.refl W))
            have KS := Lib.hid (HSn.out.ext (Ext.refl W))
            have KE := Lib.hid (HE.out.trans (Ext.refl W))
            have K13 := Lib.hid (Cs.ext Hg13.out (Ext.refl W))
            have R1 := Lib.hid (Cs.rg Hg12.out)
            have R2 := Lib.hid (Cs.rg K13.out)
            have ht2 := HT.out.2.1
            have HT2 := Lib.hid ht2
            clear ht2
            have qn := KN.out.cell 0 _ rfl
            have qL := KL.out.cell 0 _ rfl
            go_wp2_with (first
              | ((with_reducible refine wpList_load_wordIn ?_ (.tmp 12) ?_ g1x 0 (t2) ?_ ?_ ?_); (exact rfl); (exact rfl); (exact rfl); (exact R1.out))
              | ((with_reducible refine wpList_load_wordIn ?_ (.tmp 13) ?_ g2x 0 (t2) ?_ ?_ ?_); (exact rfl); (exact rfl); (exact rfl); (exact R2.out))
              | ((with_reducible refine wpList_neq_wsameS ?_ (.tmp 105) (.tmp 106) ?_ t2 HT2.out ?_ ?_ ?_); (exact rfl); (exact rfl); (exact rfl); (exact rfl))
              | ((with_reducible refine wpList_store_agg ?_ ?_ 59 (.tmp 3) (.tmp 108) ?_ ldinfo gL #[vc] #[vn] ?_ ?_ ?_ ?_ ?_ ?_ ?_); (exact rfl); (exact rfl); (exact rfl); (exact one_val HV1.out); (exact rfl); (exact rfl); (exact KL.out); (exact rfl); (exact rfl); intro wq kq gq; have KQ := Lib.hid kq; have GQ := Lib.hid gq; clear kq gq))
            exact ⟨⟨k + 1, by omega, by go_num, vn, n, Lib.hid ⟨KQ.out, KS.out.set HNn.out GQ.out, HNn.out, HOW.out.2.1, HOW.out.2.2.1, KE.out.grown GQ.out HGL.out⟩⟩, by simp [intOf]; omega⟩
          · rw [hk]
            have HWD := Lib.hid (HOW.out.2.2.2.2.1)
            have RW := Lib.hid (Cs.rg Hwg9.out)
            have hwd := HOW.out.2.2.2.2.2.1
            have HWM := Lib.hid hwd
            clear hwd
            have R1 := Lib.hid (Cs.rg Hg12.out)
            have ht1 := HT.out.1
            have HT1 := Lib.hid ht1
            clear ht1
            have HEQ := Lib.hid (show (t1 + M256 - wd) % M256 = t2 by
              have h1 := HT.out.2.2
              rw [if_neg (by rw [hk]; decide), if_neg (by rw [hk]; decide)] at h1
              rw [show t1 + M256 - wd = t2 + M256 by omega, Nat.add_mod_right]
              exact Nat.mod_eq_of_lt HT.out.2.1)
            clear hk
            go_wp2_with (first
              | ((with_reducible refine wpList_load_wordIn ?_ (.tmp 12) ?_ g1x 0 (t1) ?_ ?_ ?_); (exact rfl); (exact rfl); (exact rfl); (exact R1.out))
              | ((with_reducible refine wpList_load_wordIn ?_ (.tmp 10) ?_ g9w 0 (wd) ?_ ?_ ?_); (exact rfl); (exact rfl); (exact rfl); (exact RW.out)))
            refine (sub_any t1 wd _ HT1.out HWM.out).mono ?_
            rintro e w9 ⟨rfl, he⟩
            have HX9 := Lib.hid he
            have K12 := Lib.hid (Cs.ext Hg12.out he)
            clear he
            rw [HEQ.out]
            go_upto_region 23 with ((with_reducible refine wpList_store_word rfl rfl 31 (.tmp 12) (.tmp 103) rfl winfo g1x (wc t1) t2 ?_ ?_ ?_ ?_ ?_); (exact rfl); (exact rfl); (exact K12.out); (exact rfl); intro wp kp gp; have KP := Lib.hid kp; have GP := Lib.hid gp; clear kp gp)
            have KN := Lib.hid (Cs.kept (Cs.ext Hgg9.out HX9.out) GP.out (some_ne (fun e => by have h1 := HXG.out.1; have h2 := HL9.out; omega)))
            have KL := Lib.hid (Cs.kept (Cs.ext HgL.out HX9.out) GP.out (some_ne (fun e => by have h1 := HXG.out.1; have h2 := HBS.out.2; omega)))
            have KS := Lib.hid ((HSn.out.ext HX9.out).set (fun hp b o sp nn cc e => by have h1 := HXG.out.1; have h2 := HSB.out hp b o sp nn cc e; omega) GP.out)
            have KE := Lib.hid ((HE.out.trans HX9.out).grown GP.out (Nat.le_trans HBS.out.1 HXG.out.1))
            have K13 := Lib.hid (Cs.kept (Cs.ext Hg13.out HX9.out) GP.out (some_ne (fun e => HXG.out.2.2 e.symm)))
            have R1 := Lib.hid (Cs.rg KP.out)
            have R2 := Lib.hid (Cs.rg K13.out)
            have ht2 := HT.out.2.1
            have HT2 := Lib.hid ht2
            clear ht2
            have qn := KN.out.cell 0 _ rfl
            have qL := KL.out.cell 0 _ rfl
            go_wp2_with (first
              | ((with_reducible refine wpList_load_wordIn ?_ (.tmp 12) ?_ g1x 0 (t2) ?_ ?_ ?_); (exact rfl); (exact rfl); (exact rfl); (exact R1.out))
              | ((with_reducible refine wpList_load_wordIn ?_ (.tmp 13) ?_ g2x 0 (t2) ?_ ?_ ?_); (exact rfl); (exact rfl); (exact rfl); (exact R2.out))
              | ((with_reducible refine wpList_neq_wsameS ?_ (.tmp 105) (.tmp 106) ?_ t2 HT2.out ?_ ?_ ?_); (exact rfl); (exact rfl); (exact rfl); (exact rfl))
              | ((with_reducible refine wpList_store_agg ?_ ?_ 59 (.tmp 3) (.tmp 108) ?_ ldinfo gL #[vc] #[vn] ?_ ?_ ?_ ?_ ?_ ?_ ?_); (exact rfl); (exact rfl); (exact rfl); (exact one_val HV1.out); (exact rfl); (exact rfl); (exact KL.out); (exact rfl); (exact rfl); intro wq kq gq; have KQ := Lib.hid kq; have GQ := Lib.hid gq; clear kq gq))
            exact ⟨⟨k + 1, by omega, by go_num, vn, n, Lib.hid ⟨KQ.out, KS.out.set HNn.out GQ.out, HNn.out, HOW.out.2.1, HOW.out.2.2.1, KE.out.grown GQ.out HGL.out⟩⟩, by simp [intOf]; omega⟩
set_option maxRecDepth 100000 in
theorem ledgerSums_told (W : World) (args : Array Value) (h : Told Try.f6 W args) : Calls Try.prog 6 args W (RetT W) := by
  obtain ⟨H, enc, base, ds, p, hval, hA⟩ := h
  rw [Try.params6] at hA hval
  obtain ⟨v0, v1, v2, d0, d1, d2, p0, p1, p2, rfl, rfl, rfl, h0, h1, h2⟩ := trodAll_three hA
  obtain ⟨s0, x0, rfl, hx0⟩ := ledger_came (hval 0 _ v0 rfl rfl) h0
  obtain ⟨A, n, c, rfl⟩ := okWide_slice Try.underlying60 (hval 1 _ v1 rfl rfl)
  obtain ⟨l, hl⟩ := deeds_came h1 rfl
  obtain ⟨o, rfl, ho⟩ := u64_came Try.underlying29 (hval 2 _ v2 rfl rfl) h2
  exact ledgerSums_any s0 _ x0 l o W hx0 hl ho

set_option maxRecDepth 100000 in
theorem ledgerSums_spec (H : Type) : ∀ ds : List (DataW H), ds.length = Try.f6.params.toList.length → Rows.ledgerSumsSpec.fn H ds = { results := [.lit (.bool true)], args := ds }
  | [_, _, _], _ => rfl
  | [], h | [_], h | [_, _], h | _ :: _ :: _ :: _ :: _, h => by rw [Try.params6] at h; simp at h

set_option maxRecDepth 100000 in
theorem ledgerSums_holds : Rows.LedgerSumsSaid :=
  OpenClaim.holds_of_wide 6 Try.f6 rfl rfl rfl rfl rfl rfl rfl ⟨rfl, rfl, rfl, rfl, rfl⟩ rfl rfl rfl rfl rfl (by kernel_rfl) Try.func6 (by kernel_rfl)
    (of_decide_eq_true (by kernel_rfl)) (by unfold Func.isWrapper; first | (rw [if_pos (by decide +kernel)]; kernel_rfl) | (rw [if_neg (by decide +kernel)]; exact ⟨rfl, rfl⟩))
    (fun os started H enc _ => law_lifted started (by kernel_rfl) Try.func6 rfl rfl (ledgerSums_spec H) (of_decide_eq_true (by kernel_rfl))
      (ChangeSpec.witness6 (enc := enc) (C := Try.checked) false ⟨#[], #[.agg #[.slice none 0 0], .slice none 0 0, .int .u64 0], []⟩ 8 (by kernel_rfl) (by kernel_rfl) (by kernel_rfl) (by kernel_rfl)) ledgerSums_told)
end Go.Proofs.Yteidmoilldheeaa
