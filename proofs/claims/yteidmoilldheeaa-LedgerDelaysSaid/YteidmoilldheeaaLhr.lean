/- LedgerDelays: a stake that was locked is out at the earliest its Delay behind an Unlock, of which it was not locked again since. -/
import Derived.Test.YteidmoilldheeaaLma
namespace Go.Proofs.Yteidmoilldheeaa
open Go.ChangeShapes Go.WideShapes Go.ChangeAt Go.RowKit Go.Shelf

set_option maxRecDepth 100000 in
theorem two_newD {x : Value} {p : Addr} (h : x = .pointer (some p)) : x = .pointer (some p) := h
set_option maxRecDepth 100000 in
theorem ledgerRow_fre {r : Hd} {t l : Nat} {d : Dd} {h : Hd} {w : Nat} (c : Cn r t l d h w) :
    (kdD d = 0 → h.fre = r.fre) ∧ (kdD d = 1 → h.fre = r.fre) ∧ (kdD d = 2 → h.fre = 0 ∧ h.stk ≠ 0 ∧ r.dly ≤ h.dly) ∧ (kdD d = 3 → h.fre = d.now + r.dly ∧ r.stk ≠ 0 ∧ r.fre = 0 ∧ d.now ≤ 1099511627776) ∧ (kdD d = 4 → h.fre = 0 ∧ r.fre ≠ 0 ∧ r.fre ≤ d.now) := by
  unfold Cn at c
  rcases c with ⟨k, _, rfl, _⟩ | ⟨k, _, rfl, _⟩ | ⟨k, c1, c2, _, rfl, _⟩ | ⟨k, c1, c2, rfl, _⟩ | ⟨k, c1, c2, c3, c4, rfl, _⟩ <;> rw [k] <;>
  refine ⟨fun h => ?_, fun h => ?_, fun h => ?_, fun h => ?_, fun h => ?_⟩ <;> first | (exact absurd h (by decide)) | (dsimp only; omega) | exact ⟨rfl, by omega, c1.2.2⟩ | exact ⟨rfl, c2.1, c2.2, c1⟩ | exact ⟨rfl, c3, c4⟩ | rfl
set_option maxRecDepth 100000 in
theorem stk_all {l : List Hd} {a : Nat} (hr : rightG l = true) (ha : a ≠ 0) (h1 : (rowG l a).stk ≠ 0) (h2 : (rowG l a).fre = 0) : stdG l a (rowG l a).stk (rowG l a).dly = true := by
  unfold stdG
  rw [fd_row hr ha, (lckB_iff _).2 ⟨h1, h2⟩, decide_eq_true (Nat.le_refl _), decide_eq_true (Nat.le_refl _)]
  rfl
/-- What a round finds: the ledger that is gone on from, and what the map holds. -/
def DlR (w : World) (gL gm : Nat) (v : Value) (l : List Hd) (k : Nat) (W : World) : Prop := ∃ L : List (Nat × Nat), L.length ≤ 24 + k ∧ FmM W gm L ∧ (∀ a, ffV L a = (rowG l a).fre) ∧ Cs W gL 59 #[v] ∧ Hds W v l ∧ NB gL v l ∧ Rg l ∧ (∀ p ∈ l, p.ok) ∧ Ext w W
set_option maxRecDepth 100000 in
set_option maxHeartbeats 16000000 in
theorem ledgerDelays_any (v u : Value) (l : List Hd) (ds : List Dd) (w : World) (hs : Hds w v l) (hd : Dds w u ds) : Calls Try.prog 7 #[.agg #[v], u] w (RetT w) := by
  have HK := Lib.hid hs.oks
  have HNB := Lib.hid (NB.old hs (Nat.le_refl _))
  have HDS := Lib.hid hd
  obtain ⟨A2, c2, rfl, k1, k2⟩ := hd.len
  obtain ⟨A1, c1, rfl, k3, k4⟩ := hs.len
  unfold maxLen at k2 k4
  have HE := Lib.hid ((Ext.refl w).alloc (.cells #[.slice A1 l.length c1] 59))
  have HgL := Lib.hid (Cs.new w #[.slice A1 l.length c1] 59 _ rfl)
  have HS := Lib.hid (hs.ext HE.out)
  clear hs hd
  go_enter Try.func7, Try.ntmps7
  go_upto_region 1 with fail
  generalize hwa : w.alloc (.cells #[.slice A1 l.length c1] 59) = w0 at *
  clear hwa
  obtain ⟨gL, hgL⟩ : ∃ g, w.heap.size = g := ⟨_, rfl⟩
  have HGL := Lib.hid (show w.heap.size ≤ gL by omega)
  rw [hgL] at HgL HNB ⊢
  clear hgL
  go_wp2_with fail
  refine (wakesL_any _).mono ?_
  rintro e w1 ⟨rfl, he⟩
  replace HE := Lib.hid (HE.out.trans he)
  replace HgL := Lib.hid (Cs.ext HgL.out he)
  replace HS := Lib.hid (HS.out.ext he)
  clear he
  have qL := HgL.out.cell 0 _ rfl
  go_wp2_with fail
  refine (overL_any _ l _ HS.out).mono ?_
  rintro e w2 ⟨rfl, he⟩
  replace HE := Lib.hid (HE.out.trans he)
  replace HgL := Lib.hid (Cs.ext HgL.out he)
  replace HS := Lib.hid (HS.out.ext he)
  clear he qL
  by_cases ho : 40 < l.length
  · rw [decide_eq_true ho]
    clear ho
    go_wp2_with fail
    go_ret
    exact ⟨rfl, HE.out⟩
  rw [decide_eq_false ho]
  clear ho
  by_cases ho : 60 < ds.length
  · have e1 : decide ((60 : Int) < (ds.length : Int)) = true := decide_eq_true (by omega)
    have e2 : decide (60 < ds.length) = true := decide_eq_true ho
    clear ho
    go_wp2_with fail
    go_ret
    exact ⟨rfl, HE.out⟩
  have e1 : decide ((60 : Int) < (ds.length : Int)) = false := decide_eq_false (by omega)
  have e2 : decide (60 < ds.length) = false := decide_eq_false ho
  have hdl : (ds.length : Int) ≤ 60 := by omega
  clear ho
  have qL := HgL.out.cell 0 _ rfl
  go_wp2_with fail
  refine (ledCheck_any _ l _ HS.out).mono ?_
  rintro e w3 ⟨rfl, he⟩
  replace HE := Lib.hid (HE.out.trans he)
  replace HgL := Lib.hid (Cs.ext HgL.out he)
  replace HS := Lib.hid (HS.out.ext he)
  clear he qL e1 e2
  rw [show chkG l = if rightG l then 0 else 170 from rfl]
  cases hr : rightG l with
  | false =>
    clear hr
    go_wp2_with fail
    go_ret
    exact ⟨rfl, HE.out⟩
  | true =>
    have HRG := Lib.hid ((rg_iff HK.out).1 hr)
    clear hr
    have hl24 : (l.length : Int) ≤ 24 := by have := HRG.out.few; omega
    have hmm := @run_makeMap Try.prog
    go_upto_region 6 with fail
    obtain ⟨w4, hw4⟩ : ∃ w4, w3.alloc (.map #[] 0) = w4 := ⟨_, rfl⟩
    have HM : Hid (FmM w4 w3.heap.size []) := Lib.hid (by rw [← hw4]; exact World.ownsMap_made _ _ _ _)
    have HX4 : Hid (Ext w3 w4) := Lib.hid (by rw [← hw4]; exact (Ext.refl _).alloc _)
    rw [hw4]
    replace HE := Lib.hid (HE.out.trans HX4.out)
    replace HgL := Lib.hid (Cs.ext HgL.out HX4.out)
    replace HS := Lib.hid (HS.out.ext HX4.out)
    have HGM := Lib.hid (show w.heap.size ≤ w3.heap.size from Nat.le_trans HGL.out (Nat.le_of_lt (show gL < w3.heap.size by
      have h1 := Cs.lt HgL.out
      have h2 := HM.out.lt
      have h3 := HM.out.ne HgL.out
      have h4 : w4.heap.size = w3.heap.size + 1 := by rw [← hw4, World.size_alloc]
      omega)))
    obtain ⟨gm, hgm⟩ : ∃ gm, w3.heap.size = gm := ⟨_, rfl⟩
    rw [hgm] at HM HGM ⊢
    clear hw4 hgm HX4 hmm
    have qL := HgL.out.cell 0 _ rfl
    go_wp2_with fail
    clear qL
    go_loopw [33] (fun iv wr => ∃ k : Nat, k ≤ l.length ∧ iv = .int .i64 k ∧ Hid (FmM wr gm (frL (l.take k)) ∧ Cs wr gL 59 #[.slice A1 l.length c1] ∧ Hds wr (.slice A1 l.length c1) l ∧ Ext w wr)) (fun iv _ => l.length - (intOf iv).toNat)
    case atStart => exact ⟨0, by omega, rfl, Lib.hid ⟨HM.out, HgL.out, HS.out, HE.out⟩⟩
    case round =>
      clear HM HgL HS HE
      obtain ⟨k, hk, rfl, HJ⟩ := hrel
      by_cases hlt : k < l.length
      · have hd : decide (k < l.length) = true := decide_eq_true hlt
        have hd2 : decide ((k : Int) < (l.length : Int)) = true := decide_eq_true (by omega)
        obtain ⟨bb, oo, rfl, hrg, hpk⟩ := HJ.out.2.2.1.at k hlt
        have HR := Lib.hid hrg
        have HPK := Lib.hid hpk
        have HFR := Lib.hid (frL_snoc l k hlt)
        have HFL := Lib.hid (show (frL (l.take k)).length ≤ 1000 by rw [frL_len, List.length_take]; omega)
        clear hrg hpk
        generalize l.getD k hz0 = p at *
        have HP1 := Lib.hid (hdc_one p)
        obtain ⟨pc, hpc⟩ : ∃ pc, hdc p = pc := ⟨_, rfl⟩
        have HPC := Lib.hid hpc
        have HPS := Lib.hid (show pc.size = 11 by rw [← hpc]; rfl)
        rw [hpc] at HP1
        clear hpc
        go_upto_region 9 with (first
          | ((with_reducible refine wpList_load_hd ?_ (.tmp 35) ?_ (bb) (oo + k * 11) (p) ?_ ?_ ?_); (exact rfl); (exact rfl); (exact rfl); (exact HR.out); rw [HPC.out])
          | ((with_reducible refine wpList_store_agg ?_ ?_ 68 (.tmp 7) (.tmp 36) ?_ hdinfo wr.heap.size (hdc hz0) pc ?_ ?_ ?_ ?_ ?_ ?_ ?_); (exact rfl); (exact rfl); (exact rfl); (exact HP1.out); (exact rfl); (exact rfl); (exact Cs.new _ _ _ _ rfl); (exact rfl); (exact HPS.out); intro wy ky gy; have KY := Lib.hid ky; have XY := Lib.hid (((Ext.refl wr).alloc (.cells (hdc hz0) 68)).grown gy (Nat.le_refl _)); clear ky gy))
        have Hg7 : Hid (Hb wy wr.heap.size p) := Lib.hid (by unfold Hb; rw [HPC.out]; exact KY.out)
        have HM := Lib.hid (HJ.out.1.ext XY.out)
        have HgL := Lib.hid (Cs.ext HJ.out.2.1 XY.out)
        have HS := Lib.hid (HJ.out.2.2.1.ext XY.out)
        have HE := Lib.hid (HJ.out.2.2.2.trans XY.out)
        obtain ⟨g7, hg⟩ : ∃ g, wr.heap.size = g := ⟨_, rfl⟩
        rw [hg] at Hg7 ⊢
        clear hg KY XY HPC HPS HP1 HR HJ
        have q0 := Hb.addr Hg7.out
        have q10 := Hb.fre Hg7.out
        have hp0 := HPK.out.1
        have hp4 := HPK.out.2.2.2.2
        have HP0 := Lib.hid hp0
        have HP4 := Lib.hid hp4
        clear hp0 hp4
        go_wp2_with ((with_reducible refine wpList_from_put ?_ ?_ (.tmp 37) (.tmp 39) (.tmp 41) ?_ gm _ HFL.out HM.out p.addr p.fre HP0.out HP4.out ?_ ?_ ?_ ?_); (exact rfl); (exact rfl); (exact rfl); (exact rfl); (exact rfl); (exact rfl); intro wq kq gq; have KQ := Lib.hid kq; have GQ := Lib.hid gq; clear kq gq)
        exact ⟨⟨k + 1, by omega, by go_num, Lib.hid ⟨by rw [HFR.out]; exact KQ.out, Cs.kept HgL.out GQ.out (some_ne (HM.out.ne HgL.out)), HS.out.set (HM.out.nb HS.out) GQ.out, HE.out.grown GQ.out HGM.out⟩⟩, by simp [intOf]; omega⟩
      · obtain rfl : k = l.length := by omega
        have hd : decide (l.length < l.length) = false := decide_eq_false (by omega)
        have hd2 : decide ((l.length : Int) < (l.length : Int)) = false := decide_eq_false (by omega)
        have HDL := Lib.hid (show DlR w gL gm (.slice A1 l.length c1) l 0 wr from ⟨frL l, by rw [frL_len]; have := HRG.out.few; omega, by have := HJ.out.1; rwa [List.take_length] at this, ffV_rows HRG.out.rise, HJ.out.2.1, HJ.out.2.2.1, HNB.out, HRG.out, HK.out, HJ.out.2.2.2⟩)
        clear HJ
        generalize hvv : Value.slice A1 l.length c1 = vv at HDL
        clear hvv
        go_wp2_with fail
        go_loopw [45] (fun iv wr => ∃ k : Nat, k ≤ ds.length ∧ iv = .int .i64 k ∧ ∃ vc lc, Hid (DlR w gL gm vc lc k wr)) (fun iv _ => ds.length - (intOf iv).toNat)
        case atStart => exact ⟨0, by omega, rfl, vv, l, HDL⟩
        case round =>
          clear HDL
          obtain ⟨k, hk, rfl, vc, lc, HDL⟩ := hrel
          obtain ⟨L, hL1, hL2, hL3, hL4, hL5, hL6, hL7, hL8, hL9⟩ := HDL.out
          have HLL := Lib.hid hL1
          have HM := Lib.hid hL2
          have HFF := Lib.hid hL3
          have HgL := Lib.hid hL4
          have HS := Lib.hid hL5
          have HKL := Lib.hid (And.intro hL6 (And.intro hL7 hL8))
          have HE := Lib.hid hL9
          clear hL1 hL2 hL3 hL4 hL5 hL6 hL7 hL8 hL9 HDL
          by_cases hlt : k < ds.length
          case neg =>
            obtain rfl : k = ds.length := by omega
            have hd : decide (ds.length < ds.length) = false := decide_eq_false (by omega)
            have hd2 : decide ((ds.length : Int) < (ds.length : Int)) = false := decide_eq_false (by omega)
            go_wp2_with fail
            go_ret
            exact ⟨rfl, HE.out⟩
          have hd : decide (k < ds.length) = true := decide_eq_true hlt
          have hd2 : decide ((k : Int) < (ds.length : Int)) = true := decide_eq_true (by omega)
          obtain ⟨bb, oo, rfl, hrg, hdk⟩ := (HDS.out.ext HE.out).at k hlt
          have HR := Lib.hid hrg
          have HD := Lib.hid hdk
          clear hrg hdk
          generalize ds.getD k dz0 = d at *
          have HP1 := Lib.hid (ddc_one d)
          obtain ⟨pc, hpc⟩ : ∃ pc, ddc d = pc := ⟨_, rfl⟩
          have HPC := Lib.hid hpc
          have HPS := Lib.hid (show pc.size = 8 by rw [← hpc]; rfl)
          rw [hpc] at HP1
          clear hpc
          go_upto_region 14 with (first
            | ((with_reducible refine wpList_load_dd ?_ (.tmp 47) ?_ (bb) (oo + k * 8) (d) ?_ ?_ ?_); (exact rfl); (exact rfl); (exact rfl); (exact HR.out); rw [HPC.out])
            | ((with_reducible refine wpList_store_agg ?_ ?_ 63 (.tmp 9) (.tmp 48) ?_ ddinfo wr.heap.size (ddc dz0) pc ?_ ?_ ?_ ?_ ?_ ?_ ?_); (exact rfl); (exact rfl); (exact rfl); (exact HP1.out); (exact rfl); (exact rfl); (exact Cs.new _ _ _ _ rfl); (exact rfl); (exact HPS.out); intro wy ky gy; have KY := Lib.hid ky; have XY := Lib.hid (((Ext.refl wr).alloc (.cells (ddc dz0) 63)).grown gy (Nat.le_refl _)); clear ky gy))
          have Hg9 : Hid (Db wy wr.heap.size d) := Lib.hid (by unfold Db; rw [HPC.out]; exact KY.out)
          replace HE := Lib.hid (HE.out.trans XY.out)
          replace HgL := Lib.hid (Cs.ext HgL.out XY.out)
          replace HS := Lib.hid (HS.out.ext XY.out)
          replace HM := Lib.hid (HM.out.ext XY.out)
          obtain ⟨g9, hg⟩ : ∃ g, wr.heap.size = g := ⟨_, rfl⟩
          rw [hg] at Hg9 ⊢
          clear hg KY XY HPC HPS HP1 HR
          have HGW := Lib.hid (show gL < wy.heap.size from Cs.lt HgL.out)
          have qL := HgL.out.cell 0 _ rfl
          have qa : wy.cell? ⟨g9, 1, none⟩ = some (.int .u64 (d.addr : Nat)) := Cs.cell Hg9.out 1 _ rfl
          go_wp2_with fail
          refine (findL_any vc lc d.addr _ HS.out HD.out.2.1).mono ?_
          rintro e wx ⟨rfl, he⟩
          replace HE := Lib.hid (HE.out.trans he)
          replace HgL := Lib.hid (Cs.ext HgL.out he)
          replace HS := Lib.hid (HS.out.ext he)
          replace HM := Lib.hid (HM.out.ext he)
          replace Hg9 := Lib.hid (Hg9.out.ext he)
          clear he
          obtain ⟨f, hf⟩ : ∃ f, fdG lc d.addr = f := ⟨_, rfl⟩
          have HFg10 := Lib.hid hf
          have HOg10 := Lib.hid (show f.ok by rw [← hf]; exact fdG_ok HKL.out.2.2 HD.out.2.1)
          rw [hf]
          clear hf
          have HP1 := Lib.hid (hdc_one f)
          obtain ⟨fc, hfc⟩ : ∃ fc, hdc f = fc := ⟨_, rfl⟩
          have HFC := Lib.hid hfc
          have HFS := Lib.hid (show fc.size = 11 by rw [← hfc]; rfl)
          rw [hfc] at HP1 ⊢
          clear hfc
          go_upto_region 15 with ((with_reducible refine wpList_store_agg ?_ ?_ 68 (.tmp 10) (.tmp 52) ?_ hdinfo wx.heap.size (hdc hz0) fc ?_ ?_ ?_ ?_ ?_ ?_ ?_); (exact rfl); (exact rfl); (exact rfl); (exact HP1.out); (exact rfl); (exact rfl); (exact Cs.new _ _ _ _ rfl); (exact rfl); (exact HFS.out); intro wy ky gy; have KY := Lib.hid ky; have XY := Lib.hid (((Ext.refl wx).alloc (.cells (hdc hz0) 68)).grown gy (Nat.le_refl _)); clear ky gy)
          have Hg10 : Hid (Hb wy wx.heap.size f) := Lib.hid (by unfold Hb; rw [HFC.out]; exact KY.out)
          replace HE := Lib.hid (HE.out.trans XY.out)
          replace HgL := Lib.hid (Cs.ext HgL.out XY.out)
          replace HS := Lib.hid (HS.out.ext XY.out)
          replace HM := Lib.hid (HM.out.ext XY.out)
          replace Hg9 := Lib.hid (Hg9.out.ext XY.out)
          obtain ⟨g10, hg⟩ : ∃ g, wx.heap.size = g := ⟨_, rfl⟩
          rw [hg] at Hg10 ⊢
          clear hg KY XY HFC HFS HP1
          clear qL qa
          have qL := HgL.out.cell 0 _ rfl
          have HRA := Lib.hid (Cs.rg Hg9.out)
          have HGW := Lib.hid (show gL < wy.heap.size from Cs.lt HgL.out)
          go_wp2_with ((with_reducible refine wpList_load_dd ?_ (.tmp 9) ?_ (g9) (0) (d) ?_ ?_ ?_); (exact rfl); (exact rfl); (exact rfl); (exact HRA.out))
          refine (does_any d vc lc _ HD.out HS.out).mono ?_
          rintro e wx ⟨vn, rfl, ho, he⟩
          obtain ⟨r, hr⟩ : ∃ r, doS lc d = r := ⟨_, rfl⟩
          have HRn := Lib.hid hr
          rw [hr] at ho ⊢
          clear hr
          obtain ⟨n, wd, er⟩ := r
          dsimp only at ho ⊢
          have HSn := Lib.hid ho.hds
          have HNn := Lib.hid (NB.own ho (Nat.lt_of_lt_of_le HGW.out (Nat.le_refl _)))
          have HV1 := Lib.hid (show vn.oneCell' = true by obtain ⟨A, c, e, _⟩ := ho.hds.len; rw [e]; rfl)
          replace HE := Lib.hid (HE.out.trans he)
          replace HgL := Lib.hid (Cs.ext HgL.out he)
          replace HS := Lib.hid (HS.out.ext he)
          replace HM := Lib.hid (HM.out.ext he)
          replace Hg9 := Lib.hid (Hg9.out.ext he)
          replace Hg10 := Lib.hid (Hg10.out.ext he)
          clear ho he
          go_upto_region 16 with (first
            | ((with_reducible refine wpList_store_agg ?_ ?_ 59 (.tmp 11) (.tmp 57) ?_ ldinfo wx.heap.size #[.slice none 0 0] #[vn] ?_ ?_ ?_ ?_ ?_ ?_ ?_); (exact rfl); (exact rfl); (exact rfl); (exact one_val HV1.out); (exact rfl); (exact rfl); (exact Cs.alloc (Cs.new _ _ _ _ rfl) _); (exact rfl); (exact rfl); intro wy ky gy; have KY := Lib.hid ky; have GY := Lib.hid gy; clear ky gy)
            | ((with_reducible refine wpList_store_word rfl rfl 31 (.tmp 12) (.tmp 58) rfl winfo (wx.heap.size + 1) (wc 0) wd ?_ ?_ ?_ ?_ ?_); (exact two_newD rfl); (exact rfl); (exact Cs.kept (Cs.new _ _ _ _ (by rw [World.size_alloc])) GY.out (some_ne (by omega))); (exact rfl); intro wz kz gz; have KZ := Lib.hid kz; have GZ := Lib.hid gz; clear kz gz))
          have XZ := Lib.hid (((((Ext.refl wx).alloc (.cells #[.slice none 0 0] 59)).alloc (.cells (wc 0) 31)).grown GY.out (Nat.le_refl _)).grown GZ.out (Nat.le_succ _))
          have Hgg11 := Lib.hid (Cs.kept KY.out GZ.out (some_ne (by omega)))
          have Hwg11 : Hid (Cs wz (wx.heap.size + 1) 31 (wc wd)) := Lib.hid KZ.out
          replace HSn := Lib.hid (HSn.out.ext XZ.out)
          replace HE := Lib.hid (HE.out.trans XZ.out)
          replace HgL := Lib.hid (Cs.ext HgL.out XZ.out)
          replace HS := Lib.hid (HS.out.ext XZ.out)
          replace HM := Lib.hid (HM.out.ext XZ.out)
          replace Hg9 := Lib.hid (Hg9.out.ext XZ.out)
          replace Hg10 := Lib.hid (Hg10.out.ext XZ.out)
          obtain ⟨g11w, hgw⟩ : ∃ g, wx.heap.size + 1 = g := ⟨_, rfl⟩
          obtain ⟨g11, hg⟩ : ∃ g, wx.heap.size = g := ⟨_, rfl⟩
          rw [hgw] at Hwg11 ⊢
          rw [hg] at Hgg11 ⊢
          clear hg hgw KY KZ GY GZ XZ
          clear qL HRA
          by_cases he0 : er = 0
          case neg =>
            have e1 : (er != 0) = true := by simpa using he0
            clear he0
            go_wp2_with fail
            exact ⟨⟨k + 1, by omega, by go_num, vc, lc, Lib.hid ⟨L, by have := HLL.out; omega, HM.out, HFF.out, HgL.out, HS.out, HKL.out.1, HKL.out.2.1, HKL.out.2.2, HE.out⟩⟩, by simp [intOf]; omega⟩
          subst he0
          have HOW := Lib.hid (doS_own HKL.out.2.2 HKL.out.2.1 HD.out HRn.out)
          have HRN := Lib.hid ((rg_iff HOW.out.2.2.1).2 HOW.out.2.1)
          have HRL := Lib.hid ((rg_iff HKL.out.2.2).2 HKL.out.2.1)
          have HWS := Lib.hid (show f = rowG lc d.addr by rw [← HFg10.out]; exact fd_row HRL.out HOW.out.1)
          obtain ⟨was, hwas⟩ : ∃ x, x = f := ⟨f, rfl⟩
          subst hwas
          have HFR := Lib.hid (ledgerRow_fre HOW.out.2.2.2.2.1)
          have HNW := Lib.hid (show ∀ x, (rowG n d.addr).fre = x → ∀ a, ffV ((d.addr, x) :: L) a = (rowG n a).fre from fun x hx a => by
            show (if a = d.addr then x else ffV L a) = _
            by_cases e : a = d.addr
            · rw [if_pos e, e, hx]
            · rw [if_neg e, HFF.out, HOW.out.2.2.2.1 a e])
          have HLN := Lib.hid (show L.length ≤ 1000 by have := HLL.out; omega)
          have HDA := Lib.hid HD.out.2.1
          have qk : wz.cell? ⟨g9, 0, none⟩ = some (.int .i64 d.kind) := Cs.cell Hg9.out 0 _ rfl
          have HKC := Lib.hid (kdD_cases d)
          have hkk : (IntKind.u64.wrap d.kind).tmod 5 = kdD d := rfl
          go_upto_region 18 with fail
          clear hkk qk
          rcases HKC.out with hk | hk | hk | hk | hk
          · rw [hk]
            have HF0 := Lib.hid (HFR.out.1 hk)
            clear hk
            have qn := Hgg11.out.cell 0 _ rfl
            go_wp2_with ((with_reducible refine wpList_store_agg ?_ ?_ 59 (.tmp 2) (.tmp 136) ?_ ldinfo gL #[vc] #[vn] ?_ ?_ ?_ ?_ ?_ ?_ ?_); (exact rfl); (exact rfl); (exact rfl); (exact one_val HV1.out); (exact rfl); (exact rfl); (exact HgL.out); (exact rfl); (exact rfl); intro wq kq gq; have KQ := Lib.hid kq; have GQ := Lib.hid gq; clear kq gq)
            exact ⟨⟨k + 1, by omega, by go_num, vn, n, Lib.hid ⟨L, by have := HLL.out; omega, HM.out.kept GQ.out (some_ne (fun e => HM.out.ne HgL.out e.symm)), fun a => by
                rw [HFF.out]
                by_cases e : a = d.addr
                · rw [e, HF0.out]
                · rw [HOW.out.2.2.2.1 a e], KQ.out, HSn.out.set HNn.out GQ.out, HNn.out, HOW.out.2.1, HOW.out.2.2.1, HE.out.grown GQ.out HGL.out⟩⟩, by simp [intOf]; omega⟩
          · rw [hk]
            have HF0 := Lib.hid (HFR.out.2.1 hk)
            clear hk
            have qn := Hgg11.out.cell 0 _ rfl
            go_wp2_with ((with_reducible refine wpList_store_agg ?_ ?_ 59 (.tmp 2) (.tmp 136) ?_ ldinfo gL #[vc] #[vn] ?_ ?_ ?_ ?_ ?_ ?_ ?_); (exact rfl); (exact rfl); (exact rfl); (exact one_val HV1.out); (exact rfl); (exact rfl); (exact HgL.out); (exact rfl); (exact rfl); intro wq kq gq; have KQ := Lib.hid kq; have GQ := Lib.hid gq; clear kq gq)
            exact ⟨⟨k + 1, by omega, by go_num, vn, n, Lib.hid ⟨L, by have := HLL.out; omega, HM.out.kept GQ.out (some_ne (fun e => HM.out.ne HgL.out e.symm)), fun a => by
                rw [HFF.out]
                by_cases e : a = d.addr
                · rw [e, HF0.out]
                · rw [HOW.out.2.2.2.1 a e], KQ.out, HSn.out.set HNn.out GQ.out, HNn.out, HOW.out.2.1, HOW.out.2.2.1, HE.out.grown GQ.out HGL.out⟩⟩, by simp [intOf]; omega⟩
          · rw [hk]
            have HF2 := Lib.hid (HFR.out.2.2.1 hk)
            clear hk
            have qn := Hgg11.out.cell 0 _ rfl
            have qa : wz.cell? ⟨g9, 1, none⟩ = some (.int .u64 (d.addr : Nat)) := Cs.cell Hg9.out 1 _ rfl
            go_wp2_with fail
            refine (findL_any vn n d.addr _ HSn.out HD.out.2.1).mono ?_
            rintro e wx ⟨rfl, he⟩
            replace HE := Lib.hid (HE.out.trans he)
            replace HgL := Lib.hid (Cs.ext HgL.out he)
            replace Hgg11 := Lib.hid (Cs.ext Hgg11.out he)
            replace Hwg11 := Lib.hid (Cs.ext Hwg11.out he)
            replace HS := Lib.hid (HS.out.ext he)
            replace HM := Lib.hid (HM.out.ext he)
            replace Hg9 := Lib.hid (Hg9.out.ext he)
            replace Hg10 := Lib.hid (Hg10.out.ext he)
            replace HSn := Lib.hid (HSn.out.ext he)
            clear he
            obtain ⟨f, hf⟩ : ∃ f, fdG n d.addr = f := ⟨_, rfl⟩
            have HFg14 := Lib.hid hf
            have HOg14 := Lib.hid (show f.ok by rw [← hf]; exact fdG_ok HOW.out.2.2.1 HD.out.2.1)
            rw [hf]
            clear hf
            have HP1 := Lib.hid (hdc_one f)
            obtain ⟨fc, hfc⟩ : ∃ fc, hdc f = fc := ⟨_, rfl⟩
            have HFC := Lib.hid hfc
            have HFS := Lib.hid (show fc.size = 11 by rw [← hfc]; rfl)
            rw [hfc] at HP1 ⊢
            clear hfc
            go_upto_region 20 with ((with_reducible refine wpList_store_agg ?_ ?_ 68 (.tmp 14) (.tmp 71) ?_ hdinfo wx.heap.size (hdc hz0) fc ?_ ?_ ?_ ?_ ?_ ?_ ?_); (exact rfl); (exact rfl); (exact rfl); (exact HP1.out); (exact rfl); (exact rfl); (exact Cs.new _ _ _ _ rfl); (exact rfl); (exact HFS.out); intro wy ky gy; have KY := Lib.hid ky; have XY := Lib.hid (((Ext.refl wx).alloc (.cells (hdc hz0) 68)).grown gy (Nat.le_refl _)); clear ky gy)
            have Hg14 : Hid (Hb wy wx.heap.size f) := Lib.hid (by unfold Hb; rw [HFC.out]; exact KY.out)
            replace HE := Lib.hid (HE.out.trans XY.out)
            replace HgL := Lib.hid (Cs.ext HgL.out XY.out)
            replace Hgg11 := Lib.hid (Cs.ext Hgg11.out XY.out)
            replace Hwg11 := Lib.hid (Cs.ext Hwg11.out XY.out)
            replace HS := Lib.hid (HS.out.ext XY.out)
            replace HM := Lib.hid (HM.out.ext XY.out)
            replace Hg9 := Lib.hid (Hg9.out.ext XY.out)
            replace Hg10 := Lib.hid (Hg10.out.ext XY.out)
            replace HSn := Lib.hid (HSn.out.ext XY.out)
            obtain ⟨g14, hg⟩ : ∃ g, wx.heap.size = g := ⟨_, rfl⟩
            rw [hg] at Hg14 ⊢
            clear hg KY XY HFC HFS HP1
            clear qn qa
            have HIS := Lib.hid (show f = rowG n d.addr by rw [← HFg14.out]; exact fd_row HRN.out HOW.out.1)
            have HFX := Lib.hid (show f.fre = 0 ∧ f.stk ≠ 0 ∧ was.dly ≤ f.dly by rw [HIS.out, HWS.out]; exact HF2.out)
            have HST := Lib.hid (show stdG n d.addr f.stk f.dly = true by rw [HIS.out]; exact stk_all HRN.out HOW.out.1 (by rw [← HIS.out]; exact HFX.out.2.1) (by rw [← HIS.out]; exact HFX.out.1))
            have q10 : wy.cell? ⟨g14, 10, none⟩ = some (.int .u64 0) := by have := Hb.fre Hg14.out; rw [HFX.out.1] at this; exact this
            have q9 := Hb.dly Hg14.out
            have q9' := Hb.dly Hg10.out
            have qa : wy.cell? ⟨g9, 1, none⟩ = some (.int .u64 (d.addr : Nat)) := Cs.cell Hg9.out 1 _ rfl
            have qn := Hgg11.out.cell 0 _ rfl
            have e5 : decide ((f.dly : Int) < (was.dly : Int)) = false := decide_eq_false (by have := HFX.out.2.2; omega)
            have e6 : decide (f.dly < was.dly) = false := decide_eq_false (by have := HFX.out.2.2; omega)
            have HFS := Lib.hid (Hb.stk Hg14.out)
            have HFM := Lib.hid HOg14.out.2.2.1
            have HFD := Lib.hid HOg14.out.2.2.2.1
            go_wp2_with ((with_reducible refine wpList_load_wordIn ?_ (.tmp 86) ?_ g14 5 (f.stk) ?_ ?_ ?_); (exact rfl); (exact rfl); (exact rfl); (exact HFS.out))
            refine (stakedL_any vn n d.addr f.stk f.dly _ HSn.out HD.out.2.1 HFM.out HFD.out).mono ?_
            rintro e wx ⟨rfl, he⟩
            rw [HST.out]
            replace HE := Lib.hid (HE.out.trans he)
            replace HgL := Lib.hid (Cs.ext HgL.out he)
            replace Hgg11 := Lib.hid (Cs.ext Hgg11.out he)
            replace Hwg11 := Lib.hid (Cs.ext Hwg11.out he)
            replace HS := Lib.hid (HS.out.ext he)
            replace HM := Lib.hid (HM.out.ext he)
            replace Hg9 := Lib.hid (Hg9.out.ext he)
            replace Hg10 := Lib.hid (Hg10.out.ext he)
            replace HSn := Lib.hid (HSn.out.ext he)
            replace Hg14 := Lib.hid (Hg14.out.ext he)
            clear he q10 q9 q9' qa qn e5 e6
            have qa : wx.cell? ⟨g9, 1, none⟩ = some (.int .u64 (d.addr : Nat)) := Cs.cell Hg9.out 1 _ rfl
            go_upto_region 31 with ((with_reducible refine wpList_from_put ?_ ?_ (.tmp 93) (.tmp 95) (.const (.int .u64 0)) ?_ gm L HLN.out HM.out d.addr (0) HDA.out (by decide) ?_ ?_ ?_ ?_); (exact rfl); (exact rfl); (exact rfl); (exact rfl); (exact rfl); (exact rfl); intro wp kp gp; have KP := Lib.hid kp; have GP := Lib.hid gp; clear kp gp)
            have KL := Lib.hid (Cs.kept HgL.out GP.out (some_ne (HM.out.ne HgL.out)))
            have KN := Lib.hid (Cs.kept Hgg11.out GP.out (some_ne (HM.out.ne Hgg11.out)))
            have KS := Lib.hid (HSn.out.set (HM.out.nb HSn.out) GP.out)
            have KE := Lib.hid (HE.out.grown GP.out HGM.out)
            have qn := KN.out.cell 0 _ rfl
            go_wp2_with ((with_reducible refine wpList_store_agg ?_ ?_ 59 (.tmp 2) (.tmp 136) ?_ ldinfo gL #[vc] #[vn] ?_ ?_ ?_ ?_ ?_ ?_ ?_); (exact rfl); (exact rfl); (exact rfl); (exact one_val HV1.out); (exact rfl); (exact rfl); (exact KL.out); (exact rfl); (exact rfl); intro wq kq gq; have KQ := Lib.hid kq; have GQ := Lib.hid gq; clear kq gq)
            exact ⟨⟨k + 1, by omega, by go_num, vn, n, Lib.hid ⟨(d.addr, 0) :: L, by have := HLL.out; simp only [List.length_cons]; omega, KP.out.kept GQ.out (some_ne (fun e => KP.out.ne KL.out e.symm)), HNW.out _ (by rw [← HIS.out]; exact HFX.out.1), KQ.out, KS.out.set HNn.out GQ.out, HNn.out, HOW.out.2.1, HOW.out.2.2.1, KE.out.grown GQ.out HGL.out⟩⟩, by simp [intOf]; omega⟩
          · rw [hk]
            have HF3 := Lib.hid (show (rowG n d.addr).fre = d.now + was.dly ∧ was.stk ≠ 0 ∧ was.fre = 0 ∧ d.now ≤ 1099511627776 by rw [HWS.out]; exact HFR.out.2.2.2.1 hk)
            have HLK := Lib.hid (show ffV L d.addr = 0 by rw [HFF.out, ← HWS.out]; exact HF3.out.2.2.1)
            have HWD := Lib.hid (show was.dly ≤ 1073741824 by rw [HWS.out]; have := HKL.out.2.1.rowF d.addr; unfold RowF at this; omega)
            clear hk
            have HWR := Lib.hid (Hb.stk Hg10.out)
            have hws := HOg10.out.2.2.1
            have HWM := Lib.hid hws
            have e1 : (was.stk == 0) = false := by rw [beq_eq_false_iff_ne]; exact HF3.out.2.1
            have qa : wz.cell? ⟨g9, 1, none⟩ = some (.int .u64 (d.addr : Nat)) := Cs.cell Hg9.out 1 _ rfl
            have q7 : wz.cell? ⟨g9, 7, none⟩ = some (.int .u64 (d.now : Nat)) := Cs.cell Hg9.out 7 _ rfl
            have q9 := Hb.dly Hg10.out
            have hb1 : (d.now : Int) ≤ 1099511627776 := by have := HF3.out.2.2.2; omega
            have hb2 : (was.dly : Int) ≤ 1073741824 := by have := HWD.out; omega
            have HSM := Lib.hid (show d.now + was.dly < 18446744073709551616 by have := HWD.out; have := HF3.out.2.2.2; omega)
            have HSI := Lib.hid (show ((d.now : Int) + (was.dly : Int)) = ((d.now + was.dly : Nat) : Int) by omega)
            clear hws
            go_upto_region 31 with (first
              | ((with_reducible refine wpList_load_wordIn ?_ (.tmp 98) ?_ g10 5 (was.stk) ?_ ?_ ?_); (exact rfl); (exact rfl); (exact rfl); (exact HWR.out))
              | ((with_reducible refine wpList_eql_word ?_ (.tmp 99) (.tmp 100) ?_ was.stk 0 HWM.out (by decide) ?_ ?_ ?_); (exact rfl); (exact rfl); (exact rfl); (exact rfl); rw [e1])
              | ((with_reducible refine wpList_from_get ?_ (.tmp 103) (.tmp 105) ?_ gm L HM.out d.addr HDA.out ?_ ?_ ?_); (exact rfl); (exact rfl); (exact rfl); (exact rfl); rw [HLK.out])
              | ((with_reducible refine wpList_from_put ?_ ?_ (.tmp 109) (.tmp 111) (.tmp 116) ?_ gm L HLN.out HM.out d.addr (d.now + was.dly) HDA.out HSM.out ?_ ?_ ?_ ?_); (exact rfl); (exact rfl); (exact rfl); (exact rfl); (exact rfl); (exact congrArg (Value.int .u64) HSI.out); intro wp kp gp; have KP := Lib.hid kp; have GP := Lib.hid gp; clear kp gp))
            clear e1 qa q7 q9 hb1 hb2
            have KL := Lib.hid (Cs.kept HgL.out GP.out (some_ne (HM.out.ne HgL.out)))
            have KN := Lib.hid (Cs.kept Hgg11.out GP.out (some_ne (HM.out.ne Hgg11.out)))
            have KS := Lib.hid (HSn.out.set (HM.out.nb HSn.out) GP.out)
            have KE := Lib.hid (HE.out.grown GP.out HGM.out)
            have qn := KN.out.cell 0 _ rfl
            go_wp2_with ((with_reducible refine wpList_store_agg ?_ ?_ 59 (.tmp 2) (.tmp 136) ?_ ldinfo gL #[vc] #[vn] ?_ ?_ ?_ ?_ ?_ ?_ ?_); (exact rfl); (exact rfl); (exact rfl); (exact one_val HV1.out); (exact rfl); (exact rfl); (exact KL.out); (exact rfl); (exact rfl); intro wq kq gq; have KQ := Lib.hid kq; have GQ := Lib.hid gq; clear kq gq)
            exact ⟨⟨k + 1, by omega, by go_num, vn, n, Lib.hid ⟨(d.addr, d.now + was.dly) :: L, by have := HLL.out; simp only [List.length_cons]; omega, KP.out.kept GQ.out (some_ne (fun e => KP.out.ne KL.out e.symm)), HNW.out _ (HF3.out.1), KQ.out, KS.out.set HNn.out GQ.out, HNn.out, HOW.out.2.1, HOW.out.2.2.1, KE.out.grown GQ.out HGL.out⟩⟩, by simp [intOf]; omega⟩
          · rw [hk]
            have HF4 := Lib.hid (show (rowG n d.addr).fre = 0 ∧ was.fre ≠ 0 ∧ was.fre ≤ d.now by rw [HWS.out]; exact HFR.out.2.2.2.2 hk)
            have HLK := Lib.hid (show ffV L d.addr = was.fre by rw [HFF.out, ← HWS.out])
            clear hk
            have e1 : ((was.fre : Int) == 0) = false := by rw [beq_eq_false_iff_ne]; have := HF4.out.2.1; omega
            have e2 : (was.fre == 0) = false := by rw [beq_eq_false_iff_ne]; exact HF4.out.2.1
            have e3 : decide ((d.now : Int) < (was.fre : Int)) = false := decide_eq_false (by have := HF4.out.2.2; omega)
            have e4 : decide (d.now < was.fre) = false := decide_eq_false (by have := HF4.out.2.2; omega)
            have qa : wz.cell? ⟨g9, 1, none⟩ = some (.int .u64 (d.addr : Nat)) := Cs.cell Hg9.out 1 _ rfl
            have q7 : wz.cell? ⟨g9, 7, none⟩ = some (.int .u64 (d.now : Nat)) := Cs.cell Hg9.out 7 _ rfl
            go_upto_region 31 with (first
              | ((with_reducible refine wpList_from_get ?_ (.tmp 119) (.tmp 121) ?_ gm L HM.out d.addr HDA.out ?_ ?_ ?_); (exact rfl); (exact rfl); (exact rfl); (exact rfl); rw [HLK.out])
              | ((with_reducible refine wpList_from_get ?_ (.tmp 127) (.tmp 129) ?_ gm L HM.out d.addr HDA.out ?_ ?_ ?_); (exact rfl); (exact rfl); (exact rfl); (exact rfl); rw [HLK.out])
              | ((with_reducible refine wpList_from_put ?_ ?_ (.tmp 133) (.tmp 135) (.const (.int .u64 0)) ?_ gm L HLN.out HM.out d.addr (0) HDA.out (by decide) ?_ ?_ ?_ ?_); (exact rfl); (exact rfl); (exact rfl); (exact rfl); (exact rfl); (exact rfl); intro wp kp gp; have KP := Lib.hid kp; have GP := Lib.hid gp; clear kp gp))
            clear e1 e2 e3 e4 qa q7
            have KL := Lib.hid (Cs.kept HgL.out GP.out (some_ne (HM.out.ne HgL.out)))
            have KN := Lib.hid (Cs.kept Hgg11.out GP.out (some_ne (HM.out.ne Hgg11.out)))
            have KS := Lib.hid (HSn.out.set (HM.out.nb HSn.out) GP.out)
            have KE := Lib.hid (HE.out.grown GP.out HGM.out)
            have qn := KN.out.cell 0 _ rfl
            go_wp2_with ((with_reducible refine wpList_store_agg ?_ ?_ 59 (.tmp 2) (.tmp 136) ?_ ldinfo gL #[vc] #[vn] ?_ ?_ ?_ ?_ ?_ ?_ ?_); (exact rfl); (exact rfl); (exact rfl); (exact one_val HV1.out); (exact rfl); (exact rfl); (exact KL.out); (exact rfl); (exact rfl); intro wq kq gq; have KQ := Lib.hid kq; have GQ := Lib.hid gq; clear kq gq)
            exact ⟨⟨k + 1, by omega, by go_num, vn, n, Lib.hid ⟨(d.addr, 0) :: L, by have := HLL.out; simp only [List.length_cons]; omega, KP.out.kept GQ.out (some_ne (fun e => KP.out.ne KL.out e.symm)), HNW.out _ (HF4.out.1), KQ.out, KS.out.set HNn.out GQ.out, HNn.out, HOW.out.2.1, HOW.out.2.2.1, KE.out.grown GQ.out HGL.out⟩⟩, by simp [intOf]; omega⟩
set_option maxRecDepth 100000 in
theorem ledgerDelays_told (W : World) (args : Array Value) (h : Told Try.f7 W args) : Calls Try.prog 7 args W (RetT W) := by
  obtain ⟨H, enc, base, ds, p, hval, hA⟩ := h
  rw [Try.params7] at hA hval
  obtain ⟨v0, v1, d0, d1, p0, p1, rfl, rfl, rfl, h0, h1⟩ := trodAll_two hA
  obtain ⟨s0, x0, rfl, hx0⟩ := ledger_came (hval 0 _ v0 rfl rfl) h0
  obtain ⟨A, n, c, rfl⟩ := okWide_slice Try.underlying60 (hval 1 _ v1 rfl rfl)
  obtain ⟨l, hl⟩ := deeds_came h1 rfl
  exact ledgerDelays_any s0 _ x0 l W hx0 hl

set_option maxRecDepth 100000 in
theorem ledgerDelays_spec (H : Type) : ∀ ds : List (DataW H), ds.length = Try.f7.params.toList.length → Rows.ledgerDelaysSpec.fn H ds = { results := [.lit (.bool true)], args := ds }
  | [_, _], _ => rfl
  | [], h | [_], h | _ :: _ :: _ :: _, h => by rw [Try.params7] at h; simp at h

set_option maxRecDepth 100000 in
theorem ledgerDelays_holds : Rows.LedgerDelaysSaid :=
  OpenClaim.holds_of_wide 7 Try.f7 rfl rfl rfl rfl rfl rfl rfl ⟨rfl, rfl, rfl, rfl, rfl⟩ rfl rfl rfl rfl rfl (by kernel_rfl) Try.func7 (by kernel_rfl)
    (of_decide_eq_true (by kernel_rfl)) (by unfold Func.isWrapper; first | (rw [if_pos (by decide +kernel)]; kernel_rfl) | (rw [if_neg (by decide +kernel)]; exact ⟨rfl, rfl⟩))
    (fun os started H enc _ => law_lifted started (by kernel_rfl) Try.func7 rfl rfl (ledgerDelays_spec H) (of_decide_eq_true (by kernel_rfl))
      (ChangeSpec.witness6 (enc := enc) (C := Try.checked) false ⟨#[], #[.agg #[.slice none 0 0], .slice none 0 0], []⟩ 8 (by kernel_rfl) (by kernel_rfl) (by kernel_rfl) (by kernel_rfl)) ledgerDelays_told)
end Go.Proofs.Yteidmoilldheeaa
