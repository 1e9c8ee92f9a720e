/- LedgerDoes: what comes of whatever ledger by whatever deeds is as the document says. -/
import Derived.Test.YtepggbhibpjkpaaLrj
import Derived.Test.YtepggbhibpjkpaaLpa
import Derived.Test.YtepggbhibpjkpaaLrl
namespace Go.Proofs.Ytepggbhibpjkpaa
open Go.ChangeShapes Go.WideShapes Go.ChangeAt Go.RowKit Go.Shelf

set_option maxRecDepth 100000 in
theorem two_newE {x : Value} {p : Addr} (h : x = .pointer (some p)) : x = .pointer (some p) := h
def LdI (w5 : World) (z g8 g11 : Nat) (vn vm : Value) (n n' : List Hd) (W : World) : Prop := n'.length = n.length ∧ OwnH W w5.heap.size vn n' ∧ Cs W g8 88 #[vn] ∧ Cs W g11 88 #[vm] ∧ OwnH W z vm n ∧ Ext w5 W
set_option maxRecDepth 100000 in
theorem doS_wd {l : List Hd} (hok : ∀ p ∈ l, p.ok) {d : Dd} (hd : d.ok) {n : List Hd} {wd : Nat} {er : Int} (h : doS l d = (n, wd, er)) : wd < M256 := by
  have h1 : wd = (doS l d).2.1 := by rw [h]
  rw [h1]
  unfold doS
  have h2 := relS_word hok hd.2.1 (n := d.now)
  split
  · exact M256_pos
  · split
    · exact M256_pos
    · split
      · exact M256_pos
      · split
        · exact M256_pos
        · exact h2
/-- What a round finds. -/
def LdJ (w : World) (gL : Nat) (v : Value) (l : List Hd) (W : World) : Prop := Cs W gL 88 #[v] ∧ Hds W v l ∧ NB gL v l ∧ l.length ≤ 40 ∧ Ext w W
set_option maxRecDepth 100000 in
set_option maxHeartbeats 16000000 in
theorem ledgerDoes_any (v u : Value) (l : List Hd) (ds : List Dd) (w : World) (hs : Hds w v l) (hd : Dds w u ds) : Calls Try.prog 11 #[.agg #[v], u] w (RetT w) := by
  have HNB := Lib.hid (NB.old hs (Nat.le_refl _))
  have HDS := Lib.hid hd
  obtain ⟨A2, c2, rfl, k1, k2⟩ := hd.len
  have hv1 : v.oneCell' = true := by obtain ⟨A, c, rfl, _⟩ := hs.len; rfl
  unfold maxLen at k2
  have HE := Lib.hid ((Ext.refl w).alloc (.cells #[v] 88))
  have HgL := Lib.hid (Cs.new w #[v] 88 _ rfl)
  have HS := Lib.hid (hs.ext HE.out)
  clear hs hd
  go_enter Try.func11, Try.ntmps11
  go_upto_region 1 with fail
  generalize hwa : w.alloc (.cells #[v] 88) = w0 at *
  clear hwa
  obtain ⟨gL, hgL⟩ : ∃ g, w.heap.size = g := ⟨_, rfl⟩
  have HGL := Lib.hid (show w.heap.size ≤ gL by omega)
  rw [hgL] at HgL HNB ⊢
  clear hgL
  go_wp2_with fail
  refine (wakesL_any _).mono ?_
  rintro e w1 ⟨rfl, he⟩
  replace HE := Lib.hid (HE.out.trans he)
  replace HgL := Lib.hid (Cs.ext HgL.out he)
  replace HS := Lib.hid (HS.out.ext he)
  clear he
  have qL := HgL.out.cell 0 _ rfl
  go_wp2_with fail
  refine (overL_any _ l _ HS.out).mono ?_
  rintro e w2 ⟨rfl, he⟩
  replace HE := Lib.hid (HE.out.trans he)
  replace HgL := Lib.hid (Cs.ext HgL.out he)
  replace HS := Lib.hid (HS.out.ext he)
  clear he qL
  by_cases ho : 40 < l.length
  · rw [decide_eq_true ho]
    clear ho
    go_wp2_with fail
    go_ret
    exact ⟨rfl, HE.out⟩
  have HL40 := Lib.hid (show l.length ≤ 40 by omega)
  rw [decide_eq_false ho]
  clear ho
  by_cases ho : 80 < ds.length
  · have e1 : decide ((80 : Int) < (ds.length : Int)) = true := decide_eq_true (by omega)
    have e2 : decide (80 < ds.length) = true := decide_eq_true ho
    have e3 : decide ((ds.length : Int) > 80) = true := decide_eq_true (by omega)
    clear ho
    go_wp2_with fail
    go_ret
    exact ⟨rfl, HE.out⟩
  have e1 : decide ((80 : Int) < (ds.length : Int)) = false := decide_eq_false (by omega)
  have e2 : decide (80 < ds.length) = false := decide_eq_false ho
  have e3 : decide ((ds.length : Int) > 80) = false := decide_eq_false (by omega)
  have hdl : (ds.length : Int) ≤ 80 := by omega
  clear ho
  go_wp2_with fail
  clear e1 e2 e3
  go_loopw [26] (fun iv wr => ∃ k : Nat, k ≤ ds.length ∧ iv = .int .i64 k ∧ ∃ vc lc, Hid (LdJ w gL vc lc wr)) (fun iv _ => ds.length - (intOf iv).toNat)
  case atStart => exact ⟨0, by omega, rfl, v, l, Lib.hid ⟨HgL.out, HS.out, HNB.out, HL40.out, HE.out⟩⟩
  case round =>
    clear HgL HS HNB HE
    obtain ⟨k, hk, rfl, vc, lc, HJ⟩ := hrel
    have HgL := Lib.hid HJ.out.1
    have HS := Lib.hid HJ.out.2.1
    have HNB := Lib.hid HJ.out.2.2.1
    have HL4 := Lib.hid HJ.out.2.2.2.1
    have HE := Lib.hid HJ.out.2.2.2.2
    clear HJ
    by_cases hlt : k < ds.length
    case neg =>
      obtain rfl : k = ds.length := by omega
      have hd : decide (ds.length < ds.length) = false := decide_eq_false (by omega)
      have hd2 : decide ((ds.length : Int) < (ds.length : Int)) = false := decide_eq_false (by omega)
      go_wp2_with fail
      go_ret
      exact ⟨rfl, HE.out⟩
    have hd : decide (k < ds.length) = true := decide_eq_true hlt
    have hd2 : decide ((k : Int) < (ds.length : Int)) = true := decide_eq_true (by omega)
    obtain ⟨bb, oo, rfl, hrg, hdk⟩ := (HDS.out.ext HE.out).at k hlt
    have HR := Lib.hid hrg
    have HD := Lib.hid hdk
    clear hrg hdk
    generalize ds.getD k dz0 = d at *
    have HP1 := Lib.hid (ddc_one d)
    obtain ⟨pc, hpc⟩ : ∃ pc, ddc d = pc := ⟨_, rfl⟩
    have HPC := Lib.hid hpc
    have HPS := Lib.hid (show pc.size = 8 by rw [← hpc]; rfl)
    rw [hpc] at HP1
    clear hpc
    go_upto_region 8 with (first
      | (((with_reducible refine wpList_load_dd ?_ (.tmp 28) ?_ (bb) (oo + k * 8) (d) ?_ ?_ ?_); (exact rfl); (exact rfl); (exact rfl); (exact HR.out)); rw [HPC.out])
      | ((with_reducible refine wpList_store_agg ?_ ?_ 92 (.tmp 6) (.tmp 29) ?_ ddinfo wr.heap.size (ddc dz0) pc ?_ ?_ ?_ ?_ ?_ ?_ ?_); (exact rfl); (exact rfl); (exact rfl); (exact HP1.out); (exact rfl); (exact rfl); (exact Cs.new _ _ _ _ rfl); (exact rfl); (exact HPS.out); intro wy ky gy; have KY := Lib.hid ky; have XY := Lib.hid (((Ext.refl wr).alloc (.cells (ddc dz0) 92)).grown gy (Nat.le_refl _)); clear ky gy))
    have Hg6 : Hid (Db wy wr.heap.size d) := Lib.hid (by unfold Db; rw [HPC.out]; exact KY.out)
    replace HE := Lib.hid (HE.out.trans XY.out)
    replace HgL := Lib.hid (Cs.ext HgL.out XY.out)
    replace HS := Lib.hid (HS.out.ext XY.out)
    obtain ⟨g6, hg⟩ : ∃ g, wr.heap.size = g := ⟨_, rfl⟩
    rw [hg] at Hg6 ⊢
    clear hg KY XY HPC HPS HP1 HR
    have HKL := Lib.hid HS.out.oks
    have HRS := Lib.hid HS.out.rs
    obtain ⟨A1, c1, rfl, k3, k4⟩ := HS.out.len
    unfold maxLen at k4
    have qL : wy.cell? ⟨gL, 0, none⟩ = some (.slice A1 lc.length c1) := HgL.out.cell 0 _ rfl
    have HO : Hid ((wy.alloc (.cells #[] 97)).ownsRow wy.heap.size 97 11 (.slice (some ⟨wy.heap.size, 0, none⟩) 0 0) 0 []) := Lib.hid ⟨by simp, .inr ⟨wy.heap.size, 0, #[], rfl, Nat.le_refl _, heap_alloc_new _ _, Nat.le_refl _, by unfold maxLen; omega, by simp, by simp⟩⟩
    have qL' : (wy.alloc (.cells #[] 97)).cell? ⟨gL, 0, none⟩ = some (.slice A1 lc.length c1) := (Cs.ext HgL.out ((Ext.refl wy).alloc _)).cell 0 _ rfl
    have HL5 := Lib.hid (show lc.length + 0 ≤ 100000 by have := HL4.out; omega)
    go_upto_region 9 with (at_builtin; go_loud (refine wpList_append_row ?_ (.tmp 30) (.tmp 32) 86 rfl wy.heap.size 97 Try.underlying86 _ 11 88 hdinfo3 rfl (by decide) _ 0 [] rfl HO.out _ lc.length (hdf lc) rfl (HRS.out.ext ((Ext.refl wy).alloc _)) (hdf_one lc) (by have := HL5.out; omega) (by decide) (by simp) ?_; (exact rfl); intro v5 w5 o5 g5 b5; have O5 := Lib.hid o5; have E5 := Lib.hid (((Ext.refl wy).alloc (.cells #[] 97)).grown (g := wy.heap.size) g5 (Nat.le_refl _)); clear o5 g5 b5))
    have HOwn : Hid (OwnH w5 wy.heap.size v5 lc) := Lib.hid (by
      have := O5.out
      rw [Nat.zero_add, List.nil_append] at this
      exact ⟨this, HKL.out⟩)
    clear O5 HO HRS qL qL' HL5
    obtain ⟨A5, c5, e5, k5, k6⟩ := HOwn.out.sl
    subst e5
    replace HE := Lib.hid (HE.out.trans E5.out)
    replace HgL := Lib.hid (Cs.ext HgL.out E5.out)
    replace HS := Lib.hid (HS.out.ext E5.out)
    replace Hg6 := Lib.hid (Hg6.out.ext E5.out)
    clear E5
    have HgL5 := HgL
    have HS5 := HS
    have HOwn5 := HOwn
    have HE5 := HE
    have HX5 := Lib.hid (Ext.refl w5)
    have qL : w5.cell? ⟨gL, 0, none⟩ = some (.slice A1 lc.length c1) := HgL.out.cell 0 _ rfl
    have HRA := Lib.hid (Cs.rg Hg6.out)
    go_wp2_with ((with_reducible refine wpList_load_dd ?_ (.tmp 6) ?_ (g6) (0) (d) ?_ ?_ ?_); (exact rfl); (exact rfl); (exact rfl); (exact HRA.out))
    refine (does_any d (.slice A1 lc.length c1) lc _ HD.out HS.out).mono ?_
    rintro e wx ⟨vn, rfl, ho, he⟩
    obtain ⟨r, hr⟩ : ∃ r, doS lc d = r := ⟨_, rfl⟩
    have HRn := Lib.hid hr
    rw [hr] at ho ⊢
    clear hr
    obtain ⟨n, wd, er⟩ := r
    dsimp only at ho ⊢
    have HSn := Lib.hid ho.hds
    have HOn := Lib.hid ho
    have HV1 := Lib.hid (show vn.oneCell' = true by obtain ⟨A, c, e, _⟩ := ho.hds.len; rw [e]; rfl)
    replace HE := Lib.hid (HE.out.trans he)
    replace HgL := Lib.hid (Cs.ext HgL.out he)
    replace HS := Lib.hid (HS.out.ext he)
    replace Hg6 := Lib.hid (Hg6.out.ext he)
    replace HOwn := Lib.hid (HOwn.out.ext he)
    replace HX5 := Lib.hid (HX5.out.ext he)
    clear ho he
    go_upto_region 10 with (first
      | ((with_reducible refine wpList_store_agg ?_ ?_ 88 (.tmp 8) (.tmp 38) ?_ ldinfo wx.heap.size #[.slice none 0 0] #[vn] ?_ ?_ ?_ ?_ ?_ ?_ ?_); (exact rfl); (exact rfl); (exact rfl); (exact one_val HV1.out); (exact rfl); (exact rfl); (exact Cs.alloc (Cs.new _ _ _ _ rfl) _); (exact rfl); (exact rfl); intro wy ky gy; have KY := Lib.hid ky; have GY := Lib.hid gy; clear ky gy)
      | ((with_reducible refine wpList_store_word rfl rfl 29 (.tmp 9) (.tmp 39) rfl winfo (wx.heap.size + 1) (wc 0) wd ?_ ?_ ?_ ?_ ?_); (exact two_newE rfl); (exact rfl); (exact Cs.kept (Cs.new _ _ _ _ (by rw [World.size_alloc])) GY.out (some_ne (by omega))); (exact rfl); intro wz kz gz; have KZ := Lib.hid kz; have GZ := Lib.hid gz; clear kz gz))
    have XZ := Lib.hid (((((Ext.refl wx).alloc (.cells #[.slice none 0 0] 88)).alloc (.cells (wc 0) 29)).grown GY.out (Nat.le_refl _)).grown GZ.out (Nat.le_succ _))
    have Hgg8 := Lib.hid (Cs.kept KY.out GZ.out (some_ne (by omega)))
    have Hwg8 : Hid (Cs wz (wx.heap.size + 1) 29 (wc wd)) := Lib.hid KZ.out
    replace HSn := Lib.hid (HSn.out.ext XZ.out)
    replace HOn := Lib.hid (HOn.out.ext XZ.out)
    replace HE := Lib.hid (HE.out.trans XZ.out)
    replace HgL := Lib.hid (Cs.ext HgL.out XZ.out)
    replace HS := Lib.hid (HS.out.ext XZ.out)
    replace Hg6 := Lib.hid (Hg6.out.ext XZ.out)
    replace HOwn := Lib.hid (HOwn.out.ext XZ.out)
    replace HX5 := Lib.hid (HX5.out.ext XZ.out)
    obtain ⟨g8w, hgw⟩ : ∃ g, wx.heap.size + 1 = g := ⟨_, rfl⟩
    obtain ⟨g8, hg⟩ : ∃ g, wx.heap.size = g := ⟨_, rfl⟩
    rw [hgw] at Hwg8 ⊢
    rw [hg] at Hgg8 ⊢
    clear hg hgw KY KZ GY GZ XZ
    clear qL HRA
    have HBL := Lib.hid (show ∀ b, vn.ownBlock = some b → b < wz.heap.size from fun b hb => (HOn.out.lt b hb).2)
    have HGZ := Lib.hid (show gL < wz.heap.size from Cs.lt HgL.out)
    have qL : wz.cell? ⟨gL, 0, none⟩ = some (.slice A1 lc.length c1) := HgL.out.cell 0 _ rfl
    have HRA := Lib.hid (Cs.rg Hg6.out)
    obtain ⟨wn, hwn⟩ : ∃ wn, wz = wn := ⟨_, rfl⟩
    subst hwn
    go_wp2_with ((with_reducible refine wpList_load_dd ?_ (.tmp 6) ?_ (g6) (0) (d) ?_ ?_ ?_); (exact rfl); (exact rfl); (exact rfl); (exact HRA.out))
    refine (wants_any d (.slice A1 lc.length c1) lc _ HD.out HS.out).mono ?_
    rintro e wa ⟨vm, rfl, ho, he⟩
    rw [HRn.out] at ho ⊢
    dsimp only at ho ⊢
    have HSm := Lib.hid ho.hds
    have HOm := Lib.hid ho
    have HV2 := Lib.hid (show vm.oneCell' = true by obtain ⟨A, c, e, _⟩ := ho.hds.len; rw [e]; rfl)
    replace HE := Lib.hid (HE.out.trans he)
    replace HgL := Lib.hid (Cs.ext HgL.out he)
    replace Hgg8 := Lib.hid (Cs.ext Hgg8.out he)
    replace Hwg8 := Lib.hid (Cs.ext Hwg8.out he)
    replace HS := Lib.hid (HS.out.ext he)
    replace Hg6 := Lib.hid (Hg6.out.ext he)
    replace HOwn := Lib.hid (HOwn.out.ext he)
    replace HX5 := Lib.hid (HX5.out.ext he)
    replace HSn := Lib.hid (HSn.out.ext he)
    replace HOn := Lib.hid (HOn.out.ext he)
    clear ho he
    go_upto_region 11 with (first
      | ((with_reducible refine wpList_store_agg ?_ ?_ 88 (.tmp 11) (.tmp 45) ?_ ldinfo wa.heap.size #[.slice none 0 0] #[vm] ?_ ?_ ?_ ?_ ?_ ?_ ?_); (exact rfl); (exact rfl); (exact rfl); (exact one_val HV2.out); (exact rfl); (exact rfl); (exact Cs.alloc (Cs.new _ _ _ _ rfl) _); (exact rfl); (exact rfl); intro wb kb gb; have KY := Lib.hid kb; have GY := Lib.hid gb; clear kb gb)
      | ((with_reducible refine wpList_store_word rfl rfl 29 (.tmp 12) (.tmp 46) rfl winfo (wa.heap.size + 1) (wc 0) wd ?_ ?_ ?_ ?_ ?_); (exact two_newE rfl); (exact rfl); (exact Cs.kept (Cs.new _ _ _ _ (by rw [World.size_alloc])) GY.out (some_ne (by omega))); (exact rfl); intro wq kq gq; have KZ := Lib.hid kq; have GZ := Lib.hid gq; clear kq gq))
    have XZ := Lib.hid (((((Ext.refl wa).alloc (.cells #[.slice none 0 0] 88)).alloc (.cells (wc 0) 29)).grown GY.out (Nat.le_refl _)).grown GZ.out (Nat.le_succ _))
    have Hgg11 := Lib.hid (Cs.kept KY.out GZ.out (some_ne (by omega)))
    have Hwg11 : Hid (Cs wq (wa.heap.size + 1) 29 (wc wd)) := Lib.hid KZ.out
    replace HSm := Lib.hid (HSm.out.ext XZ.out)
    replace HOm := Lib.hid (HOm.out.ext XZ.out)
    replace HE := Lib.hid (HE.out.trans XZ.out)
    replace HgL := Lib.hid (Cs.ext HgL.out XZ.out)
    replace Hgg8 := Lib.hid (Cs.ext Hgg8.out XZ.out)
    replace Hwg8 := Lib.hid (Cs.ext Hwg8.out XZ.out)
    replace HS := Lib.hid (HS.out.ext XZ.out)
    replace Hg6 := Lib.hid (Hg6.out.ext XZ.out)
    replace HOwn := Lib.hid (HOwn.out.ext XZ.out)
    replace HX5 := Lib.hid (HX5.out.ext XZ.out)
    replace HSn := Lib.hid (HSn.out.ext XZ.out)
    replace HOn := Lib.hid (HOn.out.ext XZ.out)
    obtain ⟨g11w, hgw⟩ : ∃ g, wa.heap.size + 1 = g := ⟨_, rfl⟩
    obtain ⟨g11, hg⟩ : ∃ g, wa.heap.size = g := ⟨_, rfl⟩
    rw [hgw] at Hwg11 ⊢
    rw [hg] at Hgg11 ⊢
    clear hg hgw KY KZ GY GZ XZ
    clear qL HRA
    have qL : wq.cell? ⟨gL, 0, none⟩ = some (.slice A1 lc.length c1) := HgL.out.cell 0 _ rfl
    have q8 : wq.cell? ⟨g8, 0, none⟩ = some vn := Hgg8.out.cell 0 _ rfl
    have q11 : wq.cell? ⟨g11, 0, none⟩ = some vm := Hgg11.out.cell 0 _ rfl
    have HW8 := Lib.hid (Cs.rg Hwg8.out)
    have HW11 := Lib.hid (Cs.rg Hwg11.out)
    have HWL := Lib.hid (show wd < M256 from doS_wd HKL.out HD.out HRn.out)
    have hee : (er != er) = false := by simp
    have hee2 : (er == er) = true := by simp
    go_wp2_with (first
      | ((with_reducible refine wpList_load_wordIn ?_ (.tmp 9) ?_ g8w 0 wd ?_ ?_ ?_); (exact rfl); (exact rfl); (exact rfl); (exact HW8.out))
      | ((with_reducible refine wpList_load_wordIn ?_ (.tmp 12) ?_ g11w 0 wd ?_ ?_ ?_); (exact rfl); (exact rfl); (exact rfl); (exact HW11.out))
      | ((with_reducible refine wpList_neq_word ?_ (.tmp 52) (.tmp 53) ?_ wd wd HWL.out HWL.out ?_ ?_ ?_); (exact rfl); (exact rfl); (exact rfl); (exact rfl); rw [show (wd != wd) = false by simp]))
    refine (refSameL_any vn vm n n _ HSn.out HSm.out).mono ?_
    rintro e w8 ⟨rfl, he⟩
    replace HE := Lib.hid (HE.out.trans he)
    replace HgL := Lib.hid (Cs.ext HgL.out he)
    replace Hgg8 := Lib.hid (Cs.ext Hgg8.out he)
    replace Hwg8 := Lib.hid (Cs.ext Hwg8.out he)
    replace Hgg11 := Lib.hid (Cs.ext Hgg11.out he)
    replace Hwg11 := Lib.hid (Cs.ext Hwg11.out he)
    replace HS := Lib.hid (HS.out.ext he)
    replace Hg6 := Lib.hid (Hg6.out.ext he)
    replace HOwn := Lib.hid (HOwn.out.ext he)
    replace HX5 := Lib.hid (HX5.out.ext he)
    replace HSn := Lib.hid (HSn.out.ext he)
    replace HOn := Lib.hid (HOn.out.ext he)
    replace HSm := Lib.hid (HSm.out.ext he)
    replace HOm := Lib.hid (HOm.out.ext he)
    clear he qL q8 q11 HW8 HW11
    rw [show sameG n n = true from (sameG_iff n n).2 rfl]
    have qL : w8.cell? ⟨gL, 0, none⟩ = some (.slice A1 lc.length c1) := HgL.out.cell 0 _ rfl
    go_wp2_with fail
    refine (refSameL_any _ _ lc lc _ HS.out HOwn.out.hds).mono ?_
    rintro e w9 ⟨rfl, he⟩
    replace HE := Lib.hid (HE.out.trans he)
    replace HgL := Lib.hid (Cs.ext HgL.out he)
    replace Hgg8 := Lib.hid (Cs.ext Hgg8.out he)
    replace Hwg8 := Lib.hid (Cs.ext Hwg8.out he)
    replace Hgg11 := Lib.hid (Cs.ext Hgg11.out he)
    replace Hwg11 := Lib.hid (Cs.ext Hwg11.out he)
    replace HS := Lib.hid (HS.out.ext he)
    replace Hg6 := Lib.hid (Hg6.out.ext he)
    replace HOwn := Lib.hid (HOwn.out.ext he)
    replace HX5 := Lib.hid (HX5.out.ext he)
    replace HSn := Lib.hid (HSn.out.ext he)
    replace HOn := Lib.hid (HOn.out.ext he)
    replace HSm := Lib.hid (HSm.out.ext he)
    replace HOm := Lib.hid (HOm.out.ext he)
    clear he qL
    rw [show sameG lc lc = true from (sameG_iff lc lc).2 rfl]
    obtain ⟨A8, c8, e8, k7, k8⟩ := HOn.out.sl
    subst e8
    have q8 : w9.cell? ⟨g8, 0, none⟩ = some (.slice A8 n.length c8) := Hgg8.out.cell 0 _ rfl
    go_wp2_with fail
    clear q8
    have HI0 := Lib.hid (show LdI w5 wz.heap.size g8 g11 (.slice A8 n.length c8) vm n n w9 from ⟨rfl, HOn.out, Hgg8.out, Hgg11.out, HOm.out, HX5.out⟩)
    clear HOn Hgg8 Hgg11 HOm HX5 HgL HS HOwn HE Hwg8 Hwg11 Hg6 HSn HSm
    go_loopw [72, 14] (fun iv jv wr => ∃ j : Nat, ∃ n' : List Hd, j ≤ n.length ∧ iv = .int .i64 j ∧ Hid (LdI w5 wz.heap.size g8 g11 (.slice A8 n.length c8) vm n n' wr)) (fun iv _ _ => n.length - (intOf iv).toNat)
    case atStart => exact ⟨0, n, by omega, rfl, HI0⟩
    case round =>
      clear HI0
      obtain ⟨j, n', hj, rfl, HI⟩ := hrel
      by_cases hjl : j < n.length
      · have hdj : decide (j < n.length) = true := decide_eq_true hjl
        have hdj2 : decide ((j : Int) < (n.length : Int)) = true := decide_eq_true (by omega)
        have q8 := HI.out.2.2.1.cell 0 _ rfl
        have hnl := HI.out.1
        have HNL := Lib.hid hnl
        clear hnl
        obtain ⟨b, rfl⟩ := own_addrH HI.out.2.1.1 (by rw [HNL.out]; omega)
        obtain ⟨cur, _, hb1, hb2, _, _⟩ := own_block2H HI.out.2.1.1
        have hb3 : Cs wr b 97 cur := hb2
        have HBC := Lib.hid hb3
        have HB1 := Lib.hid hb1
        have fj : wr.frozen? ⟨b, j * 11, none⟩ = false := hb3.frozen (j * 11)
        obtain ⟨b', o', e', x0, hp0⟩ := HI.out.2.1.hds.at j (by rw [HNL.out]; exact hjl)
        injection e' with e'
        injection e' with e1' e2' _
        subst e1' e2'
        have qj : wr.cell? ⟨b, j * 11, none⟩ = some (.int .u64 ((n'.getD j hz0).addr : Nat)) := by have := hd_addr x0; rwa [Nat.zero_add] at this
        have hq1 := hp0.1
        obtain ⟨x, hx⟩ : ∃ x, (n'.getD j hz0).addr = x := ⟨_, rfl⟩
        rw [hx] at qj hq1
        have HXW := Lib.hid (show IntKind.u64.wrap ((x : Int) + 1) = (((x + 1) % 18446744073709551616 : Nat) : Int) by rw [IntKind.wrap_u64]; omega)
        clear x0 hp0 hx hq1 hb1 hb2 hb3
        go_wp2_with fail
        have hg := grown_set wr b (j * 11) (.int .u64 (((x + 1) % 18446744073709551616 : Nat) : Int))
        have hne : ∀ {g : Nat} {v : Value}, Cs wr g 88 #[v] → some g ≠ some b := fun hc e => by
          injection e with e
          subst e
          have h1 := HBC.out
          unfold Cs at h1 hc
          rw [h1] at hc
          cases hc
        refine ⟨⟨j + 1, n'.set j { n'.getD j hz0 with addr := (x + 1) % 18446744073709551616 }, by omega, by go_num, Lib.hid ?_⟩, by simp [intOf]; omega⟩
        rw [HXW.out]
        refine ⟨by rw [List.length_set]; exact HNL.out, HI.out.2.1.bump (by rw [HNL.out]; exact hjl) (Nat.mod_lt _ (by decide)), HI.out.2.2.1.kept hg (hne HI.out.2.2.1), HI.out.2.2.2.1.kept hg (hne HI.out.2.2.2.1), ⟨HI.out.2.2.2.2.1.1.kept hg (.inr (fun e => ?_)), HI.out.2.2.2.2.1.2⟩, HI.out.2.2.2.2.2.grown hg HB1.out⟩
        have h1 := (HI.out.2.2.2.2.1.lt b e).1
        have h2 := HBL.out b rfl
        omega
      · obtain rfl : j = n.length := by omega
        have hdj : decide (n.length < n.length) = false := decide_eq_false (by omega)
        have hdj2 : decide ((n.length : Int) < (n.length : Int)) = false := decide_eq_false (by omega)
        have HX := Lib.hid HI.out.2.2.2.2.2
        have HgL := Lib.hid (Cs.ext HgL5.out HX.out)
        have qL : wr.cell? ⟨gL, 0, none⟩ = some (.slice A1 lc.length c1) := HgL.out.cell 0 _ rfl
        go_wp2_with fail
        refine (refSameL_any _ _ lc lc _ (HS5.out.ext HX.out) (HOwn5.out.ext HX.out).hds).mono ?_
        rintro e wv ⟨rfl, he⟩
        rw [show sameG lc lc = true from (sameG_iff lc lc).2 rfl]
        have HXV := Lib.hid (HX.out.trans he)
        have HgV := Lib.hid (Cs.ext HgL5.out HXV.out)
        have Hg11 := Lib.hid (Cs.ext HI.out.2.2.2.1 he)
        have HOv := Lib.hid (HI.out.2.2.2.2.1.ext he)
        clear he qL HgL HX HI
        by_cases he0 : er = 0
        · subst he0
          have HRT := Lib.hid (show rightG lc = true by
            cases hr : rightG lc with
            | true => rfl
            | false =>
              have := doS_bad (l := lc) (d := d) (e := 170) (by unfold teE; rw [hr]; rfl) (by decide)
              rw [HRn.out] at this
              cases this)
          have HOW := Lib.hid (doS_own HKL.out ((rg_iff HKL.out).1 HRT.out) HD.out HRn.out)
          have q11 := Hg11.out.cell 0 _ rfl
          go_wp2_with ((with_reducible refine wpList_store_agg ?_ ?_ 88 (.tmp 2) (.tmp 92) ?_ ldinfo gL #[.slice A1 lc.length c1] #[vm] ?_ ?_ ?_ ?_ ?_ ?_ ?_); (exact rfl); (exact rfl); (exact rfl); (exact one_val HV2.out); (exact rfl); (exact rfl); (exact HgV.out); (exact rfl); (exact rfl); intro wk kk gk; have KK := Lib.hid kk; have GK := Lib.hid gk; clear kk gk)
          exact ⟨⟨k + 1, by omega, by go_num, vm, n, Lib.hid ⟨KK.out, (HOv.out.keptT GK.out HgV.out (by decide)).hds, NB.own HOv.out HGZ.out, by have := HOW.out.2.1.few; omega, (HE5.out.trans HXV.out).grown GK.out HGL.out⟩⟩, by simp [intOf]; omega⟩
        · have e1 : (er == 0) = false := by rw [beq_eq_false_iff_ne]; exact he0
          clear he0
          go_wp2_with fail
          exact ⟨⟨k + 1, by omega, by go_num, _, lc, Lib.hid ⟨HgV.out, HS5.out.ext HXV.out, HNB.out, HL4.out, HE5.out.trans HXV.out⟩⟩, by simp [intOf]; omega⟩
set_option maxRecDepth 100000 in
theorem ledgerDoes_told (W : World) (args : Array Value) (h : Told Try.f11 W args) : Calls Try.prog 11 args W (RetT W) := by
  obtain ⟨H, enc, base, ds, p, hval, hA⟩ := h
  rw [Try.params11] at hA hval
  obtain ⟨v0, v1, d0, d1, p0, p1, rfl, rfl, rfl, h0, h1⟩ := trodAll_two hA
  obtain ⟨s0, x0, rfl, hx0⟩ := ledger_came (hval 0 _ v0 rfl rfl) h0
  obtain ⟨A, n, c, rfl⟩ := okWide_slice Try.underlying89 (hval 1 _ v1 rfl rfl)
  obtain ⟨l, hl⟩ := deeds_came h1 rfl
  exact ledgerDoes_any s0 _ x0 l W hx0 hl

set_option maxRecDepth 100000 in
theorem ledgerDoes_spec (H : Type) : ∀ ds : List (DataW H), ds.length = Try.f11.params.toList.length → Rows.ledgerDoesSpec.fn H ds = { results := [.lit (.bool true)], args := ds }
  | [_, _], _ => rfl
  | [], h | [_], h | _ :: _ :: _ :: _, h => by rw [Try.params11] at h; simp at h

set_option maxRecDepth 100000 in
theorem ledgerDoes_holds : Rows.LedgerDoesSaid :=
  OpenClaim.holds_of_wide 11 Try.f11 rfl rfl rfl rfl rfl rfl rfl ⟨rfl, rfl, rfl, rfl, rfl⟩ rfl rfl rfl rfl rfl (by kernel_rfl) Try.func11 (by kernel_rfl)
    (of_decide_eq_true (by kernel_rfl)) (by unfold Func.isWrapper; first | (rw [if_pos (by decide +kernel)]; kernel_rfl) | (rw [if_neg (by decide +kernel)]; exact ⟨rfl, rfl⟩))
    (fun os started H enc _ => law_lifted started (by kernel_rfl) Try.func11 rfl rfl (ledgerDoes_spec H) (of_decide_eq_true (by kernel_rfl))
      (ChangeSpec.witness6 (enc := enc) (C := Try.checked) false ⟨#[], #[.agg #[.slice none 0 0], .slice none 0 0], []⟩ 8 (by kernel_rfl) (by kernel_rfl) (by kernel_rfl) (by kernel_rfl)) ledgerDoes_told)
end Go.Proofs.Ytepggbhibpjkpaa
