/- Layer 7: what the document says of a deed. -/
import Derived.Test.YtepggbhibpjkpaaLri
import Derived.Test.YtepggbhibpjkpaaLhl
namespace Go.Proofs.Ytepggbhibpjkpaa
open Go.ChangeShapes Go.WideShapes Go.ChangeAt Go.RowKit Go.Shelf

set_option maxRecDepth 100000 in
theorem doS_bad {l : List Hd} {d : Dd} {e : Int} (he : teE l d.addr = e) (hn : e ≠ 0) : doS l d = ([], 0, e) := by
  have h1 : taE l d.addr d.now = e := by unfold taE; rw [he, if_neg (fun x => hn x.1)]
  unfold doS depS wdrS bndS ulkS relS
  rw [he, h1]
  simp only [if_pos hn]
  simp
set_option maxRecDepth 100000 in
set_option maxHeartbeats 4000000 in
theorem wants_any (d : Dd) (v : Value) (l : List Hd) (w : World) (hd : d.ok) (hs : Hds w v l) : Calls Try.prog 42 #[.agg (ddc d), .agg #[v]] w (RetR w (doS l d)) := by
  have HD := Lib.hid hd
  have HS := Lib.hid hs
  obtain ⟨w0, hw0⟩ : ∃ w0, (((w.alloc (.cells (ddc d) 92)).alloc (.cells #[v] 88)).alloc (.cells #[.slice none 0 0] 88)).alloc (.cells (wc 0) 29) = w0 := ⟨_, rfl⟩
  have HW0 := Lib.hid hw0
  have HG2 : Hid (Cs w0 w.heap.size 92 (ddc d)) := Lib.hid (by rw [← hw0]; exact Cs.alloc (Cs.alloc (Cs.alloc (Cs.new _ _ _ _ rfl) _) _) _)
  have HG3 : Hid (Cs w0 (w.heap.size + 1) 88 #[v]) := Lib.hid (by rw [← hw0]; exact Cs.alloc (Cs.alloc (Cs.new _ _ _ _ (by rw [World.size_alloc])) _) _)
  have HR : Hid (Cs w0 (w.heap.size + 2) 88 #[.slice none 0 0]) := Lib.hid (by rw [← hw0]; exact Cs.alloc (Cs.new _ _ _ _ (by rw [World.size_alloc, World.size_alloc])) _)
  have HZ : Hid (Cs w0 (w.heap.size + 3) 29 (wc 0)) := Lib.hid (by rw [← hw0]; exact Cs.new _ _ _ _ (by rw [World.size_alloc, World.size_alloc, World.size_alloc]))
  have HE : Hid (Ext w w0) := Lib.hid (by rw [← hw0]; exact ((((Ext.refl w).alloc _).alloc _).alloc _).alloc _)
  have HK := Lib.hid (kdD_cases d)
  have HSP : Hid (doS l d = if kdD d = 0 then ((depS l d.addr d.n).1, 0, (depS l d.addr d.n).2) else if kdD d = 1 then ((wdrS l d.addr d.n).1, 0, (wdrS l d.addr d.n).2) else if kdD d = 2 then ((bndS l d.addr d.n d.dly).1, 0, (bndS l d.addr d.n d.dly).2) else if kdD d = 3 then ((ulkS l d.addr d.now).1, 0, (ulkS l d.addr d.now).2) else relS l d.addr d.now) := Lib.hid rfl
  have HRW := Lib.hid (relS_word hs.oks hd.2.1 (n := d.now))
  have HOKS := Lib.hid hs.oks
  have HBAD := Lib.hid (fun (e : Int) => doS_bad (l := l) (d := d) (e := e))
  clear hs hd hw0
  obtain ⟨dc, hdc'⟩ : ∃ dc, ddc d = dc := ⟨_, rfl⟩
  have HDC := Lib.hid hdc'
  rw [hdc'] at HW0 ⊢
  clear hdc'
  go_enter Try.func42, Try.ntmps42
  go_upto_region 1 with fail
  rw [← wc_zero, HW0.out]
  clear HW0
  obtain ⟨g2, hg2⟩ : ∃ g, w.heap.size = g := ⟨_, rfl⟩
  obtain ⟨g3, hg3⟩ : ∃ g, w.heap.size + 1 = g := ⟨_, rfl⟩
  obtain ⟨gR, hgR⟩ : ∃ g, w.heap.size + 2 = g := ⟨_, rfl⟩
  obtain ⟨gZ, hgZ⟩ : ∃ g, w.heap.size + 3 = g := ⟨_, rfl⟩
  have HN := Lib.hid (show w.heap.size ≤ gR ∧ w.heap.size ≤ gZ ∧ gR ≠ gZ by omega)
  rw [hgZ] at HZ ⊢
  rw [hgR] at HR ⊢
  rw [hg3] at HG3 ⊢
  rw [hg2] at HG2 ⊢
  clear hg2 hg3 hgR hgZ
  have q3 := HG3.out.cell 0 _ rfl
  go_wp2_with fail
  refine (refRight_any v l _ (HS.out.ext HE.out)).mono ?_
  rintro e w1 ⟨rfl, he⟩
  have HX := Lib.hid he
  clear he q3
  cases hr : rightG l with
  | false =>
    have HSQ := Lib.hid (show doS l d = ([], 0, 170) from HBAD.out _ (by unfold teE; rw [hr]; rfl) (by decide))
    have HJ := Lib.hid (show OwnH w1 w0.heap.size (.slice none 0 0) [] ∧ Cs w1 gR 88 #[.slice none 0 0] ∧ Cs w1 gZ 29 (wc 0) ∧ Ext w w1 from ⟨OwnH.nil _ _, Cs.ext HR.out HX.out, Cs.ext HZ.out HX.out, HE.out.trans HX.out⟩)
    obtain ⟨v', hv'⟩ : ∃ v', Value.slice none 0 0 = v' := ⟨_, rfl⟩
    have HV1 := Lib.hid (show v'.oneCell' = true by rw [← hv']; rfl)
    rw [hv'] at HJ
    clear hv'
    go_upto_region 2 with fail
    refine wp_named fun a0 ha0 => ?_
    obtain ⟨fr, hfr⟩ : ∃ fr : (Nat → Value) → Act, ∀ V, fr V = (((a0.put (some 10) (V 0)).put (some 11) (V 1)).put (some 6) (V 4)) := ⟨fun V => (((a0.put (some 10) (V 0)).put (some 11) (V 1)).put (some 6) (V 4)), fun _ => rfl⟩
    rw [ha0] at hfr
    simp only [Act.put, List.setIfInBounds_toArray, List.set_cons_zero, List.set_cons_succ] at hfr
    have HFR := Lib.hid hfr
    clear hfr
    refine wp_region_inv (by kernel_rfl) (by kernel_rfl) (fun L A W => ∃ V : Nat → Value, A = fr V ∧ Vals (fun j => ([some (.agg #[v']), some (wv 0), none, none, some (.int .i64 170)] : List (Option Value)).getD j none) L V ∧ (OwnH W w0.heap.size v' [] ∧ Cs W gR 88 #[v'] ∧ Cs W gZ 29 (wc 0) ∧ Ext w W)) ?_ ⟨?_, ?_, ?_, ?_, ?_, trivial⟩ ?_
    · refine ⟨fun j => a0.tmps.getD (([10, 11, 0, 0, 6] : List Nat).getD j 0) undef, ?_, Vals.no _ _ _ (far_none _ _ rfl), ⟨HJ.out.1.ext (Ext.refl _).drew, Cs.ext HJ.out.2.1 (Ext.refl _).drew, Cs.ext HJ.out.2.2.1 (Ext.refl _).drew, HJ.out.2.2.2.drew⟩⟩
      rw [HFR.out, ha0]
      rfl
    all_goals clear ha0
    · rintro L A W K hL hC hW ⟨V, rfl, HV, s0⟩ hK
      have hB := s0
      have H := Lib.hid (show ∀ W', Ext W W' → K (fr (upd V 0 (.agg #[v']))) W' from fun W' he => hK _ _ ⟨upd V 0 (.agg #[v']), rfl, HV.up 0 _ (fun x hx => Option.some.inj hx), DoK.ext s0 he⟩)
      clear hK hC hW hL HV s0
      rw [HFR.out]
      have hcl := hB.2.1.cell 0 _ rfl
      clear hB
      go_wp2_with fail
      show K _ _
      have := H.out _ (Ext.refl _)
      rw [HFR.out] at this
      exact this
    · rintro L A W K hL hC hW ⟨V, rfl, HV, s0⟩ hK
      have hB := s0
      have H := Lib.hid (show ∀ W', Ext W W' → K (fr (upd V 1 (wv 0))) W' from fun W' he => hK _ _ ⟨upd V 1 (wv 0), rfl, HV.up 1 _ (fun x hx => Option.some.inj hx), DoK.ext s0 he⟩)
      clear hK hC hW hL HV s0
      rw [HFR.out]
      have HWW := Lib.hid (Cs.rg hB.2.2.1)
      clear hB
      refine wpList_load_wordIn rfl (.tmp 5) rfl gZ 0 0 rfl HWW.out ?_
      show K _ _
      have := H.out _ (Ext.refl _)
      rw [HFR.out] at this
      exact this
    · rintro L A W K hL hC hW ⟨V, rfl, HV, s0⟩ hK
      have e0 : V 0 = .agg #[v'] := HV 0 _ rfl (hW 0 rfl)
      have hB := s0
      have H := Lib.hid (show ∀ W', Ext W W' → K (fr (V)) W' from fun W' he => hK _ _ ⟨V, rfl, HV.st 2 rfl, DoK.ext s0 he⟩)
      have HU := Lib.hid (show (V) 0 = .agg #[v'] from e0)
      clear hK hC hW hL HV s0
      rw [HFR.out]
      rw [e0]
      clear e0
      have HJ' := Lib.hid hB
      clear hB
      refine wpList_store_agg rfl rfl 88 (.tmp 4) (.tmp 10) rfl ldinfo gR #[v'] #[v'] (one_val HV1.out) rfl rfl HJ'.out.2.1 rfl rfl ?_
      intro w' kk gg
      have he := ext_same HJ'.out.2.1 kk gg
      show K _ _
      have := H.out _ he
      rw [HFR.out] at this
      obtain u0 := HU.out
      rw [u0] at this
      exact this
    · rintro L A W K hL hC hW ⟨V, rfl, HV, s0⟩ hK
      have e1 : V 1 = wv 0 := HV 1 _ rfl (hW 1 rfl)
      have hB := s0
      have H := Lib.hid (show ∀ W', Ext W W' → K (fr (V)) W' from fun W' he => hK _ _ ⟨V, rfl, HV.st 3 rfl, DoK.ext s0 he⟩)
      have HU := Lib.hid (show (V) 1 = wv 0 from e1)
      clear hK hC hW hL HV s0
      rw [HFR.out]
      rw [e1]
      clear e1
      have HJ' := Lib.hid hB
      clear hB
      refine wpList_store_word rfl rfl 29 (.tmp 5) (.tmp 11) rfl winfo gZ (wc 0) 0 rfl rfl HJ'.out.2.2.1 rfl ?_
      intro w' kk gg
      have he := ext_same HJ'.out.2.2.1 kk gg
      show K _ _
      have := H.out _ he
      rw [HFR.out] at this
      obtain u1 := HU.out
      rw [u1] at this
      exact this
    · rintro L A W K hL hC hW ⟨V, rfl, HV, s0⟩ hK
      have H := Lib.hid (show ∀ W', Ext W W' → K (fr (upd V 4 (.int .i64 170))) W' from fun W' he => hK _ _ ⟨upd V 4 (.int .i64 170), rfl, HV.up 4 _ (fun x hx => Option.some.inj hx), DoK.ext s0 he⟩)
      clear hK hC hW hL HV s0
      rw [HFR.out]
      go_wp2_with fail
      show K _ _
      have := H.out _ (Ext.refl _)
      rw [HFR.out] at this
      exact this
    · rintro L A W hL ⟨V, rfl, HV, s0⟩
      have e0 : V 0 = .agg #[v'] := HV 0 _ rfl (hL 0 (by simp))
      have e1 : V 1 = wv 0 := HV 1 _ rfl (hL 1 (by simp))
      have e4 : V 4 = .int .i64 170 := HV 4 _ rfl (hL 4 (by simp))
      have hA := s0
      rw [HFR.out]
      rw [e0, e1, e4]
      clear hL HV HFR e0 e1 e4 s0
      have HX := Lib.hid hA
      clear hA
      go_wp2_with fail
      refine bodyPost_ret (results_ldw_tmp Try.results42 _ _ gR gZ v' 0 rfl HX.out.2.1 rfl HX.out.2.2.1) rfl ?_
      exact ⟨v', by rw [HSQ.out]; rfl, by rw [HSQ.out]; exact HX.out.1.mono HE.out.size, HX.out.2.2.2⟩
  | true =>
    have HRG := Lib.hid ((rg_iff HOKS.out).1 hr)
    have HTE := Lib.hid (show teE l d.addr = if d.addr = 0 then 2 else 0 from teE_eq hr d.addr)
    have q0 := (Cs.ext HG2.out HX.out).cell 0 _ (show (ddc d)[0]? = some (.int .i64 d.kind) from rfl)
    have q1 := (Cs.ext HG2.out HX.out).cell 1 _ (show (ddc d)[1]? = some (.int .u64 (d.addr : Nat)) from rfl)
    clear hr
    by_cases ha : d.addr = 0
    · have e1 : ((d.addr : Int) == 0) = true := by rw [beq_iff_eq]; omega
      have e2 : (d.addr == 0) = true := by rw [beq_iff_eq]; exact ha
      have HTE2 := Lib.hid (HTE.out.trans (if_pos ha))
      clear ha
      have HSQ := Lib.hid (show doS l d = ([], 0, 2) from HBAD.out _ HTE2.out (by decide))
      have HJ := Lib.hid (show OwnH w1 w0.heap.size (.slice none 0 0) [] ∧ Cs w1 gR 88 #[.slice none 0 0] ∧ Cs w1 gZ 29 (wc 0) ∧ Ext w w1 from ⟨OwnH.nil _ _, Cs.ext HR.out HX.out, Cs.ext HZ.out HX.out, HE.out.trans HX.out⟩)
      obtain ⟨v', hv'⟩ : ∃ v', Value.slice none 0 0 = v' := ⟨_, rfl⟩
      have HV1 := Lib.hid (show v'.oneCell' = true by rw [← hv']; rfl)
      rw [hv'] at HJ
      clear hv'
      go_upto_region 4 with fail
      clear e1 e2 q0 q1
      refine wp_named fun a0 ha0 => ?_
      obtain ⟨fr, hfr⟩ : ∃ fr : (Nat → Value) → Act, ∀ V, fr V = (((a0.put (some 15) (V 0)).put (some 16) (V 1)).put (some 6) (V 4)) := ⟨fun V => (((a0.put (some 15) (V 0)).put (some 16) (V 1)).put (some 6) (V 4)), fun _ => rfl⟩
      rw [ha0] at hfr
      simp only [Act.put, List.setIfInBounds_toArray, List.set_cons_zero, List.set_cons_succ] at hfr
      have HFR := Lib.hid hfr
      clear hfr
      refine wp_region_inv (by kernel_rfl) (by kernel_rfl) (fun L A W => ∃ V : Nat → Value, A = fr V ∧ Vals (fun j => ([some (.agg #[v']), some (wv 0), none, none, some (.int .i64 2)] : List (Option Value)).getD j none) L V ∧ (OwnH W w0.heap.size v' [] ∧ Cs W gR 88 #[v'] ∧ Cs W gZ 29 (wc 0) ∧ Ext w W)) ?_ ⟨?_, ?_, ?_, ?_, ?_, trivial⟩ ?_
      · refine ⟨fun j => a0.tmps.getD (([15, 16, 0, 0, 6] : List Nat).getD j 0) undef, ?_, Vals.no _ _ _ (far_none _ _ rfl), ⟨HJ.out.1.ext (Ext.refl _).drew, Cs.ext HJ.out.2.1 (Ext.refl _).drew, Cs.ext HJ.out.2.2.1 (Ext.refl _).drew, HJ.out.2.2.2.drew⟩⟩
        rw [HFR.out, ha0]
        rfl
      all_goals clear ha0
      · rintro L A W K hL hC hW ⟨V, rfl, HV, s0⟩ hK
        have hB := s0
        have H := Lib.hid (show ∀ W', Ext W W' → K (fr (upd V 0 (.agg #[v']))) W' from fun W' he => hK _ _ ⟨upd V 0 (.agg #[v']), rfl, HV.up 0 _ (fun x hx => Option.some.inj hx), DoK.ext s0 he⟩)
        clear hK hC hW hL HV s0
        rw [HFR.out]
        have hcl := hB.2.1.cell 0 _ rfl
        clear hB
        go_wp2_with fail
        show K _ _
        have := H.out _ (Ext.refl _)
        rw [HFR.out] at this
        exact this
      · rintro L A W K hL hC hW ⟨V, rfl, HV, s0⟩ hK
        have hB := s0
        have H := Lib.hid (show ∀ W', Ext W W' → K (fr (upd V 1 (wv 0))) W' from fun W' he => hK _ _ ⟨upd V 1 (wv 0), rfl, HV.up 1 _ (fun x hx => Option.some.inj hx), DoK.ext s0 he⟩)
        clear hK hC hW hL HV s0
        rw [HFR.out]
        have HWW := Lib.hid (Cs.rg hB.2.2.1)
        clear hB
        refine wpList_load_wordIn rfl (.tmp 5) rfl gZ 0 0 rfl HWW.out ?_
        show K _ _
        have := H.out _ (Ext.refl _)
        rw [HFR.out] at this
        exact this
      · rintro L A W K hL hC hW ⟨V, rfl, HV, s0⟩ hK
        have e0 : V 0 = .agg #[v'] := HV 0 _ rfl (hW 0 rfl)
        have hB := s0
        have H := Lib.hid (show ∀ W', Ext W W' → K (fr (V)) W' from fun W' he => hK _ _ ⟨V, rfl, HV.st 2 rfl, DoK.ext s0 he⟩)
        have HU := Lib.hid (show (V) 0 = .agg #[v'] from e0)
        clear hK hC hW hL HV s0
        rw [HFR.out]
        rw [e0]
        clear e0
        have HJ' := Lib.hid hB
        clear hB
        refine wpList_store_agg rfl rfl 88 (.tmp 4) (.tmp 15) rfl ldinfo gR #[v'] #[v'] (one_val HV1.out) rfl rfl HJ'.out.2.1 rfl rfl ?_
        intro w' kk gg
        have he := ext_same HJ'.out.2.1 kk gg
        show K _ _
        have := H.out _ he
        rw [HFR.out] at this
        obtain u0 := HU.out
        rw [u0] at this
        exact this
      · rintro L A W K hL hC hW ⟨V, rfl, HV, s0⟩ hK
        have e1 : V 1 = wv 0 := HV 1 _ rfl (hW 1 rfl)
        have hB := s0
        have H := Lib.hid (show ∀ W', Ext W W' → K (fr (V)) W' from fun W' he => hK _ _ ⟨V, rfl, HV.st 3 rfl, DoK.ext s0 he⟩)
        have HU := Lib.hid (show (V) 1 = wv 0 from e1)
        clear hK hC hW hL HV s0
        rw [HFR.out]
        rw [e1]
        clear e1
        have HJ' := Lib.hid hB
        clear hB
        refine wpList_store_word rfl rfl 29 (.tmp 5) (.tmp 16) rfl winfo gZ (wc 0) 0 rfl rfl HJ'.out.2.2.1 rfl ?_
        intro w' kk gg
        have he := ext_same HJ'.out.2.2.1 kk gg
        show K _ _
        have := H.out _ he
        rw [HFR.out] at this
        obtain u1 := HU.out
        rw [u1] at this
        exact this
      · rintro L A W K hL hC hW ⟨V, rfl, HV, s0⟩ hK
        have H := Lib.hid (show ∀ W', Ext W W' → K (fr (upd V 4 (.int .i64 2))) W' from fun W' he => hK _ _ ⟨upd V 4 (.int .i64 2), rfl, HV.up 4 _ (fun x hx => Option.some.inj hx), DoK.ext s0 he⟩)
        clear hK hC hW hL HV s0
        rw [HFR.out]
        go_wp2_with fail
        show K _ _
        have := H.out _ (Ext.refl _)
        rw [HFR.out] at this
        exact this
      · rintro L A W hL ⟨V, rfl, HV, s0⟩
        have e0 : V 0 = .agg #[v'] := HV 0 _ rfl (hL 0 (by simp))
        have e1 : V 1 = wv 0 := HV 1 _ rfl (hL 1 (by simp))
        have e4 : V 4 = .int .i64 2 := HV 4 _ rfl (hL 4 (by simp))
        have hA := s0
        rw [HFR.out]
        rw [e0, e1, e4]
        clear hL HV HFR e0 e1 e4 s0
        have HX := Lib.hid hA
        clear hA
        go_wp2_with fail
        refine bodyPost_ret (results_ldw_tmp Try.results42 _ _ gR gZ v' 0 rfl HX.out.2.1 rfl HX.out.2.2.1) rfl ?_
        exact ⟨v', by rw [HSQ.out]; rfl, by rw [HSQ.out]; exact HX.out.1.mono HE.out.size, HX.out.2.2.2⟩
    have e1 : ((d.addr : Int) == 0) = false := by rw [beq_eq_false_iff_ne]; omega
    have e2 : (d.addr == 0) = false := by rw [beq_eq_false_iff_ne]; exact ha
    have HA0 := Lib.hid ha
    clear ha
    have q3 := (Cs.ext HG3.out HX.out).cell 0 _ rfl
    have q6 := (Cs.ext HG2.out HX.out).cell 6 _ (show (ddc d)[6]? = some (.int .u64 (d.dly : Nat)) from rfl)
    have q7 := (Cs.ext HG2.out HX.out).cell 7 _ (show (ddc d)[7]? = some (.int .u64 (d.now : Nat)) from rfl)
    have HWD := Lib.hid (dd_word (Cs.ext HG2.out HX.out))
    have HLEN := Lib.hid (show l.length ≤ 1000 by have := HRG.out.few; omega)
    go_upto_region 7 with fail
    rw [show (IntKind.u64.wrap d.kind).tmod 5 = kdD d from rfl]
    clear e1 e2 q0
    rcases HK.out with hk | hk | hk | hk | hk
    · have HSQ := Lib.hid (show doS l d = ((depS l d.addr d.n).1, 0, (depS l d.addr d.n).2) by rw [HSP.out, if_pos hk])
      have HC := Lib.hid (show ∀ W, Hds W v l → Calls Try.prog 85 #[.agg #[v], .int .u64 (d.addr : Nat), wv d.n] W (RetG W (depS l d.addr d.n)) from fun W hW => by
        have C := refDeposit_any v l d.addr d.n W hW HRG.out.rise HLEN.out HD.out.2.1 HD.out.2.2.1
        rw [dep_eq HOKS.out HRG.out HA0.out HD.out.2.1 HD.out.2.2.1] at C
        exact C)
      rw [hk]
      clear hk HSP
      go_wp2_with ((with_reducible refine wpList_load_wordIn ?_ (.tmp 37) ?_ g2 2 (d.n) ?_ ?_ ?_); (exact rfl); (exact rfl); (exact rfl); (exact HWD.out))
      refine (HC.out _ (HS.out.ext (HE.out.trans HX.out))).mono ?_
      rintro e w5 ⟨v', rfl, ho, he⟩
      clear HC
      obtain ⟨r, hr⟩ : ∃ r, depS l d.addr d.n = r := ⟨_, rfl⟩
      rw [hr] at HSQ ho ⊢
      clear hr
      obtain ⟨m, er⟩ := r
      dsimp only at HSQ ho ⊢
      have HO := Lib.hid (ho.mono HX.out.size)
      have HX5 := Lib.hid (HX.out.trans he)
      have HRX := Lib.hid (Cs.ext HR.out HX5.out)
      have HV1 := Lib.hid (show v'.oneCell' = true by obtain ⟨A, c, e, _⟩ := ho.hds.len; rw [e]; rfl)
      clear ho he
      go_upto_region 15 with ((with_reducible refine wpList_store_agg ?_ ?_ 88 (.tmp 4) (.tmp 40) ?_ ldinfo gR #[.slice none 0 0] #[v'] ?_ ?_ ?_ ?_ ?_ ?_ ?_); (exact rfl); (exact rfl); (exact rfl); (exact one_val HV1.out); (exact rfl); (exact rfl); (exact HRX.out); (exact rfl); (exact rfl); intro w9 k9 g9; have K9 := Lib.hid k9; have G9 := Lib.hid g9; clear k9 g9)
      have HJ := Lib.hid (show OwnH w9 w0.heap.size v' m ∧ Cs w9 gR 88 #[v'] ∧ Cs w9 gZ 29 (wc 0) ∧ Ext w w9 from ⟨HO.out.keptT G9.out HRX.out (by decide), K9.out, Cs.kept (Cs.ext HZ.out HX5.out) G9.out (some_ne (fun e => HN.out.2.2 e.symm)), (HE.out.trans HX5.out).grown G9.out HN.out.1⟩)
      clear HO HX5 HRX K9 G9 q1 q3 q6 q7
      go_upto_region 15 with fail
      refine wp_named fun a0 ha0 => ?_
      obtain ⟨fr, hfr⟩ : ∃ fr : (Nat → Value) → Act, ∀ V, fr V = ((((a0.put (some 77) (V 0)).put (some 78) (V 1)).put (some 79) (V 2)).put (some 6) (V 5)) := ⟨fun V => ((((a0.put (some 77) (V 0)).put (some 78) (V 1)).put (some 79) (V 2)).put (some 6) (V 5)), fun _ => rfl⟩
      rw [ha0] at hfr
      simp only [Act.put, List.setIfInBounds_toArray, List.set_cons_zero, List.set_cons_succ] at hfr
      have HFR := Lib.hid hfr
      clear hfr
      refine wp_region_inv (by kernel_rfl) (by kernel_rfl) (fun L A W => ∃ V : Nat → Value, A = fr V ∧ Vals (fun j => ([some (.agg #[v']), some (wv 0), some (.int .i64 er), none, none, some (.int .i64 er)] : List (Option Value)).getD j none) L V ∧ (L 5 = false → OwnH W w0.heap.size v' m ∧ Cs W gR 88 #[v'] ∧ Cs W gZ 29 (wc 0) ∧ Ext w W ∧ V 5 = .int .i64 er) ∧ (L 5 = true → OwnH W w0.heap.size v' m ∧ Cs W gR 88 #[v'] ∧ Cs W gZ 29 (wc 0) ∧ Ext w W)) ?_ ⟨?_, ?_, ?_, ?_, ?_, ?_, trivial⟩ ?_
      · refine ⟨fun j => a0.tmps.getD (([77, 78, 79, 0, 0, 6] : List Nat).getD j 0) undef, ?_, Vals.no _ _ _ (far_none _ _ rfl), fun _ => ⟨HJ.out.1.ext (Ext.refl _).drew, Cs.ext HJ.out.2.1 (Ext.refl _).drew, Cs.ext HJ.out.2.2.1 (Ext.refl _).drew, HJ.out.2.2.2.drew, by show a0.tmps.getD 6 undef = _; rw [ha0]; rfl⟩, fun h0 => absurd h0 (by decide)⟩
        rw [HFR.out, ha0]
        rfl
      all_goals clear ha0
      · rintro L A W K hL hC hW ⟨V, rfl, HV, s0, s1⟩ hK
        have hB := s0 (hC.no hL 5 _ rfl rfl)
        have H := Lib.hid (show ∀ W', Ext W W' → K (fr (upd V 0 (.agg #[v']))) W' from fun W' he => hK _ _ ⟨upd V 0 (.agg #[v']), rfl, HV.up 0 _ (fun x hx => Option.some.inj hx), fun h0 => DoJ.ext (s0 (by unfold More at h0; rwa [if_neg (by decide)] at h0)) he, fun h0 => DoK.ext (s1 (more_ne h0 rfl)) he⟩)
        clear hK hC hW hL HV s0 s1
        rw [HFR.out]
        have hcl := hB.2.1.cell 0 _ rfl
        clear hB
        go_wp2_with fail
        show K _ _
        have := H.out _ (Ext.refl _)
        rw [HFR.out] at this
        exact this
      · rintro L A W K hL hC hW ⟨V, rfl, HV, s0, s1⟩ hK
        have hB := s0 (hC.no hL 5 _ rfl rfl)
        have H := Lib.hid (show ∀ W', Ext W W' → K (fr (upd V 1 (wv 0))) W' from fun W' he => hK _ _ ⟨upd V 1 (wv 0), rfl, HV.up 1 _ (fun x hx => Option.some.inj hx), fun h0 => DoJ.ext (s0 (by unfold More at h0; rwa [if_neg (by decide)] at h0)) he, fun h0 => DoK.ext (s1 (more_ne h0 rfl)) he⟩)
        clear hK hC hW hL HV s0 s1
        rw [HFR.out]
        have HWW := Lib.hid (Cs.rg hB.2.2.1)
        clear hB
        refine wpList_load_wordIn rfl (.tmp 5) rfl gZ 0 0 rfl HWW.out ?_
        show K _ _
        have := H.out _ (Ext.refl _)
        rw [HFR.out] at this
        exact this
      · rintro L A W K hL hC hW ⟨V, rfl, HV, s0, s1⟩ hK
        have hB := s0 (hC.no hL 5 _ rfl rfl)
        have e5 : V 5 = .int .i64 er := hB.2.2.2.2
        have H := Lib.hid (show ∀ W', Ext W W' → K (fr (upd V 2 (.int .i64 er))) W' from fun W' he => hK _ _ ⟨upd V 2 (.int .i64 er), rfl, HV.up 2 _ (fun x hx => Option.some.inj hx), fun h0 => DoJ.ext (s0 (by unfold More at h0; rwa [if_neg (by decide)] at h0)) he, fun h0 => DoK.ext (s1 (more_ne h0 rfl)) he⟩)
        have HU := Lib.hid (show (upd V 2 (.int .i64 er)) 5 = .int .i64 er from e5)
        clear hK hC hW hL HV s0 s1
        rw [HFR.out]
        rw [e5]
        clear e5
        clear hB
        go_wp2_with fail
        show K _ _
        have := H.out _ (Ext.refl _)
        rw [HFR.out] at this
        obtain u5 := HU.out
        rw [u5] at this
        exact this
      · rintro L A W K hL hC hW ⟨V, rfl, HV, s0, s1⟩ hK
        have e0 : V 0 = .agg #[v'] := HV 0 _ rfl (hW 0 rfl)
        have hB := s0 (hC.no hL 5 _ rfl rfl)
        have H := Lib.hid (show ∀ W', Ext W W' → K (fr (V)) W' from fun W' he => hK _ _ ⟨V, rfl, HV.st 3 rfl, fun h0 => DoJ.ext (s0 (by unfold More at h0; rwa [if_neg (by decide)] at h0)) he, fun h0 => DoK.ext (s1 (more_ne h0 rfl)) he⟩)
        have HU := Lib.hid (show (V) 0 = .agg #[v'] from e0)
        clear hK hC hW hL HV s0 s1
        rw [HFR.out]
        rw [e0]
        clear e0
        have HJ' := Lib.hid hB
        clear hB
        refine wpList_store_agg rfl rfl 88 (.tmp 4) (.tmp 77) rfl ldinfo gR #[v'] #[v'] (one_val HV1.out) rfl rfl HJ'.out.2.1 rfl rfl ?_
        intro w' kk gg
        have he := ext_same HJ'.out.2.1 kk gg
        show K _ _
        have := H.out _ he
        rw [HFR.out] at this
        obtain u0 := HU.out
        rw [u0] at this
        exact this
      · rintro L A W K hL hC hW ⟨V, rfl, HV, s0, s1⟩ hK
        have e1 : V 1 = wv 0 := HV 1 _ rfl (hW 1 rfl)
        have hB := s0 (hC.no hL 5 _ rfl rfl)
        have H := Lib.hid (show ∀ W', Ext W W' → K (fr (V)) W' from fun W' he => hK _ _ ⟨V, rfl, HV.st 4 rfl, fun h0 => DoJ.ext (s0 (by unfold More at h0; rwa [if_neg (by decide)] at h0)) he, fun h0 => DoK.ext (s1 (more_ne h0 rfl)) he⟩)
        have HU := Lib.hid (show (V) 1 = wv 0 from e1)
        clear hK hC hW hL HV s0 s1
        rw [HFR.out]
        rw [e1]
        clear e1
        have HJ' := Lib.hid hB
        clear hB
        refine wpList_store_word rfl rfl 29 (.tmp 5) (.tmp 78) rfl winfo gZ (wc 0) 0 rfl rfl HJ'.out.2.2.1 rfl ?_
        intro w' kk gg
        have he := ext_same HJ'.out.2.2.1 kk gg
        show K _ _
        have := H.out _ he
        rw [HFR.out] at this
        obtain u1 := HU.out
        rw [u1] at this
        exact this
      · rintro L A W K hL hC hW ⟨V, rfl, HV, s0, s1⟩ hK
        have e2 : V 2 = .int .i64 er := HV 2 _ rfl (hW 2 rfl)
        have hB := s0 hL
        have H := Lib.hid (show ∀ W', (OwnH W' w0.heap.size v' m ∧ Cs W' gR 88 #[v'] ∧ Cs W' gZ 29 (wc 0) ∧ Ext w W') → K (fr (upd V 5 (.int .i64 er))) W' from fun W' hA => hK _ _ ⟨upd V 5 (.int .i64 er), rfl, HV.up 5 _ (fun x hx => Option.some.inj hx), fun h0 => absurd h0 (by unfold More; rw [if_pos rfl]; simp), fun h0 => hA⟩)
        have HU := Lib.hid (show (upd V 5 (.int .i64 er)) 2 = .int .i64 er from e2)
        clear hK hC hW hL HV s0 s1
        rw [HFR.out]
        rw [e2]
        clear e2
        have HA := Lib.hid (show OwnH W w0.heap.size v' m ∧ Cs W gR 88 #[v'] ∧ Cs W gZ 29 (wc 0) ∧ Ext w W from ⟨hB.1, hB.2.1, hB.2.2.1, hB.2.2.2.1⟩)
        clear hB
        go_wp2_with fail
        show K _ _
        have := H.out _ HA.out
        rw [HFR.out] at this
        obtain u2 := HU.out
        rw [u2] at this
        exact this
      · rintro L A W hL ⟨V, rfl, HV, s0, s1⟩
        have e0 : V 0 = .agg #[v'] := HV 0 _ rfl (hL 0 (by simp))
        have e1 : V 1 = wv 0 := HV 1 _ rfl (hL 1 (by simp))
        have e2 : V 2 = .int .i64 er := HV 2 _ rfl (hL 2 (by simp))
        have e5 : V 5 = .int .i64 er := HV 5 _ rfl (hL 5 (by simp))
        have hA := s1 (hL 5 (by simp))
        rw [HFR.out]
        rw [e0, e1, e2, e5]
        clear hL HV HFR e0 e1 e2 e5 s0 s1
        have HX := Lib.hid hA
        clear hA
        go_wp2_with fail
        refine bodyPost_ret (results_ldw_tmp Try.results42 _ _ gR gZ v' 0 rfl HX.out.2.1 rfl HX.out.2.2.1) rfl ?_
        exact ⟨v', by rw [HSQ.out]; rfl, by rw [HSQ.out]; exact HX.out.1.mono HE.out.size, HX.out.2.2.2⟩
    · have HSQ := Lib.hid (show doS l d = ((wdrS l d.addr d.n).1, 0, (wdrS l d.addr d.n).2) by rw [HSP.out, if_neg (by rw [hk]; decide), if_pos hk])
      have HC := Lib.hid (show ∀ W, Hds W v l → Calls Try.prog 86 #[.agg #[v], .int .u64 (d.addr : Nat), wv d.n] W (RetG W (wdrS l d.addr d.n)) from fun W hW => by
        have C := refWithdraw_any v l d.addr d.n W hW HRG.out.rise HLEN.out HD.out.2.1 HD.out.2.2.1
        rw [wdr_eq HOKS.out HRG.out HA0.out HD.out.2.1] at C
        exact C)
      rw [hk]
      clear hk HSP
      go_wp2_with ((with_reducible refine wpList_load_wordIn ?_ (.tmp 48) ?_ g2 2 (d.n) ?_ ?_ ?_); (exact rfl); (exact rfl); (exact rfl); (exact HWD.out))
      refine (HC.out _ (HS.out.ext (HE.out.trans HX.out))).mono ?_
      rintro e w5 ⟨v', rfl, ho, he⟩
      clear HC
      obtain ⟨r, hr⟩ : ∃ r, wdrS l d.addr d.n = r := ⟨_, rfl⟩
      rw [hr] at HSQ ho ⊢
      clear hr
      obtain ⟨m, er⟩ := r
      dsimp only at HSQ ho ⊢
      have HO := Lib.hid (ho.mono HX.out.size)
      have HX5 := Lib.hid (HX.out.trans he)
      have HRX := Lib.hid (Cs.ext HR.out HX5.out)
      have HV1 := Lib.hid (show v'.oneCell' = true by obtain ⟨A, c, e, _⟩ := ho.hds.len; rw [e]; rfl)
      clear ho he
      go_upto_region 15 with ((with_reducible refine wpList_store_agg ?_ ?_ 88 (.tmp 4) (.tmp 51) ?_ ldinfo gR #[.slice none 0 0] #[v'] ?_ ?_ ?_ ?_ ?_ ?_ ?_); (exact rfl); (exact rfl); (exact rfl); (exact one_val HV1.out); (exact rfl); (exact rfl); (exact HRX.out); (exact rfl); (exact rfl); intro w9 k9 g9; have K9 := Lib.hid k9; have G9 := Lib.hid g9; clear k9 g9)
      have HJ := Lib.hid (show OwnH w9 w0.heap.size v' m ∧ Cs w9 gR 88 #[v'] ∧ Cs w9 gZ 29 (wc 0) ∧ Ext w w9 from ⟨HO.out.keptT G9.out HRX.out (by decide), K9.out, Cs.kept (Cs.ext HZ.out HX5.out) G9.out (some_ne (fun e => HN.out.2.2 e.symm)), (HE.out.trans HX5.out).grown G9.out HN.out.1⟩)
      clear HO HX5 HRX K9 G9 q1 q3 q6 q7
      go_upto_region 15 with fail
      refine wp_named fun a0 ha0 => ?_
      obtain ⟨fr, hfr⟩ : ∃ fr : (Nat → Value) → Act, ∀ V, fr V = ((((a0.put (some 77) (V 0)).put (some 78) (V 1)).put (some 79) (V 2)).put (some 6) (V 5)) := ⟨fun V => ((((a0.put (some 77) (V 0)).put (some 78) (V 1)).put (some 79) (V 2)).put (some 6) (V 5)), fun _ => rfl⟩
      rw [ha0] at hfr
      simp only [Act.put, List.setIfInBounds_toArray, List.set_cons_zero, List.set_cons_succ] at hfr
      have HFR := Lib.hid hfr
      clear hfr
      refine wp_region_inv (by kernel_rfl) (by kernel_rfl) (fun L A W => ∃ V : Nat → Value, A = fr V ∧ Vals (fun j => ([some (.agg #[v']), some (wv 0), some (.int .i64 er), none, none, some (.int .i64 er)] : List (Option Value)).getD j none) L V ∧ (L 5 = false → OwnH W w0.heap.size v' m ∧ Cs W gR 88 #[v'] ∧ Cs W gZ 29 (wc 0) ∧ Ext w W ∧ V 5 = .int .i64 er) ∧ (L 5 = true → OwnH W w0.heap.size v' m ∧ Cs W gR 88 #[v'] ∧ Cs W gZ 29 (wc 0) ∧ Ext w W)) ?_ ⟨?_, ?_, ?_, ?_, ?_, ?_, trivial⟩ ?_
      · refine ⟨fun j => a0.tmps.getD (([77, 78, 79, 0, 0, 6] : List Nat).getD j 0) undef, ?_, Vals.no _ _ _ (far_none _ _ rfl), fun _ => ⟨HJ.out.1.ext (Ext.refl _).drew, Cs.ext HJ.out.2.1 (Ext.refl _).drew, Cs.ext HJ.out.2.2.1 (Ext.refl _).drew, HJ.out.2.2.2.drew, by show a0.tmps.getD 6 undef = _; rw [ha0]; rfl⟩, fun h0 => absurd h0 (by decide)⟩
        rw [HFR.out, ha0]
        rfl
      all_goals clear ha0
      · rintro L A W K hL hC hW ⟨V, rfl, HV, s0, s1⟩ hK
        have hB := s0 (hC.no hL 5 _ rfl rfl)
        have H := Lib.hid (show ∀ W', Ext W W' → K (fr (upd V 0 (.agg #[v']))) W' from fun W' he => hK _ _ ⟨upd V 0 (.agg #[v']), rfl, HV.up 0 _ (fun x hx => Option.some.inj hx), fun h0 => DoJ.ext (s0 (by unfold More at h0; rwa [if_neg (by decide)] at h0)) he, fun h0 => DoK.ext (s1 (more_ne h0 rfl)) he⟩)
        clear hK hC hW hL HV s0 s1
        rw [HFR.out]
        have hcl := hB.2.1.cell 0 _ rfl
        clear hB
        go_wp2_with fail
        show K _ _
        have := H.out _ (Ext.refl _)
        rw [HFR.out] at this
        exact this
      · rintro L A W K hL hC hW ⟨V, rfl, HV, s0, s1⟩ hK
        have hB := s0 (hC.no hL 5 _ rfl rfl)
        have H := Lib.hid (show ∀ W', Ext W W' → K (fr (upd V 1 (wv 0))) W' from fun W' he => hK _ _ ⟨upd V 1 (wv 0), rfl, HV.up 1 _ (fun x hx => Option.some.inj hx), fun h0 => DoJ.ext (s0 (by unfold More at h0; rwa [if_neg (by decide)] at h0)) he, fun h0 => DoK.ext (s1 (more_ne h0 rfl)) he⟩)
        clear hK hC hW hL HV s0 s1
        rw [HFR.out]
        have HWW := Lib.hid (Cs.rg hB.2.2.1)
        clear hB
        refine wpList_load_wordIn rfl (.tmp 5) rfl gZ 0 0 rfl HWW.out ?_
        show K _ _
        have := H.out _ (Ext.refl _)
        rw [HFR.out] at this
        exact this
      · rintro L A W K hL hC hW ⟨V, rfl, HV, s0, s1⟩ hK
        have hB := s0 (hC.no hL 5 _ rfl rfl)
        have e5 : V 5 = .int .i64 er := hB.2.2.2.2
        have H := Lib.hid (show ∀ W', Ext W W' → K (fr (upd V 2 (.int .i64 er))) W' from fun W' he => hK _ _ ⟨upd V 2 (.int .i64 er), rfl, HV.up 2 _ (fun x hx => Option.some.inj hx), fun h0 => DoJ.ext (s0 (by unfold More at h0; rwa [if_neg (by decide)] at h0)) he, fun h0 => DoK.ext (s1 (more_ne h0 rfl)) he⟩)
        have HU := Lib.hid (show (upd V 2 (.int .i64 er)) 5 = .int .i64 er from e5)
        clear hK hC hW hL HV s0 s1
        rw [HFR.out]
        rw [e5]
        clear e5
        clear hB
        go_wp2_with fail
        show K _ _
        have := H.out _ (Ext.refl _)
        rw [HFR.out] at this
        obtain u5 := HU.out
        rw [u5] at this
        exact this
      · rintro L A W K hL hC hW ⟨V, rfl, HV, s0, s1⟩ hK
        have e0 : V 0 = .agg #[v'] := HV 0 _ rfl (hW 0 rfl)
        have hB := s0 (hC.no hL 5 _ rfl rfl)
        have H := Lib.hid (show ∀ W', Ext W W' → K (fr (V)) W' from fun W' he => hK _ _ ⟨V, rfl, HV.st 3 rfl, fun h0 => DoJ.ext (s0 (by unfold More at h0; rwa [if_neg (by decide)] at h0)) he, fun h0 => DoK.ext (s1 (more_ne h0 rfl)) he⟩)
        have HU := Lib.hid (show (V) 0 = .agg #[v'] from e0)
        clear hK hC hW hL HV s0 s1
        rw [HFR.out]
        rw [e0]
        clear e0
        have HJ' := Lib.hid hB
        clear hB
        refine wpList_store_agg rfl rfl 88 (.tmp 4) (.tmp 77) rfl ldinfo gR #[v'] #[v'] (one_val HV1.out) rfl rfl HJ'.out.2.1 rfl rfl ?_
        intro w' kk gg
        have he := ext_same HJ'.out.2.1 kk gg
        show K _ _
        have := H.out _ he
        rw [HFR.out] at this
        obtain u0 := HU.out
        rw [u0] at this
        exact this
      · rintro L A W K hL hC hW ⟨V, rfl, HV, s0, s1⟩ hK
        have e1 : V 1 = wv 0 := HV 1 _ rfl (hW 1 rfl)
        have hB := s0 (hC.no hL 5 _ rfl rfl)
        have H := Lib.hid (show ∀ W', Ext W W' → K (fr (V)) W' from fun W' he => hK _ _ ⟨V, rfl, HV.st 4 rfl, fun h0 => DoJ.ext (s0 (by unfold More at h0; rwa [if_neg (by decide)] at h0)) he, fun h0 => DoK.ext (s1 (more_ne h0 rfl)) he⟩)
        have HU := Lib.hid (show (V) 1 = wv 0 from e1)
        clear hK hC hW hL HV s0 s1
        rw [HFR.out]
        rw [e1]
        clear e1
        have HJ' := Lib.hid hB
        clear hB
        refine wpList_store_word rfl rfl 29 (.tmp 5) (.tmp 78) rfl winfo gZ (wc 0) 0 rfl rfl HJ'.out.2.2.1 rfl ?_
        intro w' kk gg
        have he := ext_same HJ'.out.2.2.1 kk gg
        show K _ _
        have := H.out _ he
        rw [HFR.out] at this
        obtain u1 := HU.out
        rw [u1] at this
        exact this
      · rintro L A W K hL hC hW ⟨V, rfl, HV, s0, s1⟩ hK
        have e2 : V 2 = .int .i64 er := HV 2 _ rfl (hW 2 rfl)
        have hB := s0 hL
        have H := Lib.hid (show ∀ W', (OwnH W' w0.heap.size v' m ∧ Cs W' gR 88 #[v'] ∧ Cs W' gZ 29 (wc 0) ∧ Ext w W') → K (fr (upd V 5 (.int .i64 er))) W' from fun W' hA => hK _ _ ⟨upd V 5 (.int .i64 er), rfl, HV.up 5 _ (fun x hx => Option.some.inj hx), fun h0 => absurd h0 (by unfold More; rw [if_pos rfl]; simp), fun h0 => hA⟩)
        have HU := Lib.hid (show (upd V 5 (.int .i64 er)) 2 = .int .i64 er from e2)
        clear hK hC hW hL HV s0 s1
        rw [HFR.out]
        rw [e2]
        clear e2
        have HA := Lib.hid (show OwnH W w0.heap.size v' m ∧ Cs W gR 88 #[v'] ∧ Cs W gZ 29 (wc 0) ∧ Ext w W from ⟨hB.1, hB.2.1, hB.2.2.1, hB.2.2.2.1⟩)
        clear hB
        go_wp2_with fail
        show K _ _
        have := H.out _ HA.out
        rw [HFR.out] at this
        obtain u2 := HU.out
        rw [u2] at this
        exact this
      · rintro L A W hL ⟨V, rfl, HV, s0, s1⟩
        have e0 : V 0 = .agg #[v'] := HV 0 _ rfl (hL 0 (by simp))
        have e1 : V 1 = wv 0 := HV 1 _ rfl (hL 1 (by simp))
        have e2 : V 2 = .int .i64 er := HV 2 _ rfl (hL 2 (by simp))
        have e5 : V 5 = .int .i64 er := HV 5 _ rfl (hL 5 (by simp))
        have hA := s1 (hL 5 (by simp))
        rw [HFR.out]
        rw [e0, e1, e2, e5]
        clear hL HV HFR e0 e1 e2 e5 s0 s1
        have HX := Lib.hid hA
        clear hA
        go_wp2_with fail
        refine bodyPost_ret (results_ldw_tmp Try.results42 _ _ gR gZ v' 0 rfl HX.out.2.1 rfl HX.out.2.2.1) rfl ?_
        exact ⟨v', by rw [HSQ.out]; rfl, by rw [HSQ.out]; exact HX.out.1.mono HE.out.size, HX.out.2.2.2⟩
    · have HSQ := Lib.hid (show doS l d = ((bndS l d.addr d.n d.dly).1, 0, (bndS l d.addr d.n d.dly).2) by rw [HSP.out, if_neg (by rw [hk]; decide), if_neg (by rw [hk]; decide), if_pos hk])
      have HC := Lib.hid (show ∀ W, Hds W v l → Calls Try.prog 87 #[.agg #[v], .int .u64 (d.addr : Nat), wv d.n, .int .u64 (d.dly : Nat)] W (RetG W (bndS l d.addr d.n d.dly)) from fun W hW => by
        have C := refBond_any v l d.addr d.n d.dly W hW HRG.out.rise HLEN.out HD.out.2.1 HD.out.2.2.1 HD.out.2.2.2.1
        rw [bnd_eq HOKS.out HRG.out HA0.out HD.out.2.1 HD.out.2.2.1 HD.out.2.2.2.1] at C
        exact C)
      rw [hk]
      clear hk HSP
      go_wp2_with ((with_reducible refine wpList_load_wordIn ?_ (.tmp 59) ?_ g2 2 (d.n) ?_ ?_ ?_); (exact rfl); (exact rfl); (exact rfl); (exact HWD.out))
      refine (HC.out _ (HS.out.ext (HE.out.trans HX.out))).mono ?_
      rintro e w5 ⟨v', rfl, ho, he⟩
      clear HC
      obtain ⟨r, hr⟩ : ∃ r, bndS l d.addr d.n d.dly = r := ⟨_, rfl⟩
      rw [hr] at HSQ ho ⊢
      clear hr
      obtain ⟨m, er⟩ := r
      dsimp only at HSQ ho ⊢
      have HO := Lib.hid (ho.mono HX.out.size)
      have HX5 := Lib.hid (HX.out.trans he)
      have HRX := Lib.hid (Cs.ext HR.out HX5.out)
      have HV1 := Lib.hid (show v'.oneCell' = true by obtain ⟨A, c, e, _⟩ := ho.hds.len; rw [e]; rfl)
      clear ho he
      go_upto_region 15 with ((with_reducible refine wpList_store_agg ?_ ?_ 88 (.tmp 4) (.tmp 64) ?_ ldinfo gR #[.slice none 0 0] #[v'] ?_ ?_ ?_ ?_ ?_ ?_ ?_); (exact rfl); (exact rfl); (exact rfl); (exact one_val HV1.out); (exact rfl); (exact rfl); (exact HRX.out); (exact rfl); (exact rfl); intro w9 k9 g9; have K9 := Lib.hid k9; have G9 := Lib.hid g9; clear k9 g9)
      have HJ := Lib.hid (show OwnH w9 w0.heap.size v' m ∧ Cs w9 gR 88 #[v'] ∧ Cs w9 gZ 29 (wc 0) ∧ Ext w w9 from ⟨HO.out.keptT G9.out HRX.out (by decide), K9.out, Cs.kept (Cs.ext HZ.out HX5.out) G9.out (some_ne (fun e => HN.out.2.2 e.symm)), (HE.out.trans HX5.out).grown G9.out HN.out.1⟩)
      clear HO HX5 HRX K9 G9 q1 q3 q6 q7
      go_upto_region 15 with fail
      refine wp_named fun a0 ha0 => ?_
      obtain ⟨fr, hfr⟩ : ∃ fr : (Nat → Value) → Act, ∀ V, fr V = ((((a0.put (some 77) (V 0)).put (some 78) (V 1)).put (some 79) (V 2)).put (some 6) (V 5)) := ⟨fun V => ((((a0.put (some 77) (V 0)).put (some 78) (V 1)).put (some 79) (V 2)).put (some 6) (V 5)), fun _ => rfl⟩
      rw [ha0] at hfr
      simp only [Act.put, List.setIfInBounds_toArray, List.set_cons_zero, List.set_cons_succ] at hfr
      have HFR := Lib.hid hfr
      clear hfr
      refine wp_region_inv (by kernel_rfl) (by kernel_rfl) (fun L A W => ∃ V : Nat → Value, A = fr V ∧ Vals (fun j => ([some (.agg #[v']), some (wv 0), some (.int .i64 er), none, none, some (.int .i64 er)] : List (Option Value)).getD j none) L V ∧ (L 5 = false → OwnH W w0.heap.size v' m ∧ Cs W gR 88 #[v'] ∧ Cs W gZ 29 (wc 0) ∧ Ext w W ∧ V 5 = .int .i64 er) ∧ (L 5 = true → OwnH W w0.heap.size v' m ∧ Cs W gR 88 #[v'] ∧ Cs W gZ 29 (wc 0) ∧ Ext w W)) ?_ ⟨?_, ?_, ?_, ?_, ?_, ?_, trivial⟩ ?_
      · refine ⟨fun j => a0.tmps.getD (([77, 78, 79, 0, 0, 6] : List Nat).getD j 0) undef, ?_, Vals.no _ _ _ (far_none _ _ rfl), fun _ => ⟨HJ.out.1.ext (Ext.refl _).drew, Cs.ext HJ.out.2.1 (Ext.refl _).drew, Cs.ext HJ.out.2.2.1 (Ext.refl _).drew, HJ.out.2.2.2.drew, by show a0.tmps.getD 6 undef = _; rw [ha0]; rfl⟩, fun h0 => absurd h0 (by decide)⟩
        rw [HFR.out, ha0]
        rfl
      all_goals clear ha0
      · rintro L A W K hL hC hW ⟨V, rfl, HV, s0, s1⟩ hK
        have hB := s0 (hC.no hL 5 _ rfl rfl)
        have H := Lib.hid (show ∀ W', Ext W W' → K (fr (upd V 0 (.agg #[v']))) W' from fun W' he => hK _ _ ⟨upd V 0 (.agg #[v']), rfl, HV.up 0 _ (fun x hx => Option.some.inj hx), fun h0 => DoJ.ext (s0 (by unfold More at h0; rwa [if_neg (by decide)] at h0)) he, fun h0 => DoK.ext (s1 (more_ne h0 rfl)) he⟩)
        clear hK hC hW hL HV s0 s1
        rw [HFR.out]
        have hcl := hB.2.1.cell 0 _ rfl
        clear hB
        go_wp2_with fail
        show K _ _
        have := H.out _ (Ext.refl _)
        rw [HFR.out] at this
        exact this
      · rintro L A W K hL hC hW ⟨V, rfl, HV, s0, s1⟩ hK
        have hB := s0 (hC.no hL 5 _ rfl rfl)
        have H := Lib.hid (show ∀ W', Ext W W' → K (fr (upd V 1 (wv 0))) W' from fun W' he => hK _ _ ⟨upd V 1 (wv 0), rfl, HV.up 1 _ (fun x hx => Option.some.inj hx), fun h0 => DoJ.ext (s0 (by unfold More at h0; rwa [if_neg (by decide)] at h0)) he, fun h0 => DoK.ext (s1 (more_ne h0 rfl)) he⟩)
        clear hK hC hW hL HV s0 s1
        rw [HFR.out]
        have HWW := Lib.hid (Cs.rg hB.2.2.1)
        clear hB
        refine wpList_load_wordIn rfl (.tmp 5) rfl gZ 0 0 rfl HWW.out ?_
        show K _ _
        have := H.out _ (Ext.refl _)
        rw [HFR.out] at this
        exact this
      · rintro L A W K hL hC hW ⟨V, rfl, HV, s0, s1⟩ hK
        have hB := s0 (hC.no hL 5 _ rfl rfl)
        have e5 : V 5 = .int .i64 er := hB.2.2.2.2
        have H := Lib.hid (show ∀ W', Ext W W' → K (fr (upd V 2 (.int .i64 er))) W' from fun W' he => hK _ _ ⟨upd V 2 (.int .i64 er), rfl, HV.up 2 _ (fun x hx => Option.some.inj hx), fun h0 => DoJ.ext (s0 (by unfold More at h0; rwa [if_neg (by decide)] at h0)) he, fun h0 => DoK.ext (s1 (more_ne h0 rfl)) he⟩)
        have HU := Lib.hid (show (upd V 2 (.int .i64 er)) 5 = .int .i64 er from e5)
        clear hK hC hW hL HV s0 s1
        rw [HFR.out]
        rw [e5]
        clear e5
        clear hB
        go_wp2_with fail
        show K _ _
        have := H.out _ (Ext.refl _)
        rw [HFR.out] at this
        obtain u5 := HU.out
        rw [u5] at this
        exact this
      · rintro L A W K hL hC hW ⟨V, rfl, HV, s0, s1⟩ hK
        have e0 : V 0 = .agg #[v'] := HV 0 _ rfl (hW 0 rfl)
        have hB := s0 (hC.no hL 5 _ rfl rfl)
        have H := Lib.hid (show ∀ W', Ext W W' → K (fr (V)) W' from fun W' he => hK _ _ ⟨V, rfl, HV.st 3 rfl, fun h0 => DoJ.ext (s0 (by unfold More at h0; rwa [if_neg (by decide)] at h0)) he, fun h0 => DoK.ext (s1 (more_ne h0 rfl)) he⟩)
        have HU := Lib.hid (show (V) 0 = .agg #[v'] from e0)
        clear hK hC hW hL HV s0 s1
        rw [HFR.out]
        rw [e0]
        clear e0
        have HJ' := Lib.hid hB
        clear hB
        refine wpList_store_agg rfl rfl 88 (.tmp 4) (.tmp 77) rfl ldinfo gR #[v'] #[v'] (one_val HV1.out) rfl rfl HJ'.out.2.1 rfl rfl ?_
        intro w' kk gg
        have he := ext_same HJ'.out.2.1 kk gg
        show K _ _
        have := H.out _ he
        rw [HFR.out] at this
        obtain u0 := HU.out
        rw [u0] at this
        exact this
      · rintro L A W K hL hC hW ⟨V, rfl, HV, s0, s1⟩ hK
        have e1 : V 1 = wv 0 := HV 1 _ rfl (hW 1 rfl)
        have hB := s0 (hC.no hL 5 _ rfl rfl)
        have H := Lib.hid (show ∀ W', Ext W W' → K (fr (V)) W' from fun W' he => hK _ _ ⟨V, rfl, HV.st 4 rfl, fun h0 => DoJ.ext (s0 (by unfold More at h0; rwa [if_neg (by decide)] at h0)) he, fun h0 => DoK.ext (s1 (more_ne h0 rfl)) he⟩)
        have HU := Lib.hid (show (V) 1 = wv 0 from e1)
        clear hK hC hW hL HV s0 s1
        rw [HFR.out]
        rw [e1]
        clear e1
        have HJ' := Lib.hid hB
        clear hB
        refine wpList_store_word rfl rfl 29 (.tmp 5) (.tmp 78) rfl winfo gZ (wc 0) 0 rfl rfl HJ'.out.2.2.1 rfl ?_
        intro w' kk gg
        have he := ext_same HJ'.out.2.2.1 kk gg
        show K _ _
        have := H.out _ he
        rw [HFR.out] at this
        obtain u1 := HU.out
        rw [u1] at this
        exact this
      · rintro L A W K hL hC hW ⟨V, rfl, HV, s0, s1⟩ hK
        have e2 : V 2 = .int .i64 er := HV 2 _ rfl (hW 2 rfl)
        have hB := s0 hL
        have H := Lib.hid (show ∀ W', (OwnH W' w0.heap.size v' m ∧ Cs W' gR 88 #[v'] ∧ Cs W' gZ 29 (wc 0) ∧ Ext w W') → K (fr (upd V 5 (.int .i64 er))) W' from fun W' hA => hK _ _ ⟨upd V 5 (.int .i64 er), rfl, HV.up 5 _ (fun x hx => Option.some.inj hx), fun h0 => absurd h0 (by unfold More; rw [if_pos rfl]; simp), fun h0 => hA⟩)
        have HU := Lib.hid (show (upd V 5 (.int .i64 er)) 2 = .int .i64 er from e2)
        clear hK hC hW hL HV s0 s1
        rw [HFR.out]
        rw [e2]
        clear e2
        have HA := Lib.hid (show OwnH W w0.heap.size v' m ∧ Cs W gR 88 #[v'] ∧ Cs W gZ 29 (wc 0) ∧ Ext w W from ⟨hB.1, hB.2.1, hB.2.2.1, hB.2.2.2.1⟩)
        clear hB
        go_wp2_with fail
        show K _ _
        have := H.out _ HA.out
        rw [HFR.out] at this
        obtain u2 := HU.out
        rw [u2] at this
        exact this
      · rintro L A W hL ⟨V, rfl, HV, s0, s1⟩
        have e0 : V 0 = .agg #[v'] := HV 0 _ rfl (hL 0 (by simp))
        have e1 : V 1 = wv 0 := HV 1 _ rfl (hL 1 (by simp))
        have e2 : V 2 = .int .i64 er := HV 2 _ rfl (hL 2 (by simp))
        have e5 : V 5 = .int .i64 er := HV 5 _ rfl (hL 5 (by simp))
        have hA := s1 (hL 5 (by simp))
        rw [HFR.out]
        rw [e0, e1, e2, e5]
        clear hL HV HFR e0 e1 e2 e5 s0 s1
        have HX := Lib.hid hA
        clear hA
        go_wp2_with fail
        refine bodyPost_ret (results_ldw_tmp Try.results42 _ _ gR gZ v' 0 rfl HX.out.2.1 rfl HX.out.2.2.1) rfl ?_
        exact ⟨v', by rw [HSQ.out]; rfl, by rw [HSQ.out]; exact HX.out.1.mono HE.out.size, HX.out.2.2.2⟩
    · have HSQ := Lib.hid (show doS l d = ((ulkS l d.addr d.now).1, 0, (ulkS l d.addr d.now).2) by rw [HSP.out, if_neg (by rw [hk]; decide), if_neg (by rw [hk]; decide), if_neg (by rw [hk]; decide), if_pos hk])
      have HC := Lib.hid (show ∀ W, Hds W v l → Calls Try.prog 88 #[.agg #[v], .int .u64 (d.addr : Nat), .int .u64 (d.now : Nat)] W (RetG W (ulkS l d.addr d.now)) from fun W hW => by
        have C := refUnlock_any v l d.addr d.now W hW HRG.out.rise HLEN.out HD.out.2.1 HD.out.2.2.2.2 (by have := HRG.out.rowF d.addr; unfold RowF at this; omega)
        rw [ulk_eq HOKS.out HRG.out HA0.out HD.out.2.1] at C
        exact C)
      rw [hk]
      clear hk HSP
      go_wp2_with fail
      refine (HC.out _ (HS.out.ext (HE.out.trans HX.out))).mono ?_
      rintro e w5 ⟨v', rfl, ho, he⟩
      clear HC
      obtain ⟨r, hr⟩ : ∃ r, ulkS l d.addr d.now = r := ⟨_, rfl⟩
      rw [hr] at HSQ ho ⊢
      clear hr
      obtain ⟨m, er⟩ := r
      dsimp only at HSQ ho ⊢
      have HO := Lib.hid (ho.mono HX.out.size)
      have HX5 := Lib.hid (HX.out.trans he)
      have HRX := Lib.hid (Cs.ext HR.out HX5.out)
      have HV1 := Lib.hid (show v'.oneCell' = true by obtain ⟨A, c, e, _⟩ := ho.hds.len; rw [e]; rfl)
      clear ho he
      go_upto_region 15 with ((with_reducible refine wpList_store_agg ?_ ?_ 88 (.tmp 4) (.tmp 75) ?_ ldinfo gR #[.slice none 0 0] #[v'] ?_ ?_ ?_ ?_ ?_ ?_ ?_); (exact rfl); (exact rfl); (exact rfl); (exact one_val HV1.out); (exact rfl); (exact rfl); (exact HRX.out); (exact rfl); (exact rfl); intro w9 k9 g9; have K9 := Lib.hid k9; have G9 := Lib.hid g9; clear k9 g9)
      have HJ := Lib.hid (show OwnH w9 w0.heap.size v' m ∧ Cs w9 gR 88 #[v'] ∧ Cs w9 gZ 29 (wc 0) ∧ Ext w w9 from ⟨HO.out.keptT G9.out HRX.out (by decide), K9.out, Cs.kept (Cs.ext HZ.out HX5.out) G9.out (some_ne (fun e => HN.out.2.2 e.symm)), (HE.out.trans HX5.out).grown G9.out HN.out.1⟩)
      clear HO HX5 HRX K9 G9 q1 q3 q6 q7
      go_upto_region 15 with fail
      refine wp_named fun a0 ha0 => ?_
      obtain ⟨fr, hfr⟩ : ∃ fr : (Nat → Value) → Act, ∀ V, fr V = ((((a0.put (some 77) (V 0)).put (some 78) (V 1)).put (some 79) (V 2)).put (some 6) (V 5)) := ⟨fun V => ((((a0.put (some 77) (V 0)).put (some 78) (V 1)).put (some 79) (V 2)).put (some 6) (V 5)), fun _ => rfl⟩
      rw [ha0] at hfr
      simp only [Act.put, List.setIfInBounds_toArray, List.set_cons_zero, List.set_cons_succ] at hfr
      have HFR := Lib.hid hfr
      clear hfr
      refine wp_region_inv (by kernel_rfl) (by kernel_rfl) (fun L A W => ∃ V : Nat → Value, A = fr V ∧ Vals (fun j => ([some (.agg #[v']), some (wv 0), some (.int .i64 er), none, none, some (.int .i64 er)] : List (Option Value)).getD j none) L V ∧ (L 5 = false → OwnH W w0.heap.size v' m ∧ Cs W gR 88 #[v'] ∧ Cs W gZ 29 (wc 0) ∧ Ext w W ∧ V 5 = .int .i64 er) ∧ (L 5 = true → OwnH W w0.heap.size v' m ∧ Cs W gR 88 #[v'] ∧ Cs W gZ 29 (wc 0) ∧ Ext w W)) ?_ ⟨?_, ?_, ?_, ?_, ?_, ?_, trivial⟩ ?_
      · refine ⟨fun j => a0.tmps.getD (([77, 78, 79, 0, 0, 6] : List Nat).getD j 0) undef, ?_, Vals.no _ _ _ (far_none _ _ rfl), fun _ => ⟨HJ.out.1.ext (Ext.refl _).drew, Cs.ext HJ.out.2.1 (Ext.refl _).drew, Cs.ext HJ.out.2.2.1 (Ext.refl _).drew, HJ.out.2.2.2.drew, by show a0.tmps.getD 6 undef = _; rw [ha0]; rfl⟩, fun h0 => absurd h0 (by decide)⟩
        rw [HFR.out, ha0]
        rfl
      all_goals clear ha0
      · rintro L A W K hL hC hW ⟨V, rfl, HV, s0, s1⟩ hK
        have hB := s0 (hC.no hL 5 _ rfl rfl)
        have H := Lib.hid (show ∀ W', Ext W W' → K (fr (upd V 0 (.agg #[v']))) W' from fun W' he => hK _ _ ⟨upd V 0 (.agg #[v']), rfl, HV.up 0 _ (fun x hx => Option.some.inj hx), fun h0 => DoJ.ext (s0 (by unfold More at h0; rwa [if_neg (by decide)] at h0)) he, fun h0 => DoK.ext (s1 (more_ne h0 rfl)) he⟩)
        clear hK hC hW hL HV s0 s1
        rw [HFR.out]
        have hcl := hB.2.1.cell 0 _ rfl
        clear hB
        go_wp2_with fail
        show K _ _
        have := H.out _ (Ext.refl _)
        rw [HFR.out] at this
        exact this
      · rintro L A W K hL hC hW ⟨V, rfl, HV, s0, s1⟩ hK
        have hB := s0 (hC.no hL 5 _ rfl rfl)
        have H := Lib.hid (show ∀ W', Ext W W' → K (fr (upd V 1 (wv 0))) W' from fun W' he => hK _ _ ⟨upd V 1 (wv 0), rfl, HV.up 1 _ (fun x hx => Option.some.inj hx), fun h0 => DoJ.ext (s0 (by unfold More at h0; rwa [if_neg (by decide)] at h0)) he, fun h0 => DoK.ext (s1 (more_ne h0 rfl)) he⟩)
        clear hK hC hW hL HV s0 s1
        rw [HFR.out]
        have HWW := Lib.hid (Cs.rg hB.2.2.1)
        clear hB
        refine wpList_load_wordIn rfl (.tmp 5) rfl gZ 0 0 rfl HWW.out ?_
        show K _ _
        have := H.out _ (Ext.refl _)
        rw [HFR.out] at this
        exact this
      · rintro L A W K hL hC hW ⟨V, rfl, HV, s0, s1⟩ hK
        have hB := s0 (hC.no hL 5 _ rfl rfl)
        have e5 : V 5 = .int .i64 er := hB.2.2.2.2
        have H := Lib.hid (show ∀ W', Ext W W' → K (fr (upd V 2 (.int .i64 er))) W' from fun W' he => hK _ _ ⟨upd V 2 (.int .i64 er), rfl, HV.up 2 _ (fun x hx => Option.some.inj hx), fun h0 => DoJ.ext (s0 (by unfold More at h0; rwa [if_neg (by decide)] at h0)) he, fun h0 => DoK.ext (s1 (more_ne h0 rfl)) he⟩)
        have HU := Lib.hid (show (upd V 2 (.int .i64 er)) 5 = .int .i64 er from e5)
        clear hK hC hW hL HV s0 s1
        rw [HFR.out]
        rw [e5]
        clear e5
        clear hB
        go_wp2_with fail
        show K _ _
        have := H.out _ (Ext.refl _)
        rw [HFR.out] at this
        obtain u5 := HU.out
        rw [u5] at this
        exact this
      · rintro L A W K hL hC hW ⟨V, rfl, HV, s0, s1⟩ hK
        have e0 : V 0 = .agg #[v'] := HV 0 _ rfl (hW 0 rfl)
        have hB := s0 (hC.no hL 5 _ rfl rfl)
        have H := Lib.hid (show ∀ W', Ext W W' → K (fr (V)) W' from fun W' he => hK _ _ ⟨V, rfl, HV.st 3 rfl, fun h0 => DoJ.ext (s0 (by unfold More at h0; rwa [if_neg (by decide)] at h0)) he, fun h0 => DoK.ext (s1 (more_ne h0 rfl)) he⟩)
        have HU := Lib.hid (show (V) 0 = .agg #[v'] from e0)
        clear hK hC hW hL HV s0 s1
        rw [HFR.out]
        rw [e0]
        clear e0
        have HJ' := Lib.hid hB
        clear hB
        refine wpList_store_agg rfl rfl 88 (.tmp 4) (.tmp 77) rfl ldinfo gR #[v'] #[v'] (one_val HV1.out) rfl rfl HJ'.out.2.1 rfl rfl ?_
        intro w' kk gg
        have he := ext_same HJ'.out.2.1 kk gg
        show K _ _
        have := H.out _ he
        rw [HFR.out] at this
        obtain u0 := HU.out
        rw [u0] at this
        exact this
      · rintro L A W K hL hC hW ⟨V, rfl, HV, s0, s1⟩ hK
        have e1 : V 1 = wv 0 := HV 1 _ rfl (hW 1 rfl)
        have hB := s0 (hC.no hL 5 _ rfl rfl)
        have H := Lib.hid (show ∀ W', Ext W W' → K (fr (V)) W' from fun W' he => hK _ _ ⟨V, rfl, HV.st 4 rfl, fun h0 => DoJ.ext (s0 (by unfold More at h0; rwa [if_neg (by decide)] at h0)) he, fun h0 => DoK.ext (s1 (more_ne h0 rfl)) he⟩)
        have HU := Lib.hid (show (V) 1 = wv 0 from e1)
        clear hK hC hW hL HV s0 s1
        rw [HFR.out]
        rw [e1]
        clear e1
        have HJ' := Lib.hid hB
        clear hB
        refine wpList_store_word rfl rfl 29 (.tmp 5) (.tmp 78) rfl winfo gZ (wc 0) 0 rfl rfl HJ'.out.2.2.1 rfl ?_
        intro w' kk gg
        have he := ext_same HJ'.out.2.2.1 kk gg
        show K _ _
        have := H.out _ he
        rw [HFR.out] at this
        obtain u1 := HU.out
        rw [u1] at this
        exact this
      · rintro L A W K hL hC hW ⟨V, rfl, HV, s0, s1⟩ hK
        have e2 : V 2 = .int .i64 er := HV 2 _ rfl (hW 2 rfl)
        have hB := s0 hL
        have H := Lib.hid (show ∀ W', (OwnH W' w0.heap.size v' m ∧ Cs W' gR 88 #[v'] ∧ Cs W' gZ 29 (wc 0) ∧ Ext w W') → K (fr (upd V 5 (.int .i64 er))) W' from fun W' hA => hK _ _ ⟨upd V 5 (.int .i64 er), rfl, HV.up 5 _ (fun x hx => Option.some.inj hx), fun h0 => absurd h0 (by unfold More; rw [if_pos rfl]; simp), fun h0 => hA⟩)
        have HU := Lib.hid (show (upd V 5 (.int .i64 er)) 2 = .int .i64 er from e2)
        clear hK hC hW hL HV s0 s1
        rw [HFR.out]
        rw [e2]
        clear e2
        have HA := Lib.hid (show OwnH W w0.heap.size v' m ∧ Cs W gR 88 #[v'] ∧ Cs W gZ 29 (wc 0) ∧ Ext w W from ⟨hB.1, hB.2.1, hB.2.2.1, hB.2.2.2.1⟩)
        clear hB
        go_wp2_with fail
        show K _ _
        have := H.out _ HA.out
        rw [HFR.out] at this
        obtain u2 := HU.out
        rw [u2] at this
        exact this
      · rintro L A W hL ⟨V, rfl, HV, s0, s1⟩
        have e0 : V 0 = .agg #[v'] := HV 0 _ rfl (hL 0 (by simp))
        have e1 : V 1 = wv 0 := HV 1 _ rfl (hL 1 (by simp))
        have e2 : V 2 = .int .i64 er := HV 2 _ rfl (hL 2 (by simp))
        have e5 : V 5 = .int .i64 er := HV 5 _ rfl (hL 5 (by simp))
        have hA := s1 (hL 5 (by simp))
        rw [HFR.out]
        rw [e0, e1, e2, e5]
        clear hL HV HFR e0 e1 e2 e5 s0 s1
        have HX := Lib.hid hA
        clear hA
        go_wp2_with fail
        refine bodyPost_ret (results_ldw_tmp Try.results42 _ _ gR gZ v' 0 rfl HX.out.2.1 rfl HX.out.2.2.1) rfl ?_
        exact ⟨v', by rw [HSQ.out]; rfl, by rw [HSQ.out]; exact HX.out.1.mono HE.out.size, HX.out.2.2.2⟩
    · have HSQ := Lib.hid (show doS l d = relS l d.addr d.now by rw [HSP.out, if_neg (by rw [hk]; decide), if_neg (by rw [hk]; decide), if_neg (by rw [hk]; decide), if_neg (by rw [hk]; decide)])
      have HC := Lib.hid (show ∀ W, Hds W v l → Calls Try.prog 89 #[.agg #[v], .int .u64 (d.addr : Nat), .int .u64 (d.now : Nat)] W (RetR W (relS l d.addr d.now)) from fun W hW => by
        have C := refRelease_any v l d.addr d.now W hW HRG.out.rise HLEN.out HD.out.2.1 HD.out.2.2.2.2
        rw [rel_eq HOKS.out HRG.out HA0.out HD.out.2.1] at C
        exact C)
      rw [hk]
      clear hk HSP
      go_wp2_with fail
      refine (HC.out _ (HS.out.ext (HE.out.trans HX.out))).mono ?_
      rintro e w5 ⟨v', rfl, ho, he⟩
      clear HC
      obtain ⟨r, hr⟩ : ∃ r, relS l d.addr d.now = r := ⟨_, rfl⟩
      rw [hr] at HSQ ho HRW ⊢
      clear hr
      obtain ⟨m, s, er⟩ := r
      dsimp only at HSQ ho HRW ⊢
      have HO := Lib.hid (ho.mono HX.out.size)
      have HX5 := Lib.hid (HX.out.trans he)
      have HRX := Lib.hid (Cs.ext HR.out HX5.out)
      have HZX := Lib.hid (Cs.ext HZ.out HX5.out)
      have HV1 := Lib.hid (show v'.oneCell' = true by obtain ⟨A, c, e, _⟩ := ho.hds.len; rw [e]; rfl)
      clear ho he
      go_upto_region 15 with (first
        | ((with_reducible refine wpList_store_agg ?_ ?_ 88 (.tmp 4) (.tmp 28) ?_ ldinfo gR #[.slice none 0 0] #[v'] ?_ ?_ ?_ ?_ ?_ ?_ ?_); (exact rfl); (exact rfl); (exact rfl); (exact one_val HV1.out); (exact rfl); (exact rfl); (exact HRX.out); (exact rfl); (exact rfl); intro w9 k9 g9; have K9 := Lib.hid k9; have G9 := Lib.hid g9; clear k9 g9)
        | ((with_reducible refine wpList_store_word rfl rfl 29 (.tmp 5) (.tmp 29) rfl winfo gZ (wc 0) s ?_ ?_ ?_ ?_ ?_); (exact rfl); (exact rfl); (exact Cs.kept HZX.out G9.out (some_ne (fun e => HN.out.2.2 e.symm))); (exact rfl); intro wb kb gb; have Kb := Lib.hid kb; have Gb := Lib.hid gb; clear kb gb))
      have HJ := Lib.hid (show OwnH wb w0.heap.size v' m ∧ Cs wb gR 88 #[v'] ∧ Cs wb gZ 29 (wc s) ∧ Ext w wb from ⟨(HO.out.keptT G9.out HRX.out (by decide)).keptT Gb.out (Cs.kept HZX.out G9.out (some_ne (fun e => HN.out.2.2 e.symm))) (by decide), Cs.kept K9.out Gb.out (some_ne HN.out.2.2), Kb.out, ((HE.out.trans HX5.out).grown G9.out HN.out.1).grown Gb.out HN.out.2.1⟩)
      clear HO HX5 HRX HZX K9 G9 Kb Gb q1 q3 q6 q7
      go_upto_region 15 with fail
      refine wp_named fun a0 ha0 => ?_
      obtain ⟨fr, hfr⟩ : ∃ fr : (Nat → Value) → Act, ∀ V, fr V = ((((a0.put (some 77) (V 0)).put (some 78) (V 1)).put (some 79) (V 2)).put (some 6) (V 5)) := ⟨fun V => ((((a0.put (some 77) (V 0)).put (some 78) (V 1)).put (some 79) (V 2)).put (some 6) (V 5)), fun _ => rfl⟩
      rw [ha0] at hfr
      simp only [Act.put, List.setIfInBounds_toArray, List.set_cons_zero, List.set_cons_succ] at hfr
      have HFR := Lib.hid hfr
      clear hfr
      refine wp_region_inv (by kernel_rfl) (by kernel_rfl) (fun L A W => ∃ V : Nat → Value, A = fr V ∧ Vals (fun j => ([some (.agg #[v']), some (wv s), some (.int .i64 er), none, none, some (.int .i64 er)] : List (Option Value)).getD j none) L V ∧ (L 5 = false → OwnH W w0.heap.size v' m ∧ Cs W gR 88 #[v'] ∧ Cs W gZ 29 (wc s) ∧ Ext w W ∧ V 5 = .int .i64 er) ∧ (L 5 = true → OwnH W w0.heap.size v' m ∧ Cs W gR 88 #[v'] ∧ Cs W gZ 29 (wc s) ∧ Ext w W)) ?_ ⟨?_, ?_, ?_, ?_, ?_, ?_, trivial⟩ ?_
      · refine ⟨fun j => a0.tmps.getD (([77, 78, 79, 0, 0, 6] : List Nat).getD j 0) undef, ?_, Vals.no _ _ _ (far_none _ _ rfl), fun _ => ⟨HJ.out.1.ext (Ext.refl _).drew, Cs.ext HJ.out.2.1 (Ext.refl _).drew, Cs.ext HJ.out.2.2.1 (Ext.refl _).drew, HJ.out.2.2.2.drew, by show a0.tmps.getD 6 undef = _; rw [ha0]; rfl⟩, fun h0 => absurd h0 (by decide)⟩
        rw [HFR.out, ha0]
        rfl
      all_goals clear ha0
      · rintro L A W K hL hC hW ⟨V, rfl, HV, s0, s1⟩ hK
        have hB := s0 (hC.no hL 5 _ rfl rfl)
        have H := Lib.hid (show ∀ W', Ext W W' → K (fr (upd V 0 (.agg #[v']))) W' from fun W' he => hK _ _ ⟨upd V 0 (.agg #[v']), rfl, HV.up 0 _ (fun x hx => Option.some.inj hx), fun h0 => DoJ.ext (s0 (by unfold More at h0; rwa [if_neg (by decide)] at h0)) he, fun h0 => DoK.ext (s1 (more_ne h0 rfl)) he⟩)
        clear hK hC hW hL HV s0 s1
        rw [HFR.out]
        have hcl := hB.2.1.cell 0 _ rfl
        clear hB
        go_wp2_with fail
        show K _ _
        have := H.out _ (Ext.refl _)
        rw [HFR.out] at this
        exact this
      · rintro L A W K hL hC hW ⟨V, rfl, HV, s0, s1⟩ hK
        have hB := s0 (hC.no hL 5 _ rfl rfl)
        have H := Lib.hid (show ∀ W', Ext W W' → K (fr (upd V 1 (wv s))) W' from fun W' he => hK _ _ ⟨upd V 1 (wv s), rfl, HV.up 1 _ (fun x hx => Option.some.inj hx), fun h0 => DoJ.ext (s0 (by unfold More at h0; rwa [if_neg (by decide)] at h0)) he, fun h0 => DoK.ext (s1 (more_ne h0 rfl)) he⟩)
        clear hK hC hW hL HV s0 s1
        rw [HFR.out]
        have HWW := Lib.hid (Cs.rg hB.2.2.1)
        clear hB
        refine wpList_load_wordIn rfl (.tmp 5) rfl gZ 0 s rfl HWW.out ?_
        show K _ _
        have := H.out _ (Ext.refl _)
        rw [HFR.out] at this
        exact this
      · rintro L A W K hL hC hW ⟨V, rfl, HV, s0, s1⟩ hK
        have hB := s0 (hC.no hL 5 _ rfl rfl)
        have e5 : V 5 = .int .i64 er := hB.2.2.2.2
        have H := Lib.hid (show ∀ W', Ext W W' → K (fr (upd V 2 (.int .i64 er))) W' from fun W' he => hK _ _ ⟨upd V 2 (.int .i64 er), rfl, HV.up 2 _ (fun x hx => Option.some.inj hx), fun h0 => DoJ.ext (s0 (by unfold More at h0; rwa [if_neg (by decide)] at h0)) he, fun h0 => DoK.ext (s1 (more_ne h0 rfl)) he⟩)
        have HU := Lib.hid (show (upd V 2 (.int .i64 er)) 5 = .int .i64 er from e5)
        clear hK hC hW hL HV s0 s1
        rw [HFR.out]
        rw [e5]
        clear e5
        clear hB
        go_wp2_with fail
        show K _ _
        have := H.out _ (Ext.refl _)
        rw [HFR.out] at this
        obtain u5 := HU.out
        rw [u5] at this
        exact this
      · rintro L A W K hL hC hW ⟨V, rfl, HV, s0, s1⟩ hK
        have e0 : V 0 = .agg #[v'] := HV 0 _ rfl (hW 0 rfl)
        have hB := s0 (hC.no hL 5 _ rfl rfl)
        have H := Lib.hid (show ∀ W', Ext W W' → K (fr (V)) W' from fun W' he => hK _ _ ⟨V, rfl, HV.st 3 rfl, fun h0 => DoJ.ext (s0 (by unfold More at h0; rwa [if_neg (by decide)] at h0)) he, fun h0 => DoK.ext (s1 (more_ne h0 rfl)) he⟩)
        have HU := Lib.hid (show (V) 0 = .agg #[v'] from e0)
        clear hK hC hW hL HV s0 s1
        rw [HFR.out]
        rw [e0]
        clear e0
        have HJ' := Lib.hid hB
        clear hB
        refine wpList_store_agg rfl rfl 88 (.tmp 4) (.tmp 77) rfl ldinfo gR #[v'] #[v'] (one_val HV1.out) rfl rfl HJ'.out.2.1 rfl rfl ?_
        intro w' kk gg
        have he := ext_same HJ'.out.2.1 kk gg
        show K _ _
        have := H.out _ he
        rw [HFR.out] at this
        obtain u0 := HU.out
        rw [u0] at this
        exact this
      · rintro L A W K hL hC hW ⟨V, rfl, HV, s0, s1⟩ hK
        have e1 : V 1 = wv s := HV 1 _ rfl (hW 1 rfl)
        have hB := s0 (hC.no hL 5 _ rfl rfl)
        have H := Lib.hid (show ∀ W', Ext W W' → K (fr (V)) W' from fun W' he => hK _ _ ⟨V, rfl, HV.st 4 rfl, fun h0 => DoJ.ext (s0 (by unfold More at h0; rwa [if_neg (by decide)] at h0)) he, fun h0 => DoK.ext (s1 (more_ne h0 rfl)) he⟩)
        have HU := Lib.hid (show (V) 1 = wv s from e1)
        clear hK hC hW hL HV s0 s1
        rw [HFR.out]
        rw [e1]
        clear e1
        have HJ' := Lib.hid hB
        clear hB
        refine wpList_store_word rfl rfl 29 (.tmp 5) (.tmp 78) rfl winfo gZ (wc s) s rfl rfl HJ'.out.2.2.1 rfl ?_
        intro w' kk gg
        have he := ext_same HJ'.out.2.2.1 kk gg
        show K _ _
        have := H.out _ he
        rw [HFR.out] at this
        obtain u1 := HU.out
        rw [u1] at this
        exact this
      · rintro L A W K hL hC hW ⟨V, rfl, HV, s0, s1⟩ hK
        have e2 : V 2 = .int .i64 er := HV 2 _ rfl (hW 2 rfl)
        have hB := s0 hL
        have H := Lib.hid (show ∀ W', (OwnH W' w0.heap.size v' m ∧ Cs W' gR 88 #[v'] ∧ Cs W' gZ 29 (wc s) ∧ Ext w W') → K (fr (upd V 5 (.int .i64 er))) W' from fun W' hA => hK _ _ ⟨upd V 5 (.int .i64 er), rfl, HV.up 5 _ (fun x hx => Option.some.inj hx), fun h0 => absurd h0 (by unfold More; rw [if_pos rfl]; simp), fun h0 => hA⟩)
        have HU := Lib.hid (show (upd V 5 (.int .i64 er)) 2 = .int .i64 er from e2)
        clear hK hC hW hL HV s0 s1
        rw [HFR.out]
        rw [e2]
        clear e2
        have HA := Lib.hid (show OwnH W w0.heap.size v' m ∧ Cs W gR 88 #[v'] ∧ Cs W gZ 29 (wc s) ∧ Ext w W from ⟨hB.1, hB.2.1, hB.2.2.1, hB.2.2.2.1⟩)
        clear hB
        go_wp2_with fail
        show K _ _
        have := H.out _ HA.out
        rw [HFR.out] at this
        obtain u2 := HU.out
        rw [u2] at this
        exact this
      · rintro L A W hL ⟨V, rfl, HV, s0, s1⟩
        have e0 : V 0 = .agg #[v'] := HV 0 _ rfl (hL 0 (by simp))
        have e1 : V 1 = wv s := HV 1 _ rfl (hL 1 (by simp))
        have e2 : V 2 = .int .i64 er := HV 2 _ rfl (hL 2 (by simp))
        have e5 : V 5 = .int .i64 er := HV 5 _ rfl (hL 5 (by simp))
        have hA := s1 (hL 5 (by simp))
        rw [HFR.out]
        rw [e0, e1, e2, e5]
        clear hL HV HFR e0 e1 e2 e5 s0 s1
        have HX := Lib.hid hA
        clear hA
        go_wp2_with fail
        refine bodyPost_ret (results_ldw_tmp Try.results42 _ _ gR gZ v' s rfl HX.out.2.1 rfl HX.out.2.2.1) rfl ?_
        exact ⟨v', by rw [HSQ.out]; rfl, by rw [HSQ.out]; exact HX.out.1.mono HE.out.size, HX.out.2.2.2⟩
end Go.Proofs.Ytepggbhibpjkpaa
