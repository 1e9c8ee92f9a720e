/- The document's answers of layer 8: Of, Use. -/
import Derived.Test.YtepggbhibpjkpaaNop
namespace Go.Proofs.Ytepggbhibpjkpaa
open Go.ChangeShapes Go.WideShapes Go.ChangeAt Go.RowKit Go.Shelf

/-! ### Of -/
set_option maxRecDepth 100000 in
theorem faN_yes {l : List Nn} {a k : Nat} (hk : k < l.length) (h : (l.getD k nz0).addr = a) : faN (l.take (k + 1)) a = faN (l.take k) a ++ [l.getD k nz0] := by
  rw [takeN_snoc l k hk, faN_app]
  congr 1
  unfold faN
  rw [List.filter_cons, if_pos (by simpa using h), List.filter_nil]
set_option maxRecDepth 100000 in
theorem faN_no {l : List Nn} {a k : Nat} (hk : k < l.length) (h : (l.getD k nz0).addr ≠ a) : faN (l.take (k + 1)) a = faN (l.take k) a := by
  rw [takeN_snoc l k hk, faN_app]
  have : faN [l.getD k nz0] a = [] := by unfold faN; rw [List.filter_cons, if_neg (by simpa using h), List.filter_nil]
  rw [this, List.append_nil]
def OwW (lo : Nat) (v : Value) (L : List Nat) (W : World) : Prop := W.ownsRow lo 29 4 v L.length (wcs L) ∧ ∀ x ∈ L, x < M256
set_option maxRecDepth 100000 in
theorem OwW.ws {lo : Nat} {v : Value} {L : List Nat} {W : World} (h : OwW lo v L W) : Ws W v L := own_ws h.1 rfl h.2
set_option maxRecDepth 100000 in
theorem OwW.ext {lo : Nat} {v : Value} {L : List Nat} {W W' : World} (h : OwW lo v L W) (he : Ext W W') : OwW lo v L W' := ⟨own_ext h.1 he, h.2⟩
set_option maxRecDepth 100000 in
theorem OwW.add {lo x : Nat} {v' : Value} {L : List Nat} {W' : World} (h2 : ∀ x ∈ L, x < M256) (hx : x < M256) (h : W'.ownsRow lo 29 4 v' (L.length + 1) (wcs L ++ (wc x).toList)) : OwW lo v' (L ++ [x]) W' := by
  refine ⟨?_, fun y hy => ?_⟩
  · rw [List.length_append, wcs_snoc L x] at *
    exact h
  · rcases List.mem_append.1 hy with hy | hy
    · exact h2 y hy
    · rw [List.mem_singleton.1 hy]; exact hx
set_option maxRecDepth 100000 in
set_option maxHeartbeats 4000000 in
theorem refOfN_any (v : Value) (l : List Nn) (a : Nat) (w : World) (hs : Nns w v l) (hl : l.length ≤ 1000) : Calls Try.prog 20 #[v, .int .u64 (a : Nat)] w fun e w' => ∃ u, e = .returned u ∧ Ws w' u ((faN l a).map jnP) ∧ Ext w w' := by
  have HS := Lib.hid hs
  obtain ⟨A1, c, rfl, h1, h2⟩ := hs.len
  unfold maxLen at h2
  clear hs
  go_enter Try.func20, Try.ntmps20
  go_wp2_with fail
  go_loopw [10, 5] (fun iv ov wr => ∃ k : Nat, k ≤ l.length ∧ iv = .int .i64 k ∧ Hid (OwW w.heap.size ov ((faN (l.take k) a).map jnP) wr ∧ Ext w wr)) (fun iv _ _ => l.length - (intOf iv).toNat)
  case atStart => exact ⟨0, by omega, rfl, Lib.hid ⟨⟨World.ownsRow_nil _ _ _ _, fun x hx => nomatch hx⟩, Ext.refl _⟩⟩
  case round =>
    obtain ⟨k, hk, rfl, HJ⟩ := hrel
    by_cases hlt : k < l.length
    · have hd : decide (k < l.length) = true := decide_eq_true hlt
      have hd2 : decide ((k : Int) < (l.length : Int)) = true := decide_eq_true (by omega)
      obtain ⟨bb, oo, rfl, hrg, hp⟩ := (HS.out.ext HJ.out.2).at k hlt
      have HR := Lib.hid hrg
      have HPX := Lib.hid hp.2.2
      have HYES := Lib.hid (fun h => faN_yes (l := l) (a := a) hlt h)
      have HNO := Lib.hid (fun h => faN_no (l := l) (a := a) hlt h)
      have HZS := Lib.hid HJ.out.2.size
      have HLN := Lib.hid (show ((faN (l.take k) a).map jnP).length + 1 ≤ 1099511627776 by have := List.length_filter_le (fun p : Nn => decide (p.addr = a)) (l.take k); have := List.length_take_le k l; rw [List.length_map]; unfold faN; omega)
      clear hrg hp
      generalize l.getD k nz0 = p at *
      obtain ⟨L, hL⟩ : ∃ L, (faN (l.take k) a).map jnP = L := ⟨_, rfl⟩
      have HLL := Lib.hid hL
      rw [hL] at HJ HLN
      clear hL
      obtain ⟨_, A3, c3, rfl, _, _, _⟩ := Rs.of_own HJ.out.1.1
      by_cases hpa : p.addr = a
      · have hf : ((p.addr : Int) == (a : Int)) = true := by rw [beq_iff_eq]; omega
        have HN := Lib.hid (show (faN (l.take (k + 1)) a).map jnP = L ++ [jnP p] by rw [HYES.out hpa, List.map_append, HLL.out]; rfl)
        clear hpa HYES HNO
        go_upto_region 6 with (first
          | ((with_reducible refine wpList_load_nn ?_ (.tmp 12) ?_ bb (oo + k * 6) p ?_ ?_ ?_); (exact rfl); (exact rfl); (exact rfl); (exact HR.out))
          | ((with_reducible refine wpList_store_nn ?_ ?_ (.tmp 7) (.tmp 13) ?_ wr.heap.size nz0 p ?_ ?_ ?_ ?_); (exact rfl); (exact rfl); (exact rfl); (exact rfl); (exact rfl); (exact (Cs.new _ _ _ _ rfl)); intro wb kb gb; have KB := Lib.hid kb; have c0 := kb.addr; have c5 := kb.nxt; have GB := Lib.hid gb; clear kb gb))
        have HXB := Lib.hid ((HJ.out.2.alloc (.cells (nnc nz0) 38)).grown GB.out HZS.out)
        have HXL := Lib.hid (((Ext.refl wr).alloc (.cells (nnc nz0) 38)).grown GB.out (Nat.le_refl _))
        have HKK := Lib.hid KB.out.key
        go_wp2_with (first
          | ((with_reducible refine wpList_load_wordIn ?_ (.tmp 19) ?_ wr.heap.size 1 (p.key) ?_ ?_ ?_); (exact rfl); (exact rfl); (exact rfl); (exact HKK.out)))
        refine (refJoin_any p.key p.nxt _ HPX.out).mono ?_
        rintro e wj ⟨rfl, he⟩
        have HXJ := Lib.hid (HXB.out.trans he)
        have HOJ := Lib.hid (HJ.out.1.ext (HXL.out.trans he))
        have HJS := Lib.hid HXJ.out.size
        have HJP : Hid (jnP p = jnN p.key p.nxt) := Lib.hid rfl
        have HJL := Lib.hid (jnN_lt p.key p.nxt HPX.out)
        rw [← HJP.out]
        rw [← HJP.out] at HJL
        clear he c0 c5 HKK KB GB HXB HXL HJ HR hd hd2 HJP
        go_wp2_with (first
          | ((with_reducible refine wpList_build_word ?_ (.tmp 23) ?_ (jnP p) ?_ ?_); (exact rfl); (exact rfl); (exact rfl))
          | (at_builtin; refine wpList_append_row ?_ (.tmp 18) (.tmp 24) 42 rfl w.heap.size 29 Try.underlying42 _ 4 32 winfo3 rfl (by decide) (.slice A3 L.length c3) L.length (wcs L) rfl (own_ext HOJ.out.1 ((Ext.refl _).alloc _)) (.slice (some ⟨wj.heap.size, 0, none⟩) 1 1) 1 (wc (jnP p)).toList rfl (rs_word1 (Cs.new _ _ _ _ rfl)) (wc_ones _) HLN.out (by decide) (Nat.le_trans HJS.out (by rw [World.size_alloc]; exact Nat.le_succ _)) ?_; (exact rfl); intro v5 w5 o5 g5 b5; have O5 := Lib.hid (OwW.add HOJ.out.2 HJL.out o5); have E5 := Lib.hid (Ext.appendR (HXJ.out.alloc (.cells (wc (jnP p)) 29)) (own_ext HOJ.out.1 ((Ext.refl _).alloc _)) g5); clear o5 g5 b5))
        exact ⟨⟨k + 1, by omega, by go_num, Lib.hid ⟨by rw [HN.out]; exact O5.out, E5.out⟩⟩, by simp [intOf]; omega⟩
      · have hf : ((p.addr : Int) == (a : Int)) = false := by rw [beq_eq_false_iff_ne]; omega
        have HN := Lib.hid (show (faN (l.take (k + 1)) a).map jnP = L by rw [HNO.out hpa, HLL.out])
        clear hpa HYES HNO
        go_wp2_with (first
          | ((with_reducible refine wpList_load_nn ?_ (.tmp 12) ?_ bb (oo + k * 6) p ?_ ?_ ?_); (exact rfl); (exact rfl); (exact rfl); (exact HR.out))
          | ((with_reducible refine wpList_store_nn ?_ ?_ (.tmp 7) (.tmp 13) ?_ wr.heap.size nz0 p ?_ ?_ ?_ ?_); (exact rfl); (exact rfl); (exact rfl); (exact rfl); (exact rfl); (exact (Cs.new _ _ _ _ rfl)); intro wb kb gb; have KB := Lib.hid kb; have c0 := kb.addr; have c5 := kb.nxt; have GB := Lib.hid gb; clear kb gb))
        exact ⟨⟨k + 1, by omega, by go_num, Lib.hid ⟨by rw [HN.out]; exact HJ.out.1.ext (((Ext.refl wr).alloc (.cells (nnc nz0) 38)).grown GB.out (Nat.le_refl _)), (HJ.out.2.alloc (.cells (nnc nz0) 38)).grown GB.out HZS.out⟩⟩, by simp [intOf]; omega⟩
    · obtain rfl : k = l.length := by omega
      have hd : decide (l.length < l.length) = false := decide_eq_false (by omega)
      have hd2 : decide ((l.length : Int) < (l.length : Int)) = false := decide_eq_false (by omega)
      rw [List.take_length] at HJ
      have HW := Lib.hid HJ.out.1.ws
      have HX := Lib.hid HJ.out.2
      clear HJ
      go_wp2_with fail
      refine bodyPost_ret (results_tmp rfl _ _ _) rfl ?_
      exact ⟨_, rfl, HW.out, HX.out⟩
/-! ### Use -/
def ltK (l : List Nn) (c k : Nat) : List Nn := (l.take k).filter fun q => decide (q.cod < c)
def gtK (l : List Nn) (c k : Nat) : List Nn := (l.take k).filter fun q => decide (c < q.cod)
/-- What is laid of the nonces ahead of k, with the one that is put in. -/
def outK (l : List Nn) (p : Nn) (k : Nat) : List Nn := ltK l p.cod k ++ (if (gtK l p.cod k).isEmpty then [] else p :: gtK l p.cod k)
def laidK (l : List Nn) (p : Nn) (k : Nat) : Bool := !(gtK l p.cod k).isEmpty
set_option maxRecDepth 100000 in
theorem ltK_snoc (l : List Nn) (c k : Nat) (hk : k < l.length) : ltK l c (k + 1) = ltK l c k ++ (if (l.getD k nz0).cod < c then [l.getD k nz0] else []) := by
  unfold ltK
  rw [takeN_snoc l k hk, List.filter_append, List.filter_cons, List.filter_nil]
  simp only [decide_eq_true_eq]
set_option maxRecDepth 100000 in
theorem gtK_snoc (l : List Nn) (c k : Nat) (hk : k < l.length) : gtK l c (k + 1) = gtK l c k ++ (if c < (l.getD k nz0).cod then [l.getD k nz0] else []) := by
  unfold gtK
  rw [takeN_snoc l k hk, List.filter_append, List.filter_cons, List.filter_nil]
  simp only [decide_eq_true_eq]
set_option maxRecDepth 100000 in
theorem gtK_none {l : List Nn} (hr : RiseN l) (c k : Nat) (hk : k < l.length) (h : (l.getD k nz0).cod < c) : gtK l c k = [] := by
  unfold gtK
  rw [List.filter_eq_nil_iff]
  intro q hq
  obtain ⟨i, hi, e⟩ := List.getElem_of_mem hq
  have hik : i < k := by rw [List.length_take] at hi; omega
  have h1 := hr i k hik hk
  have e2 : l.getD i nz0 = q := by
    rw [← e, List.getElem_take, List.getD_eq_getElem?_getD, List.getElem?_eq_getElem (by omega)]
    rfl
  rw [e2] at h1
  simp
  omega
set_option maxRecDepth 100000 in
theorem outK_same {l : List Nn} {p : Nn} {k : Nat} (hk : k < l.length) (h : (l.getD k nz0).cod = p.cod) : outK l p (k + 1) = outK l p k ∧ laidK l p (k + 1) = laidK l p k := by
  unfold outK laidK
  rw [ltK_snoc l _ k hk, gtK_snoc l _ k hk, h, if_neg (Nat.lt_irrefl _), List.append_nil, List.append_nil]
  exact ⟨rfl, rfl⟩
set_option maxRecDepth 100000 in
theorem outK_lt {l : List Nn} (hr : RiseN l) {p : Nn} {k : Nat} (hk : k < l.length) (h : (l.getD k nz0).cod < p.cod) : laidK l p k = false ∧ outK l p (k + 1) = outK l p k ++ [l.getD k nz0] ∧ laidK l p (k + 1) = false := by
  have h0 := gtK_none hr p.cod k hk h
  have h1 : gtK l p.cod (k + 1) = [] := by rw [gtK_snoc l _ k hk, h0, if_neg (by omega)]; rfl
  unfold outK laidK
  rw [h0, h1, ltK_snoc l _ k hk, if_pos h]
  refine ⟨rfl, ?_, rfl⟩
  simp
set_option maxRecDepth 100000 in
theorem outK_gt {l : List Nn} {p : Nn} {k : Nat} (hk : k < l.length) (h : p.cod < (l.getD k nz0).cod) : laidK l p (k + 1) = true ∧ outK l p (k + 1) = (if laidK l p k then outK l p k else outK l p k ++ [p]) ++ [l.getD k nz0] := by
  have h1 : gtK l p.cod (k + 1) = gtK l p.cod k ++ [l.getD k nz0] := by rw [gtK_snoc l _ k hk, if_pos h]
  have h2 : ltK l p.cod (k + 1) = ltK l p.cod k := by rw [ltK_snoc l _ k hk, if_neg (by omega), List.append_nil]
  have h3 : (gtK l p.cod k ++ [l.getD k nz0]).isEmpty = false := by simp
  unfold outK laidK
  rw [h1, h2, h3]
  refine ⟨rfl, ?_⟩
  cases hg : (gtK l p.cod k).isEmpty with
  | true =>
    have : gtK l p.cod k = [] := List.isEmpty_iff.1 hg
    simp [this]
  | false => simp
set_option maxRecDepth 100000 in
theorem outK_all (l : List Nn) (p : Nn) : (if laidK l p l.length then outK l p l.length else outK l p l.length ++ [p]) = plN l p := by
  unfold outK laidK plN ltK gtK
  rw [List.take_length]
  cases hg : (l.filter fun q => decide (p.cod < q.cod)).isEmpty with
  | true =>
    have : (l.filter fun q => decide (p.cod < q.cod)) = [] := List.isEmpty_iff.1 hg
    rw [this]
    simp
  | false => simp
set_option maxRecDepth 100000 in
theorem outK_len (l : List Nn) (p : Nn) (k : Nat) : (outK l p k).length ≤ l.length + 1 + l.length := by
  unfold outK
  have h1 : (ltK l p.cod k).length ≤ l.length := Nat.le_trans (List.length_filter_le _ _) (by rw [List.length_take]; omega)
  have h2 : (gtK l p.cod k).length ≤ l.length := Nat.le_trans (List.length_filter_le _ _) (by rw [List.length_take]; omega)
  rw [List.length_append]
  split
  · simp; omega
  · rw [List.length_cons]; omega
set_option maxRecDepth 100000 in
theorem OwnN.add {lo : Nat} {v' : Value} {L : List Nn} {p : Nn} {W' : World} (h2 : ∀ x ∈ L, x.ok) (hx : p.ok) (h : W'.ownsRow lo 38 6 v' (L.length + 1) (nnf L ++ (nnc p).toList)) : OwnN W' lo v' (L ++ [p]) := by
  refine ⟨?_, fun y hy => ?_⟩
  · rw [List.length_append, nnf_app2, nnf_single]
    exact h
  · rcases List.mem_append.1 hy with hy | hy
    · exact h2 y hy
    · rw [List.mem_singleton.1 hy]; exact hx
set_option maxRecDepth 100000 in
/-- The next sequence is 0 just where the key is not there. -/
theorem nxt_zero {l : List Nn} (hok : ∀ p ∈ l, p.ok) (h : rightN l = true) (a k : Nat) (_hk : k < M256) : (rowN l a k).nxt = 0 ↔ hasN l (cdN a k) = false := by
  cases hh : hasN l (cdN a k) with
  | false => unfold rowN; rw [hh]; simp
  | true =>
    have hi := hasN_lt hh
    have hm := getN_mem hi
    have := ((may_iff (hok _ hm).2.1).1 (right_may h hm)).2.2
    unfold rowN
    rw [hh, if_pos rfl]
    exact ⟨fun e => by omega, fun e => by cases e⟩
set_option maxRecDepth 100000 in
/-- The document's Use, of nonces that may be, errs as the program does. -/
theorem usE_ref {l : List Nn} (hok : ∀ p ∈ l, p.ok) (h : rightN l = true) (a x : Nat) (hx : x < M256) :
    usE l a x = if a = 0 then 2 else if seqN x = (rowN l a (keyN x)).nxt then (if seqN x = 18446744073709551615 then 6 else if (rowN l a (keyN x)).nxt = 0 then (if l.length = 48 then 6 else 0) else 0) else 181 := by
  unfold usE
  rw [h, if_pos rfl]
  have hz := nxt_zero hok h a (keyN x) (K192_lt (keyN_lt hx))
  cases hh : hasN l (cdN a (keyN x)) with
  | false => rw [hz.2 hh]; simp
  | true =>
    have : ¬ (rowN l a (keyN x)).nxt = 0 := fun e => by rw [hz.1 e] at hh; cases hh
    rw [if_neg this]
    simp
def UsJ (lo g8 g11 key : Nat) (p : Nn) (v : Value) (L : List Nn) (w0 W : World) : Prop := OwnN W lo v L ∧ Nb6 W g11 p ∧ Wd W g8 29 key ∧ Ext w0 W
set_option maxRecDepth 100000 in
theorem UsJ.ext {lo g8 g11 key : Nat} {p : Nn} {v : Value} {L : List Nn} {w0 W W' : World} (h : UsJ lo g8 g11 key p v L w0 W) (he : Ext W W') : UsJ lo g8 g11 key p v L w0 W' := ⟨h.1.ext he, h.2.1.ext he, Wd.ext h.2.2.1 he, h.2.2.2.trans he⟩
set_option maxRecDepth 100000 in
theorem UsJ.app {lo g8 g11 key : Nat} {p : Nn} {v v' : Value} {L L' : List Nn} {w0 W W' : World} (h : UsJ lo g8 g11 key p v L w0 W) (hlo : lo = w0.heap.size) (h8 : g8 < lo) (h11 : g11 < lo) (hg : W.grownBy W' v.ownBlock) (ho : OwnN W' lo v' L') : UsJ lo g8 g11 key p v' L' w0 W' :=
  ⟨ho, Cs.kept h.2.1 hg (fun e => by have := (h.1.lt g11 (by first | exact e | exact e.symm)).1; omega), Wd.kept h.2.2.1 hg (fun e => by have := (h.1.lt g8 (by first | exact e | exact e.symm)).1; omega), Ext.appendR h.2.2.2 (by rw [← hlo]; exact h.1.1) hg⟩
set_option maxRecDepth 100000 in
set_option maxHeartbeats 4000000 in
theorem refUseN_any (sv : Value) (l : List Nn) (a x : Nat) (w : World) (hs : Nns w sv l) (hr : rightN l = true) (ha : a < 18446744073709551616) (hx : x < M256) :
    Calls Try.prog 16 #[sv, .int .u64 (a : Nat), wv x] w (RetU w l a x) := by
  have HS := Lib.hid hs
  have HX := Lib.hid hx
  have HA := Lib.hid ha
  have HRR := Lib.hid hr
  have HOK := Lib.hid hs.oks
  have HEE := Lib.hid (usE_ref hs.oks hr a x hx)
  obtain ⟨A1, c, rfl, h1, h2⟩ := hs.len
  unfold maxLen at h2
  clear hs ha hx hr
  obtain ⟨w1, hw1⟩ : ∃ w1, w.alloc (.cells (wc x) 29) = w1 := ⟨_, rfl⟩
  have HW1 := Lib.hid hw1
  have HB : Hid (Wd w1 w.heap.size 29 x) := Lib.hid (by rw [← hw1]; exact Cs.new _ _ _ _ rfl)
  have HE : Hid (Ext w w1) := Lib.hid (by rw [← hw1]; exact (Ext.refl w).alloc _)
  clear hw1
  rw [show wv x = .agg (wc x) from rfl]
  obtain ⟨kc, hkc⟩ : ∃ kc, wc x = kc := ⟨_, rfl⟩
  rw [hkc] at HW1
  rw [hkc]
  clear hkc
  go_enter Try.func16, Try.ntmps16
  go_upto_region 1 with fail
  rw [HW1.out]
  clear HW1
  obtain ⟨g5, hg5⟩ : ∃ g, w.heap.size = g := ⟨_, rfl⟩
  rw [hg5] at HB ⊢
  clear hg5
  have HBW := Lib.hid (Cs.rg HB.out)
  go_wp2_with (first
    | ((with_reducible refine wpList_load_wordIn ?_ (.tmp 5) ?_ g5 0 (x) ?_ ?_ ?_); (exact rfl); (exact rfl); (exact rfl); (exact HBW.out)))
  refine (refSplit_any x _ HX.out).mono ?_
  rintro e w3 ⟨rfl, he⟩
  have HE3 := Lib.hid (HE.out.trans he)
  have HSZ3 := Lib.hid HE3.out.size
  have HUD : Hid (usE l a x = 0 → usL l a x = plN l ⟨a, keyN x, seqN x + 1⟩) := Lib.hid (fun h => by unfold usL; rw [h]; rfl)
  have HKY := Lib.hid (K192_lt (keyN_lt HX.out))
  have HSQ := Lib.hid (seqN_lt x)
  clear he HB HBW HE
  generalize keyN x = k at *
  generalize seqN x = s at *
  go_upto_region 2 with (first
    | ((with_reducible refine wpList_store_word ?_ ?_ 29 (.tmp 8) (.tmp 19) ?_ winfo w3.heap.size (wc 0) (k) ?_ ?_ ?_ ?_ ?_); (exact rfl); (exact rfl); (exact rfl); (exact rfl); (exact rfl); (exact (Cs.new _ _ _ _ rfl)); (exact rfl); intro w9 k9 g9; have K9 := Lib.hid k9; have G9 := Lib.hid g9; clear k9 g9))
  have HE4 := Lib.hid ((HE3.out.alloc (.cells (wc 0) 29)).grown G9.out HSZ3.out)
  have HK4 := Lib.hid K9.out
  have HG8W := Lib.hid (show w.heap.size ≤ w3.heap.size from HSZ3.out)
  clear HE3 K9 G9 HSZ3
  generalize hg8 : w3.heap.size = g8 at *
  clear hg8
  have HKR := Lib.hid (Cs.rg HK4.out)
  go_wp2_with (first
    | ((with_reducible refine wpList_load_wordIn ?_ (.tmp 8) ?_ g8 0 (k) ?_ ?_ ?_); (exact rfl); (exact rfl); (exact rfl); (exact HKR.out)))
  refine (refNextN_any _ l a k _ (HS.out.ext HE4.out) (right_rise HRR.out) HKY.out).mono ?_
  rintro e w5 ⟨rfl, he⟩
  have HE5 := Lib.hid (HE4.out.trans he)
  have HK5 := Lib.hid (Wd.ext HK4.out he)
  have HNL := Lib.hid (show (rowN l a k).nxt < 18446744073709551616 from (rowN_ok HOK.out HA.out HKY.out).2.2)
  clear he HK4 HE4 HKR
  generalize (rowN l a k).nxt = nx at *
  by_cases h0 : a = 0
  · have f0 : (((a : Nat) : Int) == 0) = true := by rw [beq_iff_eq]; omega
    have HEV := Lib.hid (show usE l a x = 2 by rw [HEE.out, if_pos h0])
    clear h0
    have HUL := Lib.hid (show usL l a x = [] by unfold usL; rw [HEV.out]; rfl)
    go_wp2_with fail
    refine bodyPost_ret (results_tmp2 rfl _ _ _) rfl ?_
    exact ⟨_, by rw [HEV.out]; rfl, by rw [HUL.out]; exact OwnN.nil _ _, HE5.out⟩
  · have f0 : (((a : Nat) : Int) == 0) = false := by rw [beq_eq_false_iff_ne]; omega
    have HE0 := Lib.hid (HEE.out.trans (if_neg h0))
    clear h0 HEE
    by_cases hsn : s = nx
    · have f1 : (((s : Nat) : Int) != (nx : Int)) = false := by simp [hsn]
      have HS1 := Lib.hid (HE0.out.trans (if_pos hsn))
      have HSN := Lib.hid hsn
      clear hsn HE0
      by_cases hsm : s = 18446744073709551615
      · have f2 : (((s : Nat) : Int) == 18446744073709551615) = true := by rw [beq_iff_eq]; omega
        have HEV := Lib.hid (HS1.out.trans (if_pos hsm))
        clear hsm
        have HUL := Lib.hid (show usL l a x = [] by unfold usL; rw [HEV.out]; rfl)
        go_wp2_with fail
        refine bodyPost_ret (results_tmp2 rfl _ _ _) rfl ?_
        exact ⟨_, by rw [HEV.out]; rfl, by rw [HUL.out]; exact OwnN.nil _ _, HE5.out⟩
      · have f2 : (((s : Nat) : Int) == 18446744073709551615) = false := by rw [beq_eq_false_iff_ne]; omega
        have HS2 := Lib.hid (HS1.out.trans (if_neg hsm))
        have HWR := Lib.hid (show IntKind.u64.wrap ((nx : Int) + 1) = ((nx + 1 : Nat) : Int) by rw [IntKind.wrap_u64]; have := HSN.out; have := HSQ.out; omega)
        have HNX1 := Lib.hid (show nx + 1 < 18446744073709551616 by have := HSN.out; have := HSQ.out; omega)
        clear hsm HS1
        by_cases hbad : nx = 0 ∧ l.length = 48
        · have f3 : (((nx : Nat) : Int) == 0) = true := by rw [beq_iff_eq]; omega
          have f4 : (((l.length : Nat) : Int) == 48) = true := by rw [beq_iff_eq]; omega
          have HEV := Lib.hid (show usE l a x = 6 by rw [HS2.out, if_pos hbad.1, if_pos hbad.2])
          clear hbad
          have HUL := Lib.hid (show usL l a x = [] by unfold usL; rw [HEV.out]; rfl)
          go_wp2_with fail
          refine bodyPost_ret (results_tmp2 rfl _ _ _) rfl ?_
          exact ⟨_, by rw [HEV.out]; rfl, by rw [HUL.out]; exact OwnN.nil _ _, HE5.out⟩
        · have HEV := Lib.hid (show usE l a x = 0 by
            rw [HS2.out]
            by_cases hz : nx = 0
            · rw [if_pos hz, if_neg (fun e => hbad ⟨hz, e⟩)]
            · rw [if_neg hz])
          have HFIN := Lib.hid (show usL l a x = plN l ⟨a, k, nx + 1⟩ by rw [HUD.out HEV.out, HSN.out])
          obtain ⟨p, hp⟩ : ∃ p : Nn, (⟨a, k, nx + 1⟩ : Nn) = p := ⟨_, rfl⟩
          have HP := Lib.hid hp
          rw [hp] at HFIN
          have HPC := Lib.hid (show nnc p = #[.int .u64 (a : Nat), lv (lb k 0), lv (lb k 1), lv (lb k 2), lv (lb k 3), .int .u64 ((nx + 1 : Nat) : Int)] by rw [← hp]; rfl)
          have HPO := Lib.hid (show p.ok by rw [← hp]; exact ⟨HA.out, HKY.out, HNX1.out⟩)
          have HPD := Lib.hid (show p.cod = cdN a k by rw [← hp]; rfl)
          clear hp HUD
          have HWZ5 := Lib.hid HE5.out.size
          have HKR5 := Lib.hid (Cs.rg HK5.out)
          by_cases hz : nx = 0
          · have f3 : (((nx : Nat) : Int) == 0) = true := by rw [beq_iff_eq]; omega
            have f4 : (((l.length : Nat) : Int) == 48) = false := by rw [beq_eq_false_iff_ne]; omega
            clear hz hbad
            go_upto_region 10 with (first
              | ((with_reducible refine wpList_load_wordIn ?_ (.tmp 8) ?_ g8 0 (k) ?_ ?_ ?_); (exact rfl); (exact rfl); (exact rfl); (exact HKR5.out); (unfold wv wc))
              | ((with_reducible refine wpList_store_nn ?_ ?_ (.tmp 11) (.tmp 48) ?_ w5.heap.size nz0 p ?_ ?_ ?_ ?_); (exact rfl); (exact rfl); (exact rfl); (exact rfl); (rw [HPC.out, ← HWR.out]; exact rfl); (exact (Cs.new _ _ _ _ rfl)); intro wb kb gb; have KB := Lib.hid kb; have GB := Lib.hid gb; clear kb gb))
            have HE6 := Lib.hid ((HE5.out.alloc (.cells (nnc nz0) 38)).grown GB.out HWZ5.out)
            have HK6 := Lib.hid (Wd.kept (Wd.ext HK5.out ((Ext.refl _).alloc (.cells (nnc nz0) 38))) GB.out (some_ne (Nat.ne_of_lt (Wd.lt HK5.out))))
            have HG11L := Lib.hid (show w5.heap.size < wb.heap.size from Cs.lt KB.out)
            have HG8L := Lib.hid (show g8 < wb.heap.size from Wd.lt HK6.out)
            generalize hg11 : w5.heap.size = g11 at *
            clear GB HE5 HK5 HKR5 hg11 f0 f1 f2 f3
            go_wp2_with fail
            obtain ⟨lo, hlo⟩ : ∃ lo, wb.heap.size = lo := ⟨_, rfl⟩
            have HLO := Lib.hid hlo
            rw [hlo] at HG11L HG8L
            clear hlo
            go_loopw [51, 12, 13] (fun iv ov bv wr => ∃ i : Nat, i ≤ l.length ∧ iv = .int .i64 i ∧ bv = .bool (laidK l p i) ∧ Hid (UsJ lo g8 g11 k p ov (outK l p i) wb wr)) (fun iv _ _ _ => l.length - (intOf iv).toNat)
            case atStart => exact ⟨0, by omega, rfl, rfl, Lib.hid ⟨OwnN.nil _ _, KB.out, HK6.out, Ext.refl _⟩⟩
            case round =>
              clear KB HK6
              obtain ⟨i, hi, rfl, rfl, HJ⟩ := hrel
              by_cases hlt : i < l.length
              · have hd : decide (i < l.length) = true := decide_eq_true hlt
                have hd2 : decide ((i : Int) < (l.length : Int)) = true := decide_eq_true (by omega)
                obtain ⟨bb, oo, rfl, hrg, hqo⟩ := (HS.out.ext (HE6.out.trans HJ.out.2.2.2)).at i hlt
                have HR := Lib.hid hrg
                have HQO := Lib.hid hqo
                have HQK := Lib.hid hqo.2.1
                have HSAME := Lib.hid (fun h => outK_same (l := l) (p := p) hlt h)
                have HLT := Lib.hid (fun h => outK_lt (right_rise HRR.out) (p := p) hlt h)
                have HGT := Lib.hid (fun h => outK_gt (l := l) (p := p) hlt h)
                have HLN := Lib.hid (show (outK l p i).length + 1 ≤ 1099511627776 by have := outK_len l p i; have := right_len HRR.out; omega)
                have HLN2 := Lib.hid (show (outK l p i ++ [p]).length + 1 ≤ 1099511627776 by have := outK_len l p i; have := right_len HRR.out; rw [List.length_append, List.length_singleton]; omega)
                have HZS := Lib.hid HJ.out.2.2.2.size
                clear hrg hqo
                generalize l.getD i nz0 = q at *
                obtain ⟨_, A3, c3, rfl, _, _, _⟩ := Rs.of_own HJ.out.1.1
                have HG15 := Lib.hid (show (Value.slice A3 (outK l p i).length c3).ownBlock ≠ some wr.heap.size from fun e => by have := (HJ.out.1.lt _ e).2; omega)
                go_upto_region 15 with (first
                  | ((with_reducible refine wpList_load_nn ?_ (.tmp 53) ?_ bb (oo + i * 6) q ?_ ?_ ?_); (exact rfl); (exact rfl); (exact rfl); (exact HR.out))
                  | ((with_reducible refine wpList_store_nn ?_ ?_ (.tmp 15) (.tmp 54) ?_ wr.heap.size nz0 q ?_ ?_ ?_ ?_); (exact rfl); (exact rfl); (exact rfl); (exact rfl); (exact rfl); (exact (Cs.new _ _ _ _ rfl)); intro w6 k6 g6; have KQ1 := Lib.hid k6; have c0 := k6.addr; have G6 := Lib.hid g6; clear k6 g6))
                have HJ1 := Lib.hid (HJ.out.ext (((Ext.refl wr).alloc (.cells (nnc nz0) 38)).grown G6.out (Nat.le_refl _)))
                clear hd hd2 HR HJ G6
                generalize hg15 : wr.heap.size = g15 at *
                clear hg15
                have HQW := Lib.hid KQ1.out.key
                have HKW := Lib.hid (Cs.rg HJ1.out.2.2.1)
                by_cases hqa : q.addr = a
                · have hf : ((q.addr : Int) == (a : Int)) = true := by rw [beq_iff_eq]; omega
                  by_cases hqk : q.key = k
                  · have hf2 : (q.key == k) = true := by rw [beq_iff_eq]; exact hqk
                    have HC := Lib.hid (HSAME.out (by rw [HPD.out, ← hqa, ← hqk]; rfl))
                    clear hqa hqk HSAME HLT HGT
                    go_wp2_with (first
                      | ((with_reducible refine wpList_load_wordIn ?_ (.tmp 60) ?_ g15 1 (q.key) ?_ ?_ ?_); (exact rfl); (exact rfl); (exact rfl); (exact HQW.out))
                      | ((with_reducible refine wpList_load_wordIn ?_ (.tmp 8) ?_ g8 0 (k) ?_ ?_ ?_); (exact rfl); (exact rfl); (exact rfl); (exact HKW.out))
                      | ((with_reducible refine wpList_eql_word ?_ (.tmp 61) (.tmp 62) ?_ q.key k HQK.out HKY.out ?_ ?_ ?_); (exact rfl); (exact rfl); (exact rfl); (exact rfl); rw [hf2]))
                    exact ⟨⟨i + 1, by omega, by go_num, by rw [HC.out.2], Lib.hid (by rw [HC.out.1]; exact HJ1.out)⟩, by simp [intOf]; omega⟩
                  · have hf2 : (q.key == k) = false := by rw [beq_eq_false_iff_ne]; exact hqk
                    have hcne : q.cod ≠ p.cod := by rw [HPD.out]; exact fun e => hqk (cdN_inj HQO.out.2.1 HKY.out e).2
                    clear hqa hqk
                    go_upto_region 16 with (first
                      | ((with_reducible refine wpList_load_wordIn ?_ (.tmp 60) ?_ g15 1 (q.key) ?_ ?_ ?_); (exact rfl); (exact rfl); (exact rfl); (exact HQW.out))
                      | ((with_reducible refine wpList_load_wordIn ?_ (.tmp 8) ?_ g8 0 (k) ?_ ?_ ?_); (exact rfl); (exact rfl); (exact rfl); (exact HKW.out))
                      | ((with_reducible refine wpList_eql_word ?_ (.tmp 61) (.tmp 62) ?_ q.key k HQK.out HKY.out ?_ ?_ ?_); (exact rfl); (exact rfl); (exact rfl); (exact rfl); rw [hf2]))
                    clear hf hf2 c0 HQW HKW
                    by_cases hcl : q.cod < p.cod
                    · have HC := Lib.hid (HLT.out hcl)
                      have HB : Hid (decide (p.cod < q.cod) = false) := Lib.hid (decide_eq_false (by omega))
                      rw [HC.out.1]
                      clear hcl hcne HLT HGT HSAME
                      go_wp2_with (first
                        | ((with_reducible refine wpList_load_nn ?_ (.tmp 11) ?_ g11 0 p ?_ ?_ ?_); (exact rfl); (exact rfl); (exact rfl); (exact (Cs.rg HJ1.out.2.1)))
                        | ((with_reducible refine wpList_load_nn ?_ (.tmp 15) ?_ g15 0 q ?_ ?_ ?_); (exact rfl); (exact rfl); (exact rfl); (exact (Cs.rg KQ1.out))))
                      refine (refBefore_any p q _ HPO.out.2.1 HQO.out.2.1).mono ?_
                      rintro e w7 ⟨rfl, he⟩
                      have HJ2 := Lib.hid (HJ1.out.ext he)
                      have KQ2 := Lib.hid (KQ1.out.ext he)
                      have HLOW := Lib.hid (show lo ≤ w7.heap.size by rw [← HLO.out]; exact HJ2.out.2.2.2.size)
                      rw [HB.out]
                      clear he HJ1 KQ1
                      go_wp2_with (first
                        | ((with_reducible refine wpList_load_nn ?_ (.tmp 15) ?_ g15 0 q ?_ ?_ ?_); (exact rfl); (exact rfl); (exact rfl); (exact (Cs.rg KQ2.out)))
                        | ((with_reducible refine wpList_build_one ?_ (.tmp 77) 22 38 ?_ Try.underlying22 _ 6 48 nninfo3 (by decide) (by decide) (nnc q) rfl ?_ ?_); (exact rfl); (exact rfl); (exact rfl))
                        | (at_builtin; refine wpList_append_row ?_ (.tmp 76) (.tmp 78) 22 rfl lo 38 Try.underlying22 _ 6 48 nninfo3 rfl (by decide) (.slice A3 (outK l p i).length c3) (outK l p i).length (nnf (outK l p i)) rfl (own_ext HJ2.out.1.1 ((Ext.refl _).alloc _)) (.slice (some ⟨w7.heap.size, 0, none⟩) 1 1) 1 (nnc q).toList rfl (rs_nn1 (Cs.new _ _ _ _ rfl)) (nnc_ones q) HLN.out (by decide) (Nat.le_trans HLOW.out (by rw [World.size_alloc]; exact Nat.le_succ _)) ?_; (exact rfl); intro v5 w5' o5 g5 b5; have O5 := Lib.hid (OwnN.add HJ2.out.1.2 HQO.out o5); have G5 := Lib.hid g5; have B5 := Lib.hid b5; clear o5 g5 b5))
                      exact ⟨⟨i + 1, by omega, by go_num, by rw [HC.out.2.2], Lib.hid (by rw [HC.out.2.1]; exact (HJ2.out.ext ((Ext.refl _).alloc (.cells (nnc q) 38))).app HLO.out.symm HG8L.out HG11L.out G5.out O5.out)⟩, by simp [intOf]; omega⟩
                    · have HC := Lib.hid (HGT.out (by omega))
                      have HB : Hid (decide (p.cod < q.cod) = true) := Lib.hid (decide_eq_true (by omega))
                      clear hcl hcne HLT HGT HSAME
                      cases hl : laidK l p i with
                      | true =>
                        have HCO := Lib.hid (show outK l p (i + 1) = outK l p i ++ [q] by rw [HC.out.2, hl]; rfl)
                        have HLOW := Lib.hid (show lo ≤ w6.heap.size by rw [← HLO.out]; exact HJ1.out.2.2.2.size)
                        clear hl
                        go_wp2_with (first
                          | ((with_reducible refine wpList_load_nn ?_ (.tmp 15) ?_ g15 0 q ?_ ?_ ?_); (exact rfl); (exact rfl); (exact rfl); (exact (Cs.rg KQ1.out)))
                          | ((with_reducible refine wpList_build_one ?_ (.tmp 77) 22 38 ?_ Try.underlying22 _ 6 48 nninfo3 (by decide) (by decide) (nnc q) rfl ?_ ?_); (exact rfl); (exact rfl); (exact rfl))
                          | (at_builtin; refine wpList_append_row ?_ (.tmp 76) (.tmp 78) 22 rfl lo 38 Try.underlying22 _ 6 48 nninfo3 rfl (by decide) (.slice A3 (outK l p i).length c3) (outK l p i).length (nnf (outK l p i)) rfl (own_ext HJ1.out.1.1 ((Ext.refl _).alloc _)) (.slice (some ⟨w6.heap.size, 0, none⟩) 1 1) 1 (nnc q).toList rfl (rs_nn1 (Cs.new _ _ _ _ rfl)) (nnc_ones q) HLN.out (by decide) (Nat.le_trans HLOW.out (by rw [World.size_alloc]; exact Nat.le_succ _)) ?_; (exact rfl); intro v5 w5' o5 g5 b5; have O5 := Lib.hid (OwnN.add HJ1.out.1.2 HQO.out o5); have G5 := Lib.hid g5; have B5 := Lib.hid b5; clear o5 g5 b5))
                        exact ⟨⟨i + 1, by omega, by go_num, by rw [HC.out.1], Lib.hid (by rw [HCO.out]; exact (HJ1.out.ext ((Ext.refl _).alloc (.cells (nnc q) 38))).app HLO.out.symm HG8L.out HG11L.out G5.out O5.out)⟩, by simp [intOf]; omega⟩
                      | false =>
                        have HCO := Lib.hid (show outK l p (i + 1) = (outK l p i ++ [p]) ++ [q] by rw [HC.out.2, hl]; rfl)
                        clear hl
                        go_wp2_with (first
                          | ((with_reducible refine wpList_load_nn ?_ (.tmp 11) ?_ g11 0 p ?_ ?_ ?_); (exact rfl); (exact rfl); (exact rfl); (exact (Cs.rg HJ1.out.2.1)))
                          | ((with_reducible refine wpList_load_nn ?_ (.tmp 15) ?_ g15 0 q ?_ ?_ ?_); (exact rfl); (exact rfl); (exact rfl); (exact (Cs.rg KQ1.out))))
                        refine (refBefore_any p q _ HPO.out.2.1 HQO.out.2.1).mono ?_
                        rintro e w7 ⟨rfl, he⟩
                        have HJ2 := Lib.hid (HJ1.out.ext he)
                        have KQ2 := Lib.hid (KQ1.out.ext he)
                        have HLOW := Lib.hid (show lo ≤ w7.heap.size by rw [← HLO.out]; exact HJ2.out.2.2.2.size)
                        have HG15W := Lib.hid (show g15 < w7.heap.size from Cs.lt KQ2.out)
                        rw [HB.out]
                        clear he HJ1 KQ1
                        go_upto_region 18 with (first
                          | ((with_reducible refine wpList_load_nn ?_ (.tmp 11) ?_ g11 0 p ?_ ?_ ?_); (exact rfl); (exact rfl); (exact rfl); (exact (Cs.rg HJ2.out.2.1)))
                          | ((with_reducible refine wpList_build_one ?_ (.tmp 73) 22 38 ?_ Try.underlying22 _ 6 48 nninfo3 (by decide) (by decide) (nnc p) rfl ?_ ?_); (exact rfl); (exact rfl); (exact rfl))
                          | (at_builtin; refine wpList_append_row ?_ (.tmp 72) (.tmp 74) 22 rfl lo 38 Try.underlying22 _ 6 48 nninfo3 rfl (by decide) (.slice A3 (outK l p i).length c3) (outK l p i).length (nnf (outK l p i)) rfl (own_ext HJ2.out.1.1 ((Ext.refl _).alloc _)) (.slice (some ⟨w7.heap.size, 0, none⟩) 1 1) 1 (nnc p).toList rfl (rs_nn1 (Cs.new _ _ _ _ rfl)) (nnc_ones p) HLN.out (by decide) (Nat.le_trans HLOW.out (by rw [World.size_alloc]; exact Nat.le_succ _)) ?_; (exact rfl); intro v5 w5' o5 g5 b5; have O5 := Lib.hid (OwnN.add HJ2.out.1.2 HPO.out o5); have G5 := Lib.hid g5; have B5 := Lib.hid b5; clear o5 g5 b5))
                        have HNE := Lib.hid (show v5.ownBlock ≠ some g15 from fun e => by
                          rcases B5.out with b | b
                          · exact HG15.out (by rw [← b]; exact e)
                          · rw [b] at e
                            have := HG15W.out
                            injection e with e
                            rw [World.size_alloc] at e
                            omega)
                        have HJ3 := Lib.hid ((HJ2.out.ext ((Ext.refl _).alloc (.cells (nnc p) 38))).app HLO.out.symm HG8L.out HG11L.out G5.out O5.out)
                        have KQ3 := Lib.hid (show Nb6 w5' g15 q from Cs.kept (KQ2.out.ext ((Ext.refl _).alloc (.cells (nnc p) 38))) G5.out (fun e => HG15.out (by first | exact e | exact e.symm)))
                        have HLOW3 := Lib.hid (show lo ≤ w5'.heap.size by rw [← HLO.out]; exact HJ3.out.2.2.2.size)
                        clear HLOW HJ2 KQ2 G5 O5 B5
                        obtain ⟨_, A5, c5', rfl, _, _, _⟩ := Rs.of_own HJ3.out.1.1
                        go_wp2_with (first
                          | ((with_reducible refine wpList_load_nn ?_ (.tmp 15) ?_ g15 0 q ?_ ?_ ?_); (exact rfl); (exact rfl); (exact rfl); (exact (Cs.rg KQ3.out)))
                          | ((with_reducible refine wpList_build_one ?_ (.tmp 77) 22 38 ?_ Try.underlying22 _ 6 48 nninfo3 (by decide) (by decide) (nnc q) rfl ?_ ?_); (exact rfl); (exact rfl); (exact rfl))
                          | (at_builtin; refine wpList_append_row ?_ (.tmp 76) (.tmp 78) 22 rfl lo 38 Try.underlying22 _ 6 48 nninfo3 rfl (by decide) (.slice A5 (outK l p i ++ [p]).length c5') (outK l p i ++ [p]).length (nnf (outK l p i ++ [p])) rfl (own_ext HJ3.out.1.1 ((Ext.refl _).alloc _)) (.slice (some ⟨w5'.heap.size, 0, none⟩) 1 1) 1 (nnc q).toList rfl (rs_nn1 (Cs.new _ _ _ _ rfl)) (nnc_ones q) HLN2.out (by decide) (Nat.le_trans HLOW3.out (by rw [World.size_alloc]; exact Nat.le_succ _)) ?_; (exact rfl); intro v8 w8 o8 g8 b8; have O8 := Lib.hid (OwnN.add HJ3.out.1.2 HQO.out o8); have G8 := Lib.hid g8; have B8 := Lib.hid b8; clear o8 g8 b8))
                        exact ⟨⟨i + 1, by omega, by go_num, by rw [HC.out.1], Lib.hid (by rw [HCO.out]; exact (HJ3.out.ext ((Ext.refl _).alloc (.cells (nnc q) 38))).app HLO.out.symm HG8L.out HG11L.out G8.out O8.out)⟩, by simp [intOf]; omega⟩
                · have hf : ((q.addr : Int) == (a : Int)) = false := by rw [beq_eq_false_iff_ne]; omega
                  have hcne : q.cod ≠ p.cod := by rw [HPD.out]; exact fun e => hqa (cdN_inj HQO.out.2.1 HKY.out e).1
                  clear hqa
                  go_upto_region 16 with fail
                  clear hf c0 HQW HKW
                  by_cases hcl : q.cod < p.cod
                  · have HC := Lib.hid (HLT.out hcl)
                    have HB : Hid (decide (p.cod < q.cod) = false) := Lib.hid (decide_eq_false (by omega))
                    rw [HC.out.1]
                    clear hcl hcne HLT HGT HSAME
                    go_wp2_with (first
                      | ((with_reducible refine wpList_load_nn ?_ (.tmp 11) ?_ g11 0 p ?_ ?_ ?_); (exact rfl); (exact rfl); (exact rfl); (exact (Cs.rg HJ1.out.2.1)))
                      | ((with_reducible refine wpList_load_nn ?_ (.tmp 15) ?_ g15 0 q ?_ ?_ ?_); (exact rfl); (exact rfl); (exact rfl); (exact (Cs.rg KQ1.out))))
                    refine (refBefore_any p q _ HPO.out.2.1 HQO.out.2.1).mono ?_
                    rintro e w7 ⟨rfl, he⟩
                    have HJ2 := Lib.hid (HJ1.out.ext he)
                    have KQ2 := Lib.hid (KQ1.out.ext he)
                    have HLOW := Lib.hid (show lo ≤ w7.heap.size by rw [← HLO.out]; exact HJ2.out.2.2.2.size)
                    rw [HB.out]
                    clear he HJ1 KQ1
                    go_wp2_with (first
                      | ((with_reducible refine wpList_load_nn ?_ (.tmp 15) ?_ g15 0 q ?_ ?_ ?_); (exact rfl); (exact rfl); (exact rfl); (exact (Cs.rg KQ2.out)))
                      | ((with_reducible refine wpList_build_one ?_ (.tmp 77) 22 38 ?_ Try.underlying22 _ 6 48 nninfo3 (by decide) (by decide) (nnc q) rfl ?_ ?_); (exact rfl); (exact rfl); (exact rfl))
                      | (at_builtin; refine wpList_append_row ?_ (.tmp 76) (.tmp 78) 22 rfl lo 38 Try.underlying22 _ 6 48 nninfo3 rfl (by decide) (.slice A3 (outK l p i).length c3) (outK l p i).length (nnf (outK l p i)) rfl (own_ext HJ2.out.1.1 ((Ext.refl _).alloc _)) (.slice (some ⟨w7.heap.size, 0, none⟩) 1 1) 1 (nnc q).toList rfl (rs_nn1 (Cs.new _ _ _ _ rfl)) (nnc_ones q) HLN.out (by decide) (Nat.le_trans HLOW.out (by rw [World.size_alloc]; exact Nat.le_succ _)) ?_; (exact rfl); intro v5 w5' o5 g5 b5; have O5 := Lib.hid (OwnN.add HJ2.out.1.2 HQO.out o5); have G5 := Lib.hid g5; have B5 := Lib.hid b5; clear o5 g5 b5))
                    exact ⟨⟨i + 1, by omega, by go_num, by rw [HC.out.2.2], Lib.hid (by rw [HC.out.2.1]; exact (HJ2.out.ext ((Ext.refl _).alloc (.cells (nnc q) 38))).app HLO.out.symm HG8L.out HG11L.out G5.out O5.out)⟩, by simp [intOf]; omega⟩
                  · have HC := Lib.hid (HGT.out (by omega))
                    have HB : Hid (decide (p.cod < q.cod) = true) := Lib.hid (decide_eq_true (by omega))
                    clear hcl hcne HLT HGT HSAME
                    cases hl : laidK l p i with
                    | true =>
                      have HCO := Lib.hid (show outK l p (i + 1) = outK l p i ++ [q] by rw [HC.out.2, hl]; rfl)
                      have HLOW := Lib.hid (show lo ≤ w6.heap.size by rw [← HLO.out]; exact HJ1.out.2.2.2.size)
                      clear hl
                      go_wp2_with (first
                        | ((with_reducible refine wpList_load_nn ?_ (.tmp 15) ?_ g15 0 q ?_ ?_ ?_); (exact rfl); (exact rfl); (exact rfl); (exact (Cs.rg KQ1.out)))
                        | ((with_reducible refine wpList_build_one ?_ (.tmp 77) 22 38 ?_ Try.underlying22 _ 6 48 nninfo3 (by decide) (by decide) (nnc q) rfl ?_ ?_); (exact rfl); (exact rfl); (exact rfl))
                        | (at_builtin; refine wpList_append_row ?_ (.tmp 76) (.tmp 78) 22 rfl lo 38 Try.underlying22 _ 6 48 nninfo3 rfl (by decide) (.slice A3 (outK l p i).length c3) (outK l p i).length (nnf (outK l p i)) rfl (own_ext HJ1.out.1.1 ((Ext.refl _).alloc _)) (.slice (some ⟨w6.heap.size, 0, none⟩) 1 1) 1 (nnc q).toList rfl (rs_nn1 (Cs.new _ _ _ _ rfl)) (nnc_ones q) HLN.out (by decide) (Nat.le_trans HLOW.out (by rw [World.size_alloc]; exact Nat.le_succ _)) ?_; (exact rfl); intro v5 w5' o5 g5 b5; have O5 := Lib.hid (OwnN.add HJ1.out.1.2 HQO.out o5); have G5 := Lib.hid g5; have B5 := Lib.hid b5; clear o5 g5 b5))
                      exact ⟨⟨i + 1, by omega, by go_num, by rw [HC.out.1], Lib.hid (by rw [HCO.out]; exact (HJ1.out.ext ((Ext.refl _).alloc (.cells (nnc q) 38))).app HLO.out.symm HG8L.out HG11L.out G5.out O5.out)⟩, by simp [intOf]; omega⟩
                    | false =>
                      have HCO := Lib.hid (show outK l p (i + 1) = (outK l p i ++ [p]) ++ [q] by rw [HC.out.2, hl]; rfl)
                      clear hl
                      go_wp2_with (first
                        | ((with_reducible refine wpList_load_nn ?_ (.tmp 11) ?_ g11 0 p ?_ ?_ ?_); (exact rfl); (exact rfl); (exact rfl); (exact (Cs.rg HJ1.out.2.1)))
                        | ((with_reducible refine wpList_load_nn ?_ (.tmp 15) ?_ g15 0 q ?_ ?_ ?_); (exact rfl); (exact rfl); (exact rfl); (exact (Cs.rg KQ1.out))))
                      refine (refBefore_any p q _ HPO.out.2.1 HQO.out.2.1).mono ?_
                      rintro e w7 ⟨rfl, he⟩
                      have HJ2 := Lib.hid (HJ1.out.ext he)
                      have KQ2 := Lib.hid (KQ1.out.ext he)
                      have HLOW := Lib.hid (show lo ≤ w7.heap.size by rw [← HLO.out]; exact HJ2.out.2.2.2.size)
                      have HG15W := Lib.hid (show g15 < w7.heap.size from Cs.lt KQ2.out)
                      rw [HB.out]
                      clear he HJ1 KQ1
                      go_upto_region 18 with (first
                        | ((with_reducible refine wpList_load_nn ?_ (.tmp 11) ?_ g11 0 p ?_ ?_ ?_); (exact rfl); (exact rfl); (exact rfl); (exact (Cs.rg HJ2.out.2.1)))
                        | ((with_reducible refine wpList_build_one ?_ (.tmp 73) 22 38 ?_ Try.underlying22 _ 6 48 nninfo3 (by decide) (by decide) (nnc p) rfl ?_ ?_); (exact rfl); (exact rfl); (exact rfl))
                        | (at_builtin; refine wpList_append_row ?_ (.tmp 72) (.tmp 74) 22 rfl lo 38 Try.underlying22 _ 6 48 nninfo3 rfl (by decide) (.slice A3 (outK l p i).length c3) (outK l p i).length (nnf (outK l p i)) rfl (own_ext HJ2.out.1.1 ((Ext.refl _).alloc _)) (.slice (some ⟨w7.heap.size, 0, none⟩) 1 1) 1 (nnc p).toList rfl (rs_nn1 (Cs.new _ _ _ _ rfl)) (nnc_ones p) HLN.out (by decide) (Nat.le_trans HLOW.out (by rw [World.size_alloc]; exact Nat.le_succ _)) ?_; (exact rfl); intro v5 w5' o5 g5 b5; have O5 := Lib.hid (OwnN.add HJ2.out.1.2 HPO.out o5); have G5 := Lib.hid g5; have B5 := Lib.hid b5; clear o5 g5 b5))
                      have HNE := Lib.hid (show v5.ownBlock ≠ some g15 from fun e => by
                        rcases B5.out with b | b
                        · exact HG15.out (by rw [← b]; exact e)
                        · rw [b] at e
                          have := HG15W.out
                          injection e with e
                          rw [World.size_alloc] at e
                          omega)
                      have HJ3 := Lib.hid ((HJ2.out.ext ((Ext.refl _).alloc (.cells (nnc p) 38))).app HLO.out.symm HG8L.out HG11L.out G5.out O5.out)
                      have KQ3 := Lib.hid (show Nb6 w5' g15 q from Cs.kept (KQ2.out.ext ((Ext.refl _).alloc (.cells (nnc p) 38))) G5.out (fun e => HG15.out (by first | exact e | exact e.symm)))
                      have HLOW3 := Lib.hid (show lo ≤ w5'.heap.size by rw [← HLO.out]; exact HJ3.out.2.2.2.size)
                      clear HLOW HJ2 KQ2 G5 O5 B5
                      obtain ⟨_, A5, c5', rfl, _, _, _⟩ := Rs.of_own HJ3.out.1.1
                      go_wp2_with (first
                        | ((with_reducible refine wpList_load_nn ?_ (.tmp 15) ?_ g15 0 q ?_ ?_ ?_); (exact rfl); (exact rfl); (exact rfl); (exact (Cs.rg KQ3.out)))
                        | ((with_reducible refine wpList_build_one ?_ (.tmp 77) 22 38 ?_ Try.underlying22 _ 6 48 nninfo3 (by decide) (by decide) (nnc q) rfl ?_ ?_); (exact rfl); (exact rfl); (exact rfl))
                        | (at_builtin; refine wpList_append_row ?_ (.tmp 76) (.tmp 78) 22 rfl lo 38 Try.underlying22 _ 6 48 nninfo3 rfl (by decide) (.slice A5 (outK l p i ++ [p]).length c5') (outK l p i ++ [p]).length (nnf (outK l p i ++ [p])) rfl (own_ext HJ3.out.1.1 ((Ext.refl _).alloc _)) (.slice (some ⟨w5'.heap.size, 0, none⟩) 1 1) 1 (nnc q).toList rfl (rs_nn1 (Cs.new _ _ _ _ rfl)) (nnc_ones q) HLN2.out (by decide) (Nat.le_trans HLOW3.out (by rw [World.size_alloc]; exact Nat.le_succ _)) ?_; (exact rfl); intro v8 w8 o8 g8 b8; have O8 := Lib.hid (OwnN.add HJ3.out.1.2 HQO.out o8); have G8 := Lib.hid g8; have B8 := Lib.hid b8; clear o8 g8 b8))
                      exact ⟨⟨i + 1, by omega, by go_num, by rw [HC.out.1], Lib.hid (by rw [HCO.out]; exact (HJ3.out.ext ((Ext.refl _).alloc (.cells (nnc q) 38))).app HLO.out.symm HG8L.out HG11L.out G8.out O8.out)⟩, by simp [intOf]; omega⟩
              · obtain rfl : i = l.length := by omega
                have hd : decide (l.length < l.length) = false := decide_eq_false (by omega)
                have hd2 : decide ((l.length : Int) < (l.length : Int)) = false := decide_eq_false (by omega)
                have HALL := Lib.hid (outK_all l p)
                have HWLO := Lib.hid (show w.heap.size ≤ lo by rw [← HLO.out]; exact HE6.out.size)
                have HLN := Lib.hid (show (outK l p l.length).length + 1 ≤ 1099511627776 by have := outK_len l p l.length; have := right_len HRR.out; omega)
                obtain ⟨_, A3, c3, rfl, _, _, _⟩ := Rs.of_own HJ.out.1.1
                cases hl : laidK l p l.length with
                | true =>
                  have HO := Lib.hid (show outK l p l.length = usL l a x by rw [HFIN.out, ← HALL.out, hl]; rfl)
                  clear hl
                  go_wp2_with fail
                  refine bodyPost_ret (results_tmp2 rfl _ _ _) rfl ?_
                  exact ⟨_, by rw [HEV.out]; rfl, by rw [← HO.out]; exact HJ.out.1.mono HWLO.out, HE6.out.trans HJ.out.2.2.2⟩
                | false =>
                  have HO := Lib.hid (show outK l p l.length ++ [p] = usL l a x by rw [HFIN.out, ← HALL.out, hl]; rfl)
                  have HLOW := Lib.hid (show lo ≤ wr.heap.size by rw [← HLO.out]; exact HJ.out.2.2.2.size)
                  clear hl
                  go_wp2_with (first
                    | ((with_reducible refine wpList_load_nn ?_ (.tmp 11) ?_ g11 0 p ?_ ?_ ?_); (exact rfl); (exact rfl); (exact rfl); (exact (Cs.rg HJ.out.2.1)))
                    | ((with_reducible refine wpList_build_one ?_ (.tmp 84) 22 38 ?_ Try.underlying22 _ 6 48 nninfo3 (by decide) (by decide) (nnc p) rfl ?_ ?_); (exact rfl); (exact rfl); (exact rfl))
                    | (at_builtin; refine wpList_append_row ?_ (.tmp 83) (.tmp 85) 22 rfl lo 38 Try.underlying22 _ 6 48 nninfo3 rfl (by decide) (.slice A3 (outK l p l.length).length c3) (outK l p l.length).length (nnf (outK l p l.length)) rfl (own_ext HJ.out.1.1 ((Ext.refl _).alloc _)) (.slice (some ⟨wr.heap.size, 0, none⟩) 1 1) 1 (nnc p).toList rfl (rs_nn1 (Cs.new _ _ _ _ rfl)) (nnc_ones p) HLN.out (by decide) (Nat.le_trans HLOW.out (by rw [World.size_alloc]; exact Nat.le_succ _)) ?_; (exact rfl); intro v5 w5 o5 g5 b5; have O5 := Lib.hid (OwnN.add HJ.out.1.2 HPO.out o5); have G5 := Lib.hid g5; have B5 := Lib.hid b5; clear o5 g5 b5))
                  have HJ5 := Lib.hid ((HJ.out.ext ((Ext.refl _).alloc (.cells (nnc p) 38))).app HLO.out.symm HG8L.out HG11L.out G5.out O5.out)
                  refine bodyPost_ret (results_tmp2 rfl _ _ _) rfl ?_
                  exact ⟨_, by rw [HEV.out]; rfl, by rw [← HO.out]; exact HJ5.out.1.mono HWLO.out, HE6.out.trans HJ5.out.2.2.2⟩
          · have f3 : (((nx : Nat) : Int) == 0) = false := by rw [beq_eq_false_iff_ne]; omega
            clear hz hbad
            go_upto_region 10 with (first
              | ((with_reducible refine wpList_load_wordIn ?_ (.tmp 8) ?_ g8 0 (k) ?_ ?_ ?_); (exact rfl); (exact rfl); (exact rfl); (exact HKR5.out); (unfold wv wc))
              | ((with_reducible refine wpList_store_nn ?_ ?_ (.tmp 11) (.tmp 48) ?_ w5.heap.size nz0 p ?_ ?_ ?_ ?_); (exact rfl); (exact rfl); (exact rfl); (exact rfl); (rw [HPC.out, ← HWR.out]; exact rfl); (exact (Cs.new _ _ _ _ rfl)); intro wb kb gb; have KB := Lib.hid kb; have GB := Lib.hid gb; clear kb gb))
            have HE6 := Lib.hid ((HE5.out.alloc (.cells (nnc nz0) 38)).grown GB.out HWZ5.out)
            have HK6 := Lib.hid (Wd.kept (Wd.ext HK5.out ((Ext.refl _).alloc (.cells (nnc nz0) 38))) GB.out (some_ne (Nat.ne_of_lt (Wd.lt HK5.out))))
            have HG11L := Lib.hid (show w5.heap.size < wb.heap.size from Cs.lt KB.out)
            have HG8L := Lib.hid (show g8 < wb.heap.size from Wd.lt HK6.out)
            generalize hg11 : w5.heap.size = g11 at *
            clear GB HE5 HK5 HKR5 hg11 f0 f1 f2 f3
            go_wp2_with fail
            obtain ⟨lo, hlo⟩ : ∃ lo, wb.heap.size = lo := ⟨_, rfl⟩
            have HLO := Lib.hid hlo
            rw [hlo] at HG11L HG8L
            clear hlo
            go_loopw [51, 12, 13] (fun iv ov bv wr => ∃ i : Nat, i ≤ l.length ∧ iv = .int .i64 i ∧ bv = .bool (laidK l p i) ∧ Hid (UsJ lo g8 g11 k p ov (outK l p i) wb wr)) (fun iv _ _ _ => l.length - (intOf iv).toNat)
            case atStart => exact ⟨0, by omega, rfl, rfl, Lib.hid ⟨OwnN.nil _ _, KB.out, HK6.out, Ext.refl _⟩⟩
            case round =>
              clear KB HK6
              obtain ⟨i, hi, rfl, rfl, HJ⟩ := hrel
              by_cases hlt : i < l.length
              · have hd : decide (i < l.length) = true := decide_eq_true hlt
                have hd2 : decide ((i : Int) < (l.length : Int)) = true := decide_eq_true (by omega)
                obtain ⟨bb, oo, rfl, hrg, hqo⟩ := (HS.out.ext (HE6.out.trans HJ.out.2.2.2)).at i hlt
                have HR := Lib.hid hrg
                have HQO := Lib.hid hqo
                have HQK := Lib.hid hqo.2.1
                have HSAME := Lib.hid (fun h => outK_same (l := l) (p := p) hlt h)
                have HLT := Lib.hid (fun h => outK_lt (right_rise HRR.out) (p := p) hlt h)
                have HGT := Lib.hid (fun h => outK_gt (l := l) (p := p) hlt h)
                have HLN := Lib.hid (show (outK l p i).length + 1 ≤ 1099511627776 by have := outK_len l p i; have := right_len HRR.out; omega)
                have HLN2 := Lib.hid (show (outK l p i ++ [p]).length + 1 ≤ 1099511627776 by have := outK_len l p i; have := right_len HRR.out; rw [List.length_append, List.length_singleton]; omega)
                have HZS := Lib.hid HJ.out.2.2.2.size
                clear hrg hqo
                generalize l.getD i nz0 = q at *
                obtain ⟨_, A3, c3, rfl, _, _, _⟩ := Rs.of_own HJ.out.1.1
                have HG15 := Lib.hid (show (Value.slice A3 (outK l p i).length c3).ownBlock ≠ some wr.heap.size from fun e => by have := (HJ.out.1.lt _ e).2; omega)
                go_upto_region 15 with (first
                  | ((with_reducible refine wpList_load_nn ?_ (.tmp 53) ?_ bb (oo + i * 6) q ?_ ?_ ?_); (exact rfl); (exact rfl); (exact rfl); (exact HR.out))
                  | ((with_reducible refine wpList_store_nn ?_ ?_ (.tmp 15) (.tmp 54) ?_ wr.heap.size nz0 q ?_ ?_ ?_ ?_); (exact rfl); (exact rfl); (exact rfl); (exact rfl); (exact rfl); (exact (Cs.new _ _ _ _ rfl)); intro w6 k6 g6; have KQ1 := Lib.hid k6; have c0 := k6.addr; have G6 := Lib.hid g6; clear k6 g6))
                have HJ1 := Lib.hid (HJ.out.ext (((Ext.refl wr).alloc (.cells (nnc nz0) 38)).grown G6.out (Nat.le_refl _)))
                clear hd hd2 HR HJ G6
                generalize hg15 : wr.heap.size = g15 at *
                clear hg15
                have HQW := Lib.hid KQ1.out.key
                have HKW := Lib.hid (Cs.rg HJ1.out.2.2.1)
                by_cases hqa : q.addr = a
                · have hf : ((q.addr : Int) == (a : Int)) = true := by rw [beq_iff_eq]; omega
                  by_cases hqk : q.key = k
                  · have hf2 : (q.key == k) = true := by rw [beq_iff_eq]; exact hqk
                    have HC := Lib.hid (HSAME.out (by rw [HPD.out, ← hqa, ← hqk]; rfl))
                    clear hqa hqk HSAME HLT HGT
                    go_wp2_with (first
                      | ((with_reducible refine wpList_load_wordIn ?_ (.tmp 60) ?_ g15 1 (q.key) ?_ ?_ ?_); (exact rfl); (exact rfl); (exact rfl); (exact HQW.out))
                      | ((with_reducible refine wpList_load_wordIn ?_ (.tmp 8) ?_ g8 0 (k) ?_ ?_ ?_); (exact rfl); (exact rfl); (exact rfl); (exact HKW.out))
                      | ((with_reducible refine wpList_eql_word ?_ (.tmp 61) (.tmp 62) ?_ q.key k HQK.out HKY.out ?_ ?_ ?_); (exact rfl); (exact rfl); (exact rfl); (exact rfl); rw [hf2]))
                    exact ⟨⟨i + 1, by omega, by go_num, by rw [HC.out.2], Lib.hid (by rw [HC.out.1]; exact HJ1.out)⟩, by simp [intOf]; omega⟩
                  · have hf2 : (q.key == k) = false := by rw [beq_eq_false_iff_ne]; exact hqk
                    have hcne : q.cod ≠ p.cod := by rw [HPD.out]; exact fun e => hqk (cdN_inj HQO.out.2.1 HKY.out e).2
                    clear hqa hqk
                    go_upto_region 16 with (first
                      | ((with_reducible refine wpList_load_wordIn ?_ (.tmp 60) ?_ g15 1 (q.key) ?_ ?_ ?_); (exact rfl); (exact rfl); (exact rfl); (exact HQW.out))
                      | ((with_reducible refine wpList_load_wordIn ?_ (.tmp 8) ?_ g8 0 (k) ?_ ?_ ?_); (exact rfl); (exact rfl); (exact rfl); (exact HKW.out))
                      | ((with_reducible refine wpList_eql_word ?_ (.tmp 61) (.tmp 62) ?_ q.key k HQK.out HKY.out ?_ ?_ ?_); (exact rfl); (exact rfl); (exact rfl); (exact rfl); rw [hf2]))
                    clear hf hf2 c0 HQW HKW
                    by_cases hcl : q.cod < p.cod
                    · have HC := Lib.hid (HLT.out hcl)
                      have HB : Hid (decide (p.cod < q.cod) = false) := Lib.hid (decide_eq_false (by omega))
                      rw [HC.out.1]
                      clear hcl hcne HLT HGT HSAME
                      go_wp2_with (first
                        | ((with_reducible refine wpList_load_nn ?_ (.tmp 11) ?_ g11 0 p ?_ ?_ ?_); (exact rfl); (exact rfl); (exact rfl); (exact (Cs.rg HJ1.out.2.1)))
                        | ((with_reducible refine wpList_load_nn ?_ (.tmp 15) ?_ g15 0 q ?_ ?_ ?_); (exact rfl); (exact rfl); (exact rfl); (exact (Cs.rg KQ1.out))))
                      refine (refBefore_any p q _ HPO.out.2.1 HQO.out.2.1).mono ?_
                      rintro e w7 ⟨rfl, he⟩
                      have HJ2 := Lib.hid (HJ1.out.ext he)
                      have KQ2 := Lib.hid (KQ1.out.ext he)
                      have HLOW := Lib.hid (show lo ≤ w7.heap.size by rw [← HLO.out]; exact HJ2.out.2.2.2.size)
                      rw [HB.out]
                      clear he HJ1 KQ1
                      go_wp2_with (first
                        | ((with_reducible refine wpList_load_nn ?_ (.tmp 15) ?_ g15 0 q ?_ ?_ ?_); (exact rfl); (exact rfl); (exact rfl); (exact (Cs.rg KQ2.out)))
                        | ((with_reducible refine wpList_build_one ?_ (.tmp 77) 22 38 ?_ Try.underlying22 _ 6 48 nninfo3 (by decide) (by decide) (nnc q) rfl ?_ ?_); (exact rfl); (exact rfl); (exact rfl))
                        | (at_builtin; refine wpList_append_row ?_ (.tmp 76) (.tmp 78) 22 rfl lo 38 Try.underlying22 _ 6 48 nninfo3 rfl (by decide) (.slice A3 (outK l p i).length c3) (outK l p i).length (nnf (outK l p i)) rfl (own_ext HJ2.out.1.1 ((Ext.refl _).alloc _)) (.slice (some ⟨w7.heap.size, 0, none⟩) 1 1) 1 (nnc q).toList rfl (rs_nn1 (Cs.new _ _ _ _ rfl)) (nnc_ones q) HLN.out (by decide) (Nat.le_trans HLOW.out (by rw [World.size_alloc]; exact Nat.le_succ _)) ?_; (exact rfl); intro v5 w5' o5 g5 b5; have O5 := Lib.hid (OwnN.add HJ2.out.1.2 HQO.out o5); have G5 := Lib.hid g5; have B5 := Lib.hid b5; clear o5 g5 b5))
                      exact ⟨⟨i + 1, by omega, by go_num, by rw [HC.out.2.2], Lib.hid (by rw [HC.out.2.1]; exact (HJ2.out.ext ((Ext.refl _).alloc (.cells (nnc q) 38))).app HLO.out.symm HG8L.out HG11L.out G5.out O5.out)⟩, by simp [intOf]; omega⟩
                    · have HC := Lib.hid (HGT.out (by omega))
                      have HB : Hid (decide (p.cod < q.cod) = true) := Lib.hid (decide_eq_true (by omega))
                      clear hcl hcne HLT HGT HSAME
                      cases hl : laidK l p i with
                      | true =>
                        have HCO := Lib.hid (show outK l p (i + 1) = outK l p i ++ [q] by rw [HC.out.2, hl]; rfl)
                        have HLOW := Lib.hid (show lo ≤ w6.heap.size by rw [← HLO.out]; exact HJ1.out.2.2.2.size)
                        clear hl
                        go_wp2_with (first
                          | ((with_reducible refine wpList_load_nn ?_ (.tmp 15) ?_ g15 0 q ?_ ?_ ?_); (exact rfl); (exact rfl); (exact rfl); (exact (Cs.rg KQ1.out)))
                          | ((with_reducible refine wpList_build_one ?_ (.tmp 77) 22 38 ?_ Try.underlying22 _ 6 48 nninfo3 (by decide) (by decide) (nnc q) rfl ?_ ?_); (exact rfl); (exact rfl); (exact rfl))
                          | (at_builtin; refine wpList_append_row ?_ (.tmp 76) (.tmp 78) 22 rfl lo 38 Try.underlying22 _ 6 48 nninfo3 rfl (by decide) (.slice A3 (outK l p i).length c3) (outK l p i).length (nnf (outK l p i)) rfl (own_ext HJ1.out.1.1 ((Ext.refl _).alloc _)) (.slice (some ⟨w6.heap.size, 0, none⟩) 1 1) 1 (nnc q).toList rfl (rs_nn1 (Cs.new _ _ _ _ rfl)) (nnc_ones q) HLN.out (by decide) (Nat.le_trans HLOW.out (by rw [World.size_alloc]; exact Nat.le_succ _)) ?_; (exact rfl); intro v5 w5' o5 g5 b5; have O5 := Lib.hid (OwnN.add HJ1.out.1.2 HQO.out o5); have G5 := Lib.hid g5; have B5 := Lib.hid b5; clear o5 g5 b5))
                        exact ⟨⟨i + 1, by omega, by go_num, by rw [HC.out.1], Lib.hid (by rw [HCO.out]; exact (HJ1.out.ext ((Ext.refl _).alloc (.cells (nnc q) 38))).app HLO.out.symm HG8L.out HG11L.out G5.out O5.out)⟩, by simp [intOf]; omega⟩
                      | false =>
                        have HCO := Lib.hid (show outK l p (i + 1) = (outK l p i ++ [p]) ++ [q] by rw [HC.out.2, hl]; rfl)
                        clear hl
                        go_wp2_with (first
                          | ((with_reducible refine wpList_load_nn ?_ (.tmp 11) ?_ g11 0 p ?_ ?_ ?_); (exact rfl); (exact rfl); (exact rfl); (exact (Cs.rg HJ1.out.2.1)))
                          | ((with_reducible refine wpList_load_nn ?_ (.tmp 15) ?_ g15 0 q ?_ ?_ ?_); (exact rfl); (exact rfl); (exact rfl); (exact (Cs.rg KQ1.out))))
                        refine (refBefore_any p q _ HPO.out.2.1 HQO.out.2.1).mono ?_
                        rintro e w7 ⟨rfl, he⟩
                        have HJ2 := Lib.hid (HJ1.out.ext he)
                        have KQ2 := Lib.hid (KQ1.out.ext he)
                        have HLOW := Lib.hid (show lo ≤ w7.heap.size by rw [← HLO.out]; exact HJ2.out.2.2.2.size)
                        have HG15W := Lib.hid (show g15 < w7.heap.size from Cs.lt KQ2.out)
                        rw [HB.out]
                        clear he HJ1 KQ1
                        go_upto_region 18 with (first
                          | ((with_reducible refine wpList_load_nn ?_ (.tmp 11) ?_ g11 0 p ?_ ?_ ?_); (exact rfl); (exact rfl); (exact rfl); (exact (Cs.rg HJ2.out.2.1)))
                          | ((with_reducible refine wpList_build_one ?_ (.tmp 73) 22 38 ?_ Try.underlying22 _ 6 48 nninfo3 (by decide) (by decide) (nnc p) rfl ?_ ?_); (exact rfl); (exact rfl); (exact rfl))
                          | (at_builtin; refine wpList_append_row ?_ (.tmp 72) (.tmp 74) 22 rfl lo 38 Try.underlying22 _ 6 48 nninfo3 rfl (by decide) (.slice A3 (outK l p i).length c3) (outK l p i).length (nnf (outK l p i)) rfl (own_ext HJ2.out.1.1 ((Ext.refl _).alloc _)) (.slice (some ⟨w7.heap.size, 0, none⟩) 1 1) 1 (nnc p).toList rfl (rs_nn1 (Cs.new _ _ _ _ rfl)) (nnc_ones p) HLN.out (by decide) (Nat.le_trans HLOW.out (by rw [World.size_alloc]; exact Nat.le_succ _)) ?_; (exact rfl); intro v5 w5' o5 g5 b5; have O5 := Lib.hid (OwnN.add HJ2.out.1.2 HPO.out o5); have G5 := Lib.hid g5; have B5 := Lib.hid b5; clear o5 g5 b5))
                        have HNE := Lib.hid (show v5.ownBlock ≠ some g15 from fun e => by
                          rcases B5.out with b | b
                          · exact HG15.out (by rw [← b]; exact e)
                          · rw [b] at e
                            have := HG15W.out
                            injection e with e
                            rw [World.size_alloc] at e
                            omega)
                        have HJ3 := Lib.hid ((HJ2.out.ext ((Ext.refl _).alloc (.cells (nnc p) 38))).app HLO.out.symm HG8L.out HG11L.out G5.out O5.out)
                        have KQ3 := Lib.hid (show Nb6 w5' g15 q from Cs.kept (KQ2.out.ext ((Ext.refl _).alloc (.cells (nnc p) 38))) G5.out (fun e => HG15.out (by first | exact e | exact e.symm)))
                        have HLOW3 := Lib.hid (show lo ≤ w5'.heap.size by rw [← HLO.out]; exact HJ3.out.2.2.2.size)
                        clear HLOW HJ2 KQ2 G5 O5 B5
                        obtain ⟨_, A5, c5', rfl, _, _, _⟩ := Rs.of_own HJ3.out.1.1
                        go_wp2_with (first
                          | ((with_reducible refine wpList_load_nn ?_ (.tmp 15) ?_ g15 0 q ?_ ?_ ?_); (exact rfl); (exact rfl); (exact rfl); (exact (Cs.rg KQ3.out)))
                          | ((with_reducible refine wpList_build_one ?_ (.tmp 77) 22 38 ?_ Try.underlying22 _ 6 48 nninfo3 (by decide) (by decide) (nnc q) rfl ?_ ?_); (exact rfl); (exact rfl); (exact rfl))
                          | (at_builtin; refine wpList_append_row ?_ (.tmp 76) (.tmp 78) 22 rfl lo 38 Try.underlying22 _ 6 48 nninfo3 rfl (by decide) (.slice A5 (outK l p i ++ [p]).length c5') (outK l p i ++ [p]).length (nnf (outK l p i ++ [p])) rfl (own_ext HJ3.out.1.1 ((Ext.refl _).alloc _)) (.slice (some ⟨w5'.heap.size, 0, none⟩) 1 1) 1 (nnc q).toList rfl (rs_nn1 (Cs.new _ _ _ _ rfl)) (nnc_ones q) HLN2.out (by decide) (Nat.le_trans HLOW3.out (by rw [World.size_alloc]; exact Nat.le_succ _)) ?_; (exact rfl); intro v8 w8 o8 g8 b8; have O8 := Lib.hid (OwnN.add HJ3.out.1.2 HQO.out o8); have G8 := Lib.hid g8; have B8 := Lib.hid b8; clear o8 g8 b8))
                        exact ⟨⟨i + 1, by omega, by go_num, by rw [HC.out.1], Lib.hid (by rw [HCO.out]; exact (HJ3.out.ext ((Ext.refl _).alloc (.cells (nnc q) 38))).app HLO.out.symm HG8L.out HG11L.out G8.out O8.out)⟩, by simp [intOf]; omega⟩
                · have hf : ((q.addr : Int) == (a : Int)) = false := by rw [beq_eq_false_iff_ne]; omega
                  have hcne : q.cod ≠ p.cod := by rw [HPD.out]; exact fun e => hqa (cdN_inj HQO.out.2.1 HKY.out e).1
                  clear hqa
                  go_upto_region 16 with fail
                  clear hf c0 HQW HKW
                  by_cases hcl : q.cod < p.cod
                  · have HC := Lib.hid (HLT.out hcl)
                    have HB : Hid (decide (p.cod < q.cod) = false) := Lib.hid (decide_eq_false (by omega))
                    rw [HC.out.1]
                    clear hcl hcne HLT HGT HSAME
                    go_wp2_with (first
                      | ((with_reducible refine wpList_load_nn ?_ (.tmp 11) ?_ g11 0 p ?_ ?_ ?_); (exact rfl); (exact rfl); (exact rfl); (exact (Cs.rg HJ1.out.2.1)))
                      | ((with_reducible refine wpList_load_nn ?_ (.tmp 15) ?_ g15 0 q ?_ ?_ ?_); (exact rfl); (exact rfl); (exact rfl); (exact (Cs.rg KQ1.out))))
                    refine (refBefore_any p q _ HPO.out.2.1 HQO.out.2.1).mono ?_
                    rintro e w7 ⟨rfl, he⟩
                    have HJ2 := Lib.hid (HJ1.out.ext he)
                    have KQ2 := Lib.hid (KQ1.out.ext he)
                    have HLOW := Lib.hid (show lo ≤ w7.heap.size by rw [← HLO.out]; exact HJ2.out.2.2.2.size)
                    rw [HB.out]
                    clear he HJ1 KQ1
                    go_wp2_with (first
                      | ((with_reducible refine wpList_load_nn ?_ (.tmp 15) ?_ g15 0 q ?_ ?_ ?_); (exact rfl); (exact rfl); (exact rfl); (exact (Cs.rg KQ2.out)))
                      | ((with_reducible refine wpList_build_one ?_ (.tmp 77) 22 38 ?_ Try.underlying22 _ 6 48 nninfo3 (by decide) (by decide) (nnc q) rfl ?_ ?_); (exact rfl); (exact rfl); (exact rfl))
                      | (at_builtin; refine wpList_append_row ?_ (.tmp 76) (.tmp 78) 22 rfl lo 38 Try.underlying22 _ 6 48 nninfo3 rfl (by decide) (.slice A3 (outK l p i).length c3) (outK l p i).length (nnf (outK l p i)) rfl (own_ext HJ2.out.1.1 ((Ext.refl _).alloc _)) (.slice (some ⟨w7.heap.size, 0, none⟩) 1 1) 1 (nnc q).toList rfl (rs_nn1 (Cs.new _ _ _ _ rfl)) (nnc_ones q) HLN.out (by decide) (Nat.le_trans HLOW.out (by rw [World.size_alloc]; exact Nat.le_succ _)) ?_; (exact rfl); intro v5 w5' o5 g5 b5; have O5 := Lib.hid (OwnN.add HJ2.out.1.2 HQO.out o5); have G5 := Lib.hid g5; have B5 := Lib.hid b5; clear o5 g5 b5))
                    exact ⟨⟨i + 1, by omega, by go_num, by rw [HC.out.2.2], Lib.hid (by rw [HC.out.2.1]; exact (HJ2.out.ext ((Ext.refl _).alloc (.cells (nnc q) 38))).app HLO.out.symm HG8L.out HG11L.out G5.out O5.out)⟩, by simp [intOf]; omega⟩
                  · have HC := Lib.hid (HGT.out (by omega))
                    have HB : Hid (decide (p.cod < q.cod) = true) := Lib.hid (decide_eq_true (by omega))
                    clear hcl hcne HLT HGT HSAME
                    cases hl : laidK l p i with
                    | true =>
                      have HCO := Lib.hid (show outK l p (i + 1) = outK l p i ++ [q] by rw [HC.out.2, hl]; rfl)
                      have HLOW := Lib.hid (show lo ≤ w6.heap.size by rw [← HLO.out]; exact HJ1.out.2.2.2.size)
                      clear hl
                      go_wp2_with (first
                        | ((with_reducible refine wpList_load_nn ?_ (.tmp 15) ?_ g15 0 q ?_ ?_ ?_); (exact rfl); (exact rfl); (exact rfl); (exact (Cs.rg KQ1.out)))
                        | ((with_reducible refine wpList_build_one ?_ (.tmp 77) 22 38 ?_ Try.underlying22 _ 6 48 nninfo3 (by decide) (by decide) (nnc q) rfl ?_ ?_); (exact rfl); (exact rfl); (exact rfl))
                        | (at_builtin; refine wpList_append_row ?_ (.tmp 76) (.tmp 78) 22 rfl lo 38 Try.underlying22 _ 6 48 nninfo3 rfl (by decide) (.slice A3 (outK l p i).length c3) (outK l p i).length (nnf (outK l p i)) rfl (own_ext HJ1.out.1.1 ((Ext.refl _).alloc _)) (.slice (some ⟨w6.heap.size, 0, none⟩) 1 1) 1 (nnc q).toList rfl (rs_nn1 (Cs.new _ _ _ _ rfl)) (nnc_ones q) HLN.out (by decide) (Nat.le_trans HLOW.out (by rw [World.size_alloc]; exact Nat.le_succ _)) ?_; (exact rfl); intro v5 w5' o5 g5 b5; have O5 := Lib.hid (OwnN.add HJ1.out.1.2 HQO.out o5); have G5 := Lib.hid g5; have B5 := Lib.hid b5; clear o5 g5 b5))
                      exact ⟨⟨i + 1, by omega, by go_num, by rw [HC.out.1], Lib.hid (by rw [HCO.out]; exact (HJ1.out.ext ((Ext.refl _).alloc (.cells (nnc q) 38))).app HLO.out.symm HG8L.out HG11L.out G5.out O5.out)⟩, by simp [intOf]; omega⟩
                    | false =>
                      have HCO := Lib.hid (show outK l p (i + 1) = (outK l p i ++ [p]) ++ [q] by rw [HC.out.2, hl]; rfl)
                      clear hl
                      go_wp2_with (first
                        | ((with_reducible refine wpList_load_nn ?_ (.tmp 11) ?_ g11 0 p ?_ ?_ ?_); (exact rfl); (exact rfl); (exact rfl); (exact (Cs.rg HJ1.out.2.1)))
                        | ((with_reducible refine wpList_load_nn ?_ (.tmp 15) ?_ g15 0 q ?_ ?_ ?_); (exact rfl); (exact rfl); (exact rfl); (exact (Cs.rg KQ1.out))))
                      refine (refBefore_any p q _ HPO.out.2.1 HQO.out.2.1).mono ?_
                      rintro e w7 ⟨rfl, he⟩
                      have HJ2 := Lib.hid (HJ1.out.ext he)
                      have KQ2 := Lib.hid (KQ1.out.ext he)
                      have HLOW := Lib.hid (show lo ≤ w7.heap.size by rw [← HLO.out]; exact HJ2.out.2.2.2.size)
                      have HG15W := Lib.hid (show g15 < w7.heap.size from Cs.lt KQ2.out)
                      rw [HB.out]
                      clear he HJ1 KQ1
                      go_upto_region 18 with (first
                        | ((with_reducible refine wpList_load_nn ?_ (.tmp 11) ?_ g11 0 p ?_ ?_ ?_); (exact rfl); (exact rfl); (exact rfl); (exact (Cs.rg HJ2.out.2.1)))
                        | ((with_reducible refine wpList_build_one ?_ (.tmp 73) 22 38 ?_ Try.underlying22 _ 6 48 nninfo3 (by decide) (by decide) (nnc p) rfl ?_ ?_); (exact rfl); (exact rfl); (exact rfl))
                        | (at_builtin; refine wpList_append_row ?_ (.tmp 72) (.tmp 74) 22 rfl lo 38 Try.underlying22 _ 6 48 nninfo3 rfl (by decide) (.slice A3 (outK l p i).length c3) (outK l p i).length (nnf (outK l p i)) rfl (own_ext HJ2.out.1.1 ((Ext.refl _).alloc _)) (.slice (some ⟨w7.heap.size, 0, none⟩) 1 1) 1 (nnc p).toList rfl (rs_nn1 (Cs.new _ _ _ _ rfl)) (nnc_ones p) HLN.out (by decide) (Nat.le_trans HLOW.out (by rw [World.size_alloc]; exact Nat.le_succ _)) ?_; (exact rfl); intro v5 w5' o5 g5 b5; have O5 := Lib.hid (OwnN.add HJ2.out.1.2 HPO.out o5); have G5 := Lib.hid g5; have B5 := Lib.hid b5; clear o5 g5 b5))
                      have HNE := Lib.hid (show v5.ownBlock ≠ some g15 from fun e => by
                        rcases B5.out with b | b
                        · exact HG15.out (by rw [← b]; exact e)
                        · rw [b] at e
                          have := HG15W.out
                          injection e with e
                          rw [World.size_alloc] at e
                          omega)
                      have HJ3 := Lib.hid ((HJ2.out.ext ((Ext.refl _).alloc (.cells (nnc p) 38))).app HLO.out.symm HG8L.out HG11L.out G5.out O5.out)
                      have KQ3 := Lib.hid (show Nb6 w5' g15 q from Cs.kept (KQ2.out.ext ((Ext.refl _).alloc (.cells (nnc p) 38))) G5.out (fun e => HG15.out (by first | exact e | exact e.symm)))
                      have HLOW3 := Lib.hid (show lo ≤ w5'.heap.size by rw [← HLO.out]; exact HJ3.out.2.2.2.size)
                      clear HLOW HJ2 KQ2 G5 O5 B5
                      obtain ⟨_, A5, c5', rfl, _, _, _⟩ := Rs.of_own HJ3.out.1.1
                      go_wp2_with (first
                        | ((with_reducible refine wpList_load_nn ?_ (.tmp 15) ?_ g15 0 q ?_ ?_ ?_); (exact rfl); (exact rfl); (exact rfl); (exact (Cs.rg KQ3.out)))
                        | ((with_reducible refine wpList_build_one ?_ (.tmp 77) 22 38 ?_ Try.underlying22 _ 6 48 nninfo3 (by decide) (by decide) (nnc q) rfl ?_ ?_); (exact rfl); (exact rfl); (exact rfl))
                        | (at_builtin; refine wpList_append_row ?_ (.tmp 76) (.tmp 78) 22 rfl lo 38 Try.underlying22 _ 6 48 nninfo3 rfl (by decide) (.slice A5 (outK l p i ++ [p]).length c5') (outK l p i ++ [p]).length (nnf (outK l p i ++ [p])) rfl (own_ext HJ3.out.1.1 ((Ext.refl _).alloc _)) (.slice (some ⟨w5'.heap.size, 0, none⟩) 1 1) 1 (nnc q).toList rfl (rs_nn1 (Cs.new _ _ _ _ rfl)) (nnc_ones q) HLN2.out (by decide) (Nat.le_trans HLOW3.out (by rw [World.size_alloc]; exact Nat.le_succ _)) ?_; (exact rfl); intro v8 w8 o8 g8 b8; have O8 := Lib.hid (OwnN.add HJ3.out.1.2 HQO.out o8); have G8 := Lib.hid g8; have B8 := Lib.hid b8; clear o8 g8 b8))
                      exact ⟨⟨i + 1, by omega, by go_num, by rw [HC.out.1], Lib.hid (by rw [HCO.out]; exact (HJ3.out.ext ((Ext.refl _).alloc (.cells (nnc q) 38))).app HLO.out.symm HG8L.out HG11L.out G8.out O8.out)⟩, by simp [intOf]; omega⟩
              · obtain rfl : i = l.length := by omega
                have hd : decide (l.length < l.length) = false := decide_eq_false (by omega)
                have hd2 : decide ((l.length : Int) < (l.length : Int)) = false := decide_eq_false (by omega)
                have HALL := Lib.hid (outK_all l p)
                have HWLO := Lib.hid (show w.heap.size ≤ lo by rw [← HLO.out]; exact HE6.out.size)
                have HLN := Lib.hid (show (outK l p l.length).length + 1 ≤ 1099511627776 by have := outK_len l p l.length; have := right_len HRR.out; omega)
                obtain ⟨_, A3, c3, rfl, _, _, _⟩ := Rs.of_own HJ.out.1.1
                cases hl : laidK l p l.length with
                | true =>
                  have HO := Lib.hid (show outK l p l.length = usL l a x by rw [HFIN.out, ← HALL.out, hl]; rfl)
                  clear hl
                  go_wp2_with fail
                  refine bodyPost_ret (results_tmp2 rfl _ _ _) rfl ?_
                  exact ⟨_, by rw [HEV.out]; rfl, by rw [← HO.out]; exact HJ.out.1.mono HWLO.out, HE6.out.trans HJ.out.2.2.2⟩
                | false =>
                  have HO := Lib.hid (show outK l p l.length ++ [p] = usL l a x by rw [HFIN.out, ← HALL.out, hl]; rfl)
                  have HLOW := Lib.hid (show lo ≤ wr.heap.size by rw [← HLO.out]; exact HJ.out.2.2.2.size)
                  clear hl
                  go_wp2_with (first
                    | ((with_reducible refine wpList_load_nn ?_ (.tmp 11) ?_ g11 0 p ?_ ?_ ?_); (exact rfl); (exact rfl); (exact rfl); (exact (Cs.rg HJ.out.2.1)))
                    | ((with_reducible refine wpList_build_one ?_ (.tmp 84) 22 38 ?_ Try.underlying22 _ 6 48 nninfo3 (by decide) (by decide) (nnc p) rfl ?_ ?_); (exact rfl); (exact rfl); (exact rfl))
                    | (at_builtin; refine wpList_append_row ?_ (.tmp 83) (.tmp 85) 22 rfl lo 38 Try.underlying22 _ 6 48 nninfo3 rfl (by decide) (.slice A3 (outK l p l.length).length c3) (outK l p l.length).length (nnf (outK l p l.length)) rfl (own_ext HJ.out.1.1 ((Ext.refl _).alloc _)) (.slice (some ⟨wr.heap.size, 0, none⟩) 1 1) 1 (nnc p).toList rfl (rs_nn1 (Cs.new _ _ _ _ rfl)) (nnc_ones p) HLN.out (by decide) (Nat.le_trans HLOW.out (by rw [World.size_alloc]; exact Nat.le_succ _)) ?_; (exact rfl); intro v5 w5 o5 g5 b5; have O5 := Lib.hid (OwnN.add HJ.out.1.2 HPO.out o5); have G5 := Lib.hid g5; have B5 := Lib.hid b5; clear o5 g5 b5))
                  have HJ5 := Lib.hid ((HJ.out.ext ((Ext.refl _).alloc (.cells (nnc p) 38))).app HLO.out.symm HG8L.out HG11L.out G5.out O5.out)
                  refine bodyPost_ret (results_tmp2 rfl _ _ _) rfl ?_
                  exact ⟨_, by rw [HEV.out]; rfl, by rw [← HO.out]; exact HJ5.out.1.mono HWLO.out, HE6.out.trans HJ5.out.2.2.2⟩
    · have f1 : (((s : Nat) : Int) != (nx : Int)) = true := by simp; omega
      have HEV := Lib.hid (HE0.out.trans (if_neg hsn))
      clear hsn
      have HUL := Lib.hid (show usL l a x = [] by unfold usL; rw [HEV.out]; rfl)
      go_wp2_with fail
      refine bodyPost_ret (results_tmp2 rfl _ _ _) rfl ?_
      exact ⟨_, by rw [HEV.out]; rfl, by rw [HUL.out]; exact OwnN.nil _ _, HE5.out⟩
end Go.Proofs.Ytepggbhibpjkpaa
