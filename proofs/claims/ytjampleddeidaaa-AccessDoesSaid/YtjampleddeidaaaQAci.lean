/- Package access: slices.Insert of one, wherever. -/
import Derived.Test.YtjampleddeidaaaQAcs
import Derived.Deep.DeepAppendWide
import Derived.Lib.AppendZerosOnto
import Derived.Lib.Overlaps
namespace Go.Proofs.Ytjampleddeidaaa
open Go.ChangeShapes Go.WideShapes Go.ChangeAt Go.RowKit Go.Shelf

def rowS (cur : Array Value) (i : Nat) (news : List Value) : Array Value := (cur.toList.take (i * 5) ++ news ++ cur.toList.drop (i * 5 + news.length)).toArray
set_option maxRecDepth 100000 in
theorem rowS_size (cur : Array Value) (i : Nat) (news : List Value) (h : i * 5 + news.length ≤ cur.size) : (rowS cur i news).size = cur.size := by
  unfold rowS
  simp
  omega
set_option maxRecDepth 100000 in
theorem rowS_take (cur : Array Value) (i n : Nat) (news : List Value) (h : i * 5 + news.length ≤ cur.size) (hn : n * 5 = i * 5 + news.length) : (rowS cur i news).toList.take (n * 5) = cur.toList.take (i * 5) ++ news := by
  unfold rowS
  rw [List.toList_toArray, hn, List.take_left' (by simp; omega)]
set_option maxRecDepth 100000 in
theorem rowS_keep (cur : Array Value) (i n : Nat) (news : List Value) (h : i * 5 + news.length ≤ cur.size) (hn : n ≤ i) : (rowS cur i news).toList.take (n * 5) = cur.toList.take (n * 5) := by
  unfold rowS
  rw [List.toList_toArray, List.append_assoc, List.take_append_of_le_length (by simp; omega), List.take_take, Nat.min_eq_left (by omega)]
set_option maxRecDepth 100000 in
theorem ninfoS : ∃ i0 : TypeInfo, Try.prog.info? 32 = some i0 ∧ i0.size = 5 := by
  have h := infoS
  cases hi : Try.prog.info? 32 with
  | none => rw [hi] at h; cases h
  | some i0 => rw [hi] at h; exact ⟨i0, rfl, by simpa using h⟩

set_option maxRecDepth 100000 in
theorem wpList_append_zerosS {ops : Array Oper} {rest : List Oper} {o : Oper} {a : Act} {w : World} {Q : Exit → Act → World → Prop} (hgd : Region.wanted o (yielded ops a.tmps) = true) (s x : Operand)
    (ho : o.op = .call { callee := .builtin .append, args := #[s, x], argTypes := #[23, 3] }) (g sLen c k : Nat) (hs : a.eval s = .slice (some ⟨g, 0, none⟩) sLen c) (hx : a.eval x = .int .i64 (k : Nat))
    (olds : List Value) (hol : olds.length = sLen * 5) (holds : ∀ j u, olds[j]? = some u → w.cell? ⟨g, j, none⟩ = some u) (h0 : 0 < k) (hgr : c < sLen + k) (hb : sLen + k ≤ 100001)
    (hK : ∀ (cap : Nat) (cur : Array Value) (w' : World), sLen + k ≤ cap → cap ≤ maxLen → cur.size = cap * 5 → cur.toList.take (sLen * 5) = olds → w'.heap[w.heap.size]? = some (.cells cur 32 (0, 0)) → Ext w w' → wpList Try.prog ops Q rest (a.put o.dst (.slice (some ⟨w.heap.size, 0, none⟩) (sLen + k) cap)) w') :
    wpList Try.prog ops Q (o :: rest) a w := by
  obtain ⟨i0, hi, hy0, hy1, hy2⟩ := info_parts infoS3
  have hf : (Builtin.firstCells i0.size sLen (.slice (some ⟨g, 0, none⟩) sLen c)).run Try.prog w.drew = .ok olds.toArray w.drew :=
    run_firstCells_some (P := Try.prog) w.drew i0.size sLen ⟨g, 0, none⟩ sLen c olds (by rw [hy1]; exact hol) (fun j u hu => by rw [Addr.add_lit, Nat.zero_add]; exact holds j u hu)
  have hr := Lib.run_append_grow_zeros (P := Try.prog) w 23 3 o.type 32 i0 (.agg (cS pz0)) .i64 .i64 Try.underlying23 Try.underlying3 hi hy0 (some ⟨g, 0, none⟩) sLen c olds hf k h0 (by omega) hgr (by omega) (by rw [hy2]; omega) (growslice_fits_wide hgr (by rw [hy2]; omega))
  refine wpList_step fun K' hK' => ?_
  rw [if_pos hgd]
  unfold Oper.wp
  simp [execOp, ho, resolve, invoke, builtin, hs, hx, hr, Result.andThen]
  refine hK' _ _ (hK _ _ _ (grownCap_ge w _ _ _) (grownCap_le_maxLen w _ _ _ (by unfold maxLen; omega)) ?_ ?_ (heap_alloc_new (w.drew) _) ((Ext.refl w).drew.alloc _))
  · have := grownCap_ge w (sLen + k) c 32
    have h8 : (Value.agg (cS pz0)).cells.size = 5 := rfl
    simp only [Array.size_append, size_zeroCells, h8, List.size_toArray, hol]
    omega
  · rw [Array.toList_append, Array.toList_append, List.toList_toArray, List.take_left' hol]
set_option maxRecDepth 100000 in
theorem wpList_copy_rowS {ops : Array Oper} {rest : List Oper} {o : Oper} {a : Act} {w : World} {Q : Exit → Act → World → Prop} (hgd : Region.wanted o (yielded ops a.tmps) = true) (s x : Operand)
    (ho : o.op = .call { callee := .builtin .copy, args := #[s, x], argTypes := #[23, 23] }) (g k dLen dCap : Nat) (A : Addr) (sLen sCap m : Nat) (hm : Nat.min sLen dLen = m) (cur : Array Value) (hg : w.heap[g]? = some (.cells cur 32 (0, 0)))
    (cs : List Value) (hn : cs.length = m * 5) (hsrc : ∀ j u, cs[j]? = some u → w.cell? (A.add j) = some u) (h1 : ∀ u ∈ cs, u.oneCell' = true) (hfit : k * 5 + cs.length ≤ cur.size)
    (hs : a.eval s = .slice (some ⟨g, k * 5, none⟩) dLen dCap) (hx : a.eval x = .slice (some A) sLen sCap)
    (h : ∀ w', w'.heap[g]? = some (.cells (rowS cur k cs) 32 (0, 0)) → w.grownBy w' (some g) → wpList Try.prog ops Q rest (a.put o.dst (goInt m)) w') : wpList Try.prog ops Q (o :: rest) a w := by
  obtain ⟨i0, hi, hz⟩ := ninfoS
  have hl := run_loadCells_list (P := Try.prog) w A cs hsrc
  have hst := run_storeCells_at (P := Try.prog) g (k * 5) 32 cs 0 cur w hg (by simpa using hfit) h1
  simp only [Nat.add_zero] at hst
  have hr : (Builtin.copy_ #[23, 23] o.type #[.slice (some ⟨g, k * 5, none⟩) dLen dCap, .slice (some A) sLen sCap]).run Try.prog w = .ok (goInt m) (w.setRow g (rowS cur k cs)) := by
    unfold rowS
    simp [Builtin.copy_, run_underlying Try.underlying23, Builtin.lenOf, Builtin.firstCells, sizeOf, typeInfo, hi, hz, hm, ← hn, hl, hst]
  refine wpList_step fun K' hK' => ?_
  rw [if_pos hgd]
  unfold Oper.wp
  have h2 := h (w.setRow g (rowS cur k cs)) (setRow_heap w g _ _ _ (0, 0) hg) ⟨rfl, rfl, rfl, by simp [World.setRow], fun k _ hk => setRow_other w g k _ (fun e => hk (by simp [e]))⟩
  simp [execOp, ho, resolve, invoke, builtin, hs, hx, hr, Result.andThen]
  exact hK' _ _ h2
set_option maxRecDepth 100000 in
set_option maxHeartbeats 8000000 in
theorem insertSGrow_any (g n c i gp : Nat) (l : List Pe) (p : Pe) (lo : Nat) (w : World) (hs : OwnS w lo (.slice (some ⟨g, 0, none⟩) n c) l) (hi : i < n) (hc : c = n) (hl : n ≤ 100000) (hlo : lo ≤ w.heap.size) (hp : okS p) (hg : Cs w gp 32 (cS p)) :
    Calls Try.prog 75 #[.slice (some ⟨g, 0, none⟩) n c, .int .i64 (i : Nat), .slice (some ⟨gp, 0, none⟩) 1 1] w fun e w' => ∃ v', e = .returned v' ∧ OwnS w' lo v' (l.take i ++ p :: l.drop i) ∧ w.grownBy w' (some g) := by
  have HWD := Lib.hid (show ∀ q ∈ l.take i ++ p :: l.drop i, okS q from fun q hq => by
    rcases List.mem_append.1 hq with h | h
    · exact hs.2 q (List.mem_of_mem_take h)
    · rcases List.mem_cons.1 h with rfl | h
      · exact hp
      · exact hs.2 q (List.mem_of_mem_drop h))
  obtain ⟨cur0, hnl, _, _, _, _⟩ := own_block2H hs.1
  have hs1 := hs.1
  rw [← hnl] at hs1
  have hcm := own_capH hs1
  have HTL := Lib.hid (show (fS (l.take i)).length = i * 5 by rw [fS_len, List.length_take]; omega)
  have HND := Lib.hid (show (fS (l.drop i)).length = (n - i) * 5 by rw [fS_len, List.length_drop]; omega)
  have HOLD := Lib.hid (fun (j : Nat) (u : Value) (hu : (fS (l.take i))[j]? = some u) => show w.cell? ⟨g, j, none⟩ = some u from by
    have hj := (List.getElem?_eq_some_iff.1 hu).1
    rw [HTL.out] at hj
    refine (hs1.cellAt j (by omega)).trans ?_
    rw [← hu]
    conv => lhs; rw [← List.take_append_drop i l, fS_app']
    rw [List.getElem?_append_left (by rw [HTL.out]; exact hj)])
  have HSR0 := Lib.hid (fun (j : Nat) (u : Value) (hu : (fS (l.drop i))[j]? = some u) => show w.cell? ⟨g, i * 5 + j, none⟩ = some u from by
    have hj := (List.getElem?_eq_some_iff.1 hu).1
    rw [HND.out] at hj
    refine (hs1.cellAt (i * 5 + j) (by omega)).trans ?_
    rw [← hu]
    conv => lhs; rw [← List.take_append_drop i l, fS_app']
    rw [List.getElem?_append_right (by rw [HTL.out]; omega), HTL.out, Nat.add_sub_cancel_left])
  have HPC := Lib.hid hg
  have HNL := Lib.hid hnl
  have HLO := Lib.hid hlo
  have hci : ¬ c = i := by omega
  have hcn : c ≤ n := by omega
  have hgt : decide ((c : Int) < (n : Int) + 1) = true := decide_eq_true (by omega)
  have hgt2 : decide (c < n + 1) = true := decide_eq_true (by omega)
  have hin : ((i : Int) == (n : Int)) = false := by rw [beq_eq_false_iff_ne]; omega
  have hk : ((n : Int) + 1 - (i : Int)) = ((n + 1 - i : Nat) : Int) := by omega
  clear hs hs1 hnl hg hlo hp hc
  go_enter Try.func75, Try.ntmps75
  go_upto_region 10 with (at_builtin; refine wpList_append_zerosS rfl (.tmp 34) (.tmp 39) rfl g i c (n + 1 - i) rfl rfl (fS (l.take i)) HTL.out HOLD.out (by omega) (by omega) (by omega) ?_; intro cap cur w2 z1 z2 z3 z4 z5 z6)
  have Z := Lib.hid (And.intro z1 (And.intro z2 (And.intro z3 (And.intro z4 (And.intro z5 z6)))))
  have hn1 : i + (n + 1 - i) = n + 1 := by omega
  rw [hn1] at z1 Z ⊢
  have hcap : cap ≤ 9223372036854775807 := by unfold maxLen at z2; omega
  have hca : ¬ cap = i := by omega
  have hcb : ¬ cap = i + 1 := by omega
  clear z2 z3 z4 z5 z6 hgt hgt2 hk HOLD
  obtain ⟨N, hN⟩ : ∃ N, w.heap.size = N := ⟨_, rfl⟩
  have HN := Lib.hid hN
  rw [hN] at Z ⊢
  clear hN
  go_upto_region 11 with ((refine wpList_copy_rowS rfl (.tmp 43) (.tmp 44) rfl N i (n + 1 - i) (cap - i) ⟨gp, 0, none⟩ 1 1 1 (by simp only [Nat.min_def]; split <;> omega) cur Z.out.2.2.2.2.1 (cS p).toList rfl (fun j u hu => by rw [Addr.add_lit, Nat.zero_add]; exact Cs.cell (Cs.ext HPC.out Z.out.2.2.2.2.2) j u (by rwa [Array.getElem?_toList] at hu)) (cS_ones p) (by have h8 : (cS p).toList.length = 5 := rfl; rw [h8, Z.out.2.2.1]; have := Z.out.1; omega) rfl rfl ?_); intro w3 y1 y2)
  have H2 := Lib.hid (And.intro y1 y2)
  have HE3 := Lib.hid (Z.out.2.2.2.2.2.grown y2 (Nat.le_of_eq HN.out))
  have HSRC := Lib.hid (fun (j : Nat) (u : Value) (hu : (fS (l.drop i))[j]? = some u) => show w3.cell? ((⟨g, i * 5, none⟩ : Addr).add j) = some u by rw [Addr.add_lit]; exact HE3.out.cell (HSR0.out j u hu))
  have H8 := Lib.hid (show (cS p).toList.length = 5 from rfl)
  have HS1 := Lib.hid (rowS_size cur i (cS p).toList (by rw [H8.out, Z.out.2.2.1]; have := Z.out.1; omega))
  have HF2 := Lib.hid (show (i + 1) * 5 + (fS (l.drop i)).length ≤ (rowS cur i (cS p).toList).size by rw [HS1.out, Z.out.2.2.1, HND.out]; have := Z.out.1; omega)
  clear y1 y2 HPC HSR0
  refine wp_named fun a0 ha0 => ?_
  obtain ⟨fr, hfr⟩ : ∃ fr : (Nat → Value) → Act, ∀ V, fr V = (((((((((a0.put (some 46) (V 0)).put (some 47) (V 1)).put (some 48) (V 2)).put (some 49) (V 3)).put (some 50) (V 4)).put (some 51) (V 5)).put (some 52) (V 6)).put (some 53) (V 7)).put (some 54) (V 8)) := ⟨fun V => (((((((((a0.put (some 46) (V 0)).put (some 47) (V 1)).put (some 48) (V 2)).put (some 49) (V 3)).put (some 50) (V 4)).put (some 51) (V 5)).put (some 52) (V 6)).put (some 53) (V 7)).put (some 54) (V 8)), fun _ => rfl⟩
  rw [ha0] at hfr
  simp only [Act.put, List.setIfInBounds_toArray, List.set_cons_zero, List.set_cons_succ] at hfr
  have HFR := Lib.hid hfr
  clear hfr
  refine wp_region_inv (by kernel_rfl) (by kernel_rfl) (fun L A W => ∃ V : Nat → Value, A = fr V ∧ Vals (fun j => ([some (.slice (some ⟨N, 0, none⟩) (n + 1) cap), some (.int .i64 (i : Nat)), some (.int .i64 1), some (.int .i64 ((i + 1 : Nat) : Int)), some (.slice (some ⟨N, (i + 1) * 5, none⟩) (n - i) (cap - (i + 1))), some (.slice (some ⟨g, 0, none⟩) n c), some (.int .i64 (i : Nat)), some (.slice (some ⟨g, i * 5, none⟩) (n - i) (c - i)), some (goInt ((n - i : Nat) : Int))] : List (Option Value)).getD j none) L V ∧ (L 8 = false → Ext w3 W) ∧ (L 8 = true → W.heap[N]? = some (.cells (rowS (rowS cur i (cS p).toList) (i + 1) (fS (l.drop i))) 32 (0, 0)) ∧ w3.grownBy W (some N))) ?_ ⟨?_, ?_, ?_, ?_, ?_, ?_, ?_, ?_, ?_, trivial⟩ ?_
  · refine ⟨fun j => a0.tmps.getD (([46, 47, 48, 49, 50, 51, 52, 53, 54] : List Nat).getD j 0) undef, ?_, Vals.no _ _ _ (far_none _ _ rfl), fun _ => (Ext.refl _).drew, fun h0 => absurd h0 (by decide)⟩
    rw [HFR.out, ha0]
    rfl
  all_goals clear ha0
  · rintro L A W K hL hC hW ⟨V, rfl, HV, s0, s1⟩ hK
    have H := Lib.hid (show ∀ W', Ext W W' → K (fr (upd V 0 (.slice (some ⟨N, 0, none⟩) (n + 1) cap))) W' from fun W' he => hK _ _ ⟨upd V 0 (.slice (some ⟨N, 0, none⟩) (n + 1) cap), rfl, HV.up 0 _ (fun x hx => Option.some.inj hx), fun h0 => Ext.trans (s0 (by unfold More at h0; rwa [if_neg (by decide)] at h0)) he, fun h0 => blk_extH (s1 (more_ne h0 rfl)) he⟩)
    clear hK hC hW hL HV s0 s1
    rw [HFR.out]
    go_wp2_with fail
    show K _ _
    have := H.out _ (Ext.refl _)
    rw [HFR.out] at this
    exact this
  · rintro L A W K hL hC hW ⟨V, rfl, HV, s0, s1⟩ hK
    have H := Lib.hid (show ∀ W', Ext W W' → K (fr (upd V 1 (.int .i64 (i : Nat)))) W' from fun W' he => hK _ _ ⟨upd V 1 (.int .i64 (i : Nat)), rfl, HV.up 1 _ (fun x hx => Option.some.inj hx), fun h0 => Ext.trans (s0 (by unfold More at h0; rwa [if_neg (by decide)] at h0)) he, fun h0 => blk_extH (s1 (more_ne h0 rfl)) he⟩)
    clear hK hC hW hL HV s0 s1
    rw [HFR.out]
    go_wp2_with fail
    show K _ _
    have := H.out _ (Ext.refl _)
    rw [HFR.out] at this
    exact this
  · rintro L A W K hL hC hW ⟨V, rfl, HV, s0, s1⟩ hK
    have H := Lib.hid (show ∀ W', Ext W W' → K (fr (upd V 2 (.int .i64 1))) W' from fun W' he => hK _ _ ⟨upd V 2 (.int .i64 1), rfl, HV.up 2 _ (fun x hx => Option.some.inj hx), fun h0 => Ext.trans (s0 (by unfold More at h0; rwa [if_neg (by decide)] at h0)) he, fun h0 => blk_extH (s1 (more_ne h0 rfl)) he⟩)
    clear hK hC hW hL HV s0 s1
    rw [HFR.out]
    go_wp2_with fail
    show K _ _
    have := H.out _ (Ext.refl _)
    rw [HFR.out] at this
    exact this
  · rintro L A W K hL hC hW ⟨V, rfl, HV, s0, s1⟩ hK
    have e1 : V 1 = .int .i64 (i : Nat) := HV 1 _ rfl (hW 1 rfl)
    have e2 : V 2 = .int .i64 1 := HV 2 _ rfl (hW 2 rfl)
    have H := Lib.hid (show ∀ W', Ext W W' → K (fr (upd V 3 (.int .i64 ((i + 1 : Nat) : Int)))) W' from fun W' he => hK _ _ ⟨upd V 3 (.int .i64 ((i + 1 : Nat) : Int)), rfl, HV.up 3 _ (fun x hx => Option.some.inj hx), fun h0 => Ext.trans (s0 (by unfold More at h0; rwa [if_neg (by decide)] at h0)) he, fun h0 => blk_extH (s1 (more_ne h0 rfl)) he⟩)
    have HU := Lib.hid (show (upd V 3 (.int .i64 ((i + 1 : Nat) : Int))) 1 = .int .i64 (i : Nat) ∧ (upd V 3 (.int .i64 ((i + 1 : Nat) : Int))) 2 = .int .i64 1 from ⟨e1, e2⟩)
    clear hK hC hW hL HV s0 s1
    rw [HFR.out]
    rw [e1, e2]
    clear e1 e2
    go_wp2_with fail
    rw [show ((i : Int) + 1) = ((i + 1 : Nat) : Int) from rfl]
    show K _ _
    have := H.out _ (Ext.refl _)
    rw [HFR.out] at this
    obtain ⟨u1, u2⟩ := HU.out
    rw [u1, u2] at this
    exact this
  · rintro L A W K hL hC hW ⟨V, rfl, HV, s0, s1⟩ hK
    have e0 : V 0 = .slice (some ⟨N, 0, none⟩) (n + 1) cap := HV 0 _ rfl (hW 0 rfl)
    have e3 : V 3 = .int .i64 ((i + 1 : Nat) : Int) := HV 3 _ rfl (hW 3 rfl)
    have H := Lib.hid (show ∀ W', Ext W W' → K (fr (upd V 4 (.slice (some ⟨N, (i + 1) * 5, none⟩) (n - i) (cap - (i + 1))))) W' from fun W' he => hK _ _ ⟨upd V 4 (.slice (some ⟨N, (i + 1) * 5, none⟩) (n - i) (cap - (i + 1))), rfl, HV.up 4 _ (fun x hx => Option.some.inj hx), fun h0 => Ext.trans (s0 (by unfold More at h0; rwa [if_neg (by decide)] at h0)) he, fun h0 => blk_extH (s1 (more_ne h0 rfl)) he⟩)
    have HU := Lib.hid (show (upd V 4 (.slice (some ⟨N, (i + 1) * 5, none⟩) (n - i) (cap - (i + 1)))) 0 = .slice (some ⟨N, 0, none⟩) (n + 1) cap ∧ (upd V 4 (.slice (some ⟨N, (i + 1) * 5, none⟩) (n - i) (cap - (i + 1)))) 3 = .int .i64 ((i + 1 : Nat) : Int) from ⟨e0, e3⟩)
    clear hK hC hW hL HV s0 s1
    rw [HFR.out]
    rw [e0, e3]
    clear e0 e3
    go_wp2_with fail
    show K _ _
    have := H.out _ (Ext.refl _)
    rw [HFR.out] at this
    obtain ⟨u0, u3⟩ := HU.out
    rw [u0, u3] at this
    exact this
  · rintro L A W K hL hC hW ⟨V, rfl, HV, s0, s1⟩ hK
    have H := Lib.hid (show ∀ W', Ext W W' → K (fr (upd V 5 (.slice (some ⟨g, 0, none⟩) n c))) W' from fun W' he => hK _ _ ⟨upd V 5 (.slice (some ⟨g, 0, none⟩) n c), rfl, HV.up 5 _ (fun x hx => Option.some.inj hx), fun h0 => Ext.trans (s0 (by unfold More at h0; rwa [if_neg (by decide)] at h0)) he, fun h0 => blk_extH (s1 (more_ne h0 rfl)) he⟩)
    clear hK hC hW hL HV s0 s1
    rw [HFR.out]
    go_wp2_with fail
    show K _ _
    have := H.out _ (Ext.refl _)
    rw [HFR.out] at this
    exact this
  · rintro L A W K hL hC hW ⟨V, rfl, HV, s0, s1⟩ hK
    have H := Lib.hid (show ∀ W', Ext W W' → K (fr (upd V 6 (.int .i64 (i : Nat)))) W' from fun W' he => hK _ _ ⟨upd V 6 (.int .i64 (i : Nat)), rfl, HV.up 6 _ (fun x hx => Option.some.inj hx), fun h0 => Ext.trans (s0 (by unfold More at h0; rwa [if_neg (by decide)] at h0)) he, fun h0 => blk_extH (s1 (more_ne h0 rfl)) he⟩)
    clear hK hC hW hL HV s0 s1
    rw [HFR.out]
    go_wp2_with fail
    show K _ _
    have := H.out _ (Ext.refl _)
    rw [HFR.out] at this
    exact this
  · rintro L A W K hL hC hW ⟨V, rfl, HV, s0, s1⟩ hK
    have e5 : V 5 = .slice (some ⟨g, 0, none⟩) n c := HV 5 _ rfl (hW 5 rfl)
    have e6 : V 6 = .int .i64 (i : Nat) := HV 6 _ rfl (hW 6 rfl)
    have H := Lib.hid (show ∀ W', Ext W W' → K (fr (upd V 7 (.slice (some ⟨g, i * 5, none⟩) (n - i) (c - i)))) W' from fun W' he => hK _ _ ⟨upd V 7 (.slice (some ⟨g, i * 5, none⟩) (n - i) (c - i)), rfl, HV.up 7 _ (fun x hx => Option.some.inj hx), fun h0 => Ext.trans (s0 (by unfold More at h0; rwa [if_neg (by decide)] at h0)) he, fun h0 => blk_extH (s1 (more_ne h0 rfl)) he⟩)
    have HU := Lib.hid (show (upd V 7 (.slice (some ⟨g, i * 5, none⟩) (n - i) (c - i))) 5 = .slice (some ⟨g, 0, none⟩) n c ∧ (upd V 7 (.slice (some ⟨g, i * 5, none⟩) (n - i) (c - i))) 6 = .int .i64 (i : Nat) from ⟨e5, e6⟩)
    clear hK hC hW hL HV s0 s1
    rw [HFR.out]
    rw [e5, e6]
    clear e5 e6
    go_wp2_with fail
    show K _ _
    have := H.out _ (Ext.refl _)
    rw [HFR.out] at this
    obtain ⟨u5, u6⟩ := HU.out
    rw [u5, u6] at this
    exact this
  · rintro L A W K hL hC hW ⟨V, rfl, HV, s0, s1⟩ hK
    have e4 : V 4 = .slice (some ⟨N, (i + 1) * 5, none⟩) (n - i) (cap - (i + 1)) := HV 4 _ rfl (hW 4 rfl)
    have e7 : V 7 = .slice (some ⟨g, i * 5, none⟩) (n - i) (c - i) := HV 7 _ rfl (hW 7 rfl)
    have hB := s0 hL
    have H := Lib.hid (show ∀ W', (W'.heap[N]? = some (.cells (rowS (rowS cur i (cS p).toList) (i + 1) (fS (l.drop i))) 32 (0, 0)) ∧ w3.grownBy W' (some N)) → K (fr (upd V 8 (goInt ((n - i : Nat) : Int)))) W' from fun W' hA => hK _ _ ⟨upd V 8 (goInt ((n - i : Nat) : Int)), rfl, HV.up 8 _ (fun x hx => Option.some.inj hx), fun h0 => absurd h0 (by unfold More; rw [if_pos rfl]; simp), fun h0 => hA⟩)
    have HU := Lib.hid (show (upd V 8 (goInt ((n - i : Nat) : Int))) 4 = .slice (some ⟨N, (i + 1) * 5, none⟩) (n - i) (cap - (i + 1)) ∧ (upd V 8 (goInt ((n - i : Nat) : Int))) 7 = .slice (some ⟨g, i * 5, none⟩) (n - i) (c - i) from ⟨e4, e7⟩)
    clear hK hC hW hL HV s0 s1
    rw [HFR.out]
    rw [e4, e7]
    clear e4 e7
    have HB := Lib.hid hB
    clear hB
    refine wpList_copy_rowS rfl (.tmp 50) (.tmp 53) rfl N (i + 1) (n - i) (cap - (i + 1)) ⟨g, i * 5, none⟩ (n - i) (c - i) (n - i) (by simp only [Nat.min_def]; split <;> omega) (rowS cur i (cS p).toList) (Ext.block HB.out H2.out.1) (fS (l.drop i)) HND.out (fun j u hu => HB.out.cell (HSRC.out j u hu)) (fS_one _) HF2.out rfl rfl ?_
    intro W' hc' hg'
    have HA := Lib.hid (show W'.heap[N]? = some (.cells (rowS (rowS cur i (cS p).toList) (i + 1) (fS (l.drop i))) 32 (0, 0)) ∧ w3.grownBy W' (some N) from ⟨hc', grown_thenL HB.out hg'⟩)
    clear hc' hg'
    show K _ _
    have := H.out _ HA.out
    rw [HFR.out] at this
    obtain ⟨u4, u7⟩ := HU.out
    rw [u4, u7] at this
    exact this
  · rintro L A W hL ⟨V, rfl, HV, s0, s1⟩
    have e0 : V 0 = .slice (some ⟨N, 0, none⟩) (n + 1) cap := HV 0 _ rfl (hL 0 (by simp))
    have e1 : V 1 = .int .i64 (i : Nat) := HV 1 _ rfl (hL 1 (by simp))
    have e2 : V 2 = .int .i64 1 := HV 2 _ rfl (hL 2 (by simp))
    have e3 : V 3 = .int .i64 ((i + 1 : Nat) : Int) := HV 3 _ rfl (hL 3 (by simp))
    have e4 : V 4 = .slice (some ⟨N, (i + 1) * 5, none⟩) (n - i) (cap - (i + 1)) := HV 4 _ rfl (hL 4 (by simp))
    have e5 : V 5 = .slice (some ⟨g, 0, none⟩) n c := HV 5 _ rfl (hL 5 (by simp))
    have e6 : V 6 = .int .i64 (i : Nat) := HV 6 _ rfl (hL 6 (by simp))
    have e7 : V 7 = .slice (some ⟨g, i * 5, none⟩) (n - i) (c - i) := HV 7 _ rfl (hL 7 (by simp))
    have e8 : V 8 = goInt ((n - i : Nat) : Int) := HV 8 _ rfl (hL 8 (by simp))
    have hA := s1 (hL 8 (by simp))
    rw [HFR.out]
    rw [e0, e1, e2, e3, e4, e5, e6, e7, e8]
    clear hL HV HFR e0 e1 e2 e3 e4 e5 e6 e7 e8 s0 s1
    have HTK := Lib.hid (show (rowS (rowS cur i (cS p).toList) (i + 1) (fS (l.drop i))).toList.take ((n + 1) * 5) = fS (l.take i ++ p :: l.drop i) by
      rw [rowS_take _ (i + 1) (n + 1) _ HF2.out (by rw [HND.out]; omega), rowS_take cur i (i + 1) _ (by rw [H8.out, Z.out.2.2.1]; have := Z.out.1; omega) (by rw [H8.out]; omega), Z.out.2.2.2.1, fS_app']
      simp [fS])
    have HSZ := Lib.hid ((rowS_size _ (i + 1) (fS (l.drop i)) HF2.out).trans (HS1.out.trans Z.out.2.2.1))
    have HLN := Lib.hid (show (l.take i ++ p :: l.drop i).length = n + 1 by rw [List.length_append, List.length_cons, List.length_take, List.length_drop]; have := HNL.out; omega)
    have HA := Lib.hid hA
    clear hA
    go_wp2_with fail
    refine bodyPost_ret (results_tmp rfl _ _ _) rfl ?_
    exact ⟨_, rfl, ⟨by rw [HLN.out]; exact ⟨by rw [fS_len, HLN.out], .inr ⟨N, cap, _, rfl, by rw [← HN.out]; exact HLO.out, HA.out.1, z1, by unfold maxLen; omega, HSZ.out, HTK.out⟩⟩, HWD.out⟩, grown_of_ext (HE3.out.grown HA.out.2 (Nat.le_of_eq HN.out)) _⟩
set_option maxRecDepth 100000 in
theorem rowS_mid (cur : Array Value) (k n : Nat) (news : List Value) (h : k * 5 + news.length ≤ cur.size) (hn : k * 5 + news.length ≤ n * 5) : (rowS cur k news).toList.take (n * 5) = cur.toList.take (k * 5) ++ news ++ (cur.toList.take (n * 5)).drop (k * 5 + news.length) := by
  have hl : (cur.toList.take (k * 5) ++ news).length = k * 5 + news.length := by simp; omega
  unfold rowS
  rw [List.toList_toArray, List.take_append, hl, List.take_of_length_le (by rw [hl]; exact hn), List.drop_take]
set_option maxRecDepth 100000 in
set_option maxHeartbeats 8000000 in
theorem insertSRoom_any (g n c i gp : Nat) (l : List Pe) (p : Pe) (lo : Nat) (w : World) (hs : OwnS w lo (.slice (some ⟨g, 0, none⟩) n c) l) (hi : i < n) (hc : n + 1 ≤ c) (hl : n ≤ 100000) (hp : okS p) (hg : Cs w gp 32 (cS p)) (hne : gp ≠ g) :
    Calls Try.prog 75 #[.slice (some ⟨g, 0, none⟩) n c, .int .i64 (i : Nat), .slice (some ⟨gp, 0, none⟩) 1 1] w fun e w' => ∃ v', e = .returned v' ∧ OwnS w' lo v' (l.take i ++ p :: l.drop i) ∧ w.grownBy w' (some g) := by
  have HWD := Lib.hid (show ∀ q ∈ l.take i ++ p :: l.drop i, okS q from fun q hq => by
    rcases List.mem_append.1 hq with h | h
    · exact hs.2 q (List.mem_of_mem_take h)
    · rcases List.mem_cons.1 h with rfl | h
      · exact hp
      · exact hs.2 q (List.mem_of_mem_drop h))
  obtain ⟨cur, hnl, hlg, hgc, hcs, htk⟩ := own_block2H hs.1
  have hs1 := hs.1
  rw [← hnl] at hs1
  have hcm := own_capH hs1
  have HG := Lib.hid hgc
  have HCS := Lib.hid hcs
  have HTK0 := Lib.hid htk
  have HLG := Lib.hid hlg
  have HTL := Lib.hid (show (fS (l.take i)).length = i * 5 by rw [fS_len, List.length_take]; omega)
  have HND := Lib.hid (show (fS (l.drop i)).length = (n - i) * 5 by rw [fS_len, List.length_drop]; omega)
  have HSR0 := Lib.hid (fun (j : Nat) (u : Value) (hu : (fS (l.drop i))[j]? = some u) => show w.cell? ⟨g, i * 5 + j, none⟩ = some u from by
    have hj := (List.getElem?_eq_some_iff.1 hu).1
    rw [HND.out] at hj
    refine (hs1.cellAt (i * 5 + j) (by omega)).trans ?_
    rw [← hu]
    conv => lhs; rw [← List.take_append_drop i l, fS_app']
    rw [List.getElem?_append_right (by rw [HTL.out]; omega), HTL.out, Nat.add_sub_cancel_left])
  have HPC := Lib.hid hg
  have HNL := Lib.hid hnl
  have HNE := Lib.hid hne
  have H8 := Lib.hid (show (cS p).toList.length = 5 from rfl)
  have HF1 := Lib.hid (show (i + 1) * 5 + (fS (l.drop i)).length ≤ cur.size by rw [hcs, HND.out]; omega)
  have HS1 := Lib.hid (rowS_size cur (i + 1) (fS (l.drop i)) HF1.out)
  have HF2 := Lib.hid (show i * 5 + (cS p).toList.length ≤ (rowS cur (i + 1) (fS (l.drop i))).size by rw [HS1.out, hcs, H8.out]; omega)
  obtain ⟨i0, hi0, hz⟩ := ninfoS
  have hov : ∀ lb cb, (callFunc 91 #[.slice (some ⟨gp, 0, none⟩) 1 1, .slice (some ⟨g, (i + 1) * 5, none⟩) lb cb]).run Try.prog w = .ok (.value (.bool false)) w := fun lb cb => by
    rw [run_callFunc_extern Try.func91 (by kernel_rfl) (by kernel_rfl) (by kernel_rfl) (e := Extern.SlicesOverlaps.overlaps #[23, 23] #[4]) (by kernel_rfl),
      Lib.run_overlaps_apart w 23 4 32 Try.underlying23 5 (fun w => by simp [sizeOf, typeInfo, hi0, hz]) ⟨gp, 0, none⟩ ⟨g, (i + 1) * 5, none⟩ 1 1 lb cb hne 32 32 (cS p).size cur.size (shape_ofH hg) (shape_ofH hgc) (by rw [hcs]; omega) (Cs.frozen hg 0) (Cs.frozen hg _)]
    rfl
  have hci : ¬ c = i := by omega
  have hci1 : ¬ c = i + 1 := by omega
  have hgt : decide ((c : Int) < (n : Int) + 1) = false := decide_eq_false (by omega)
  have hgt2 : decide (c < n + 1) = false := decide_eq_false (by omega)
  have hin : ((i : Int) == (n : Int)) = false := by rw [beq_eq_false_iff_ne]; omega
  clear hs hs1 hnl hg hp hi0 hz hgc hcs htk hlg hne
  go_enter Try.func75, Try.ntmps75
  go_upto_region 15 with fail
  refine wp_named fun a0 ha0 => ?_
  obtain ⟨fr, hfr⟩ : ∃ fr : (Nat → Value) → Act, ∀ V, fr V = (((((((((a0.put (some 69) (V 0)).put (some 70) (V 1)).put (some 71) (V 2)).put (some 72) (V 3)).put (some 73) (V 4)).put (some 74) (V 5)).put (some 75) (V 6)).put (some 76) (V 7)).put (some 77) (V 8)) := ⟨fun V => (((((((((a0.put (some 69) (V 0)).put (some 70) (V 1)).put (some 71) (V 2)).put (some 72) (V 3)).put (some 73) (V 4)).put (some 74) (V 5)).put (some 75) (V 6)).put (some 76) (V 7)).put (some 77) (V 8)), fun _ => rfl⟩
  rw [ha0] at hfr
  simp only [Act.put, List.setIfInBounds_toArray, List.set_cons_zero, List.set_cons_succ] at hfr
  have HFR := Lib.hid hfr
  clear hfr
  refine wp_region_inv (by kernel_rfl) (by kernel_rfl) (fun L A W => ∃ V : Nat → Value, A = fr V ∧ Vals (fun j => ([some (.slice (some ⟨g, 0, none⟩) (n + 1) c), some (.int .i64 (i : Nat)), some (.int .i64 1), some (.int .i64 ((i + 1 : Nat) : Int)), some (.slice (some ⟨g, (i + 1) * 5, none⟩) (n - i) (c - (i + 1))), some (.slice (some ⟨g, 0, none⟩) (n + 1) c), some (.int .i64 (i : Nat)), some (.slice (some ⟨g, i * 5, none⟩) (n + 1 - i) (c - i)), some (goInt ((n - i : Nat) : Int))] : List (Option Value)).getD j none) L V ∧ (L 8 = false → Ext w W) ∧ (L 8 = true → W.heap[g]? = some (.cells (rowS cur (i + 1) (fS (l.drop i))) 32 (0, 0)) ∧ w.grownBy W (some g))) ?_ ⟨?_, ?_, ?_, ?_, ?_, ?_, ?_, ?_, ?_, trivial⟩ ?_
  · refine ⟨fun j => a0.tmps.getD (([69, 70, 71, 72, 73, 74, 75, 76, 77] : List Nat).getD j 0) undef, ?_, Vals.no _ _ _ (far_none _ _ rfl), fun _ => (Ext.refl _).drew, fun h0 => absurd h0 (by decide)⟩
    rw [HFR.out, ha0]
    rfl
  all_goals clear ha0
  · rintro L A W K hL hC hW ⟨V, rfl, HV, s0, s1⟩ hK
    have H := Lib.hid (show ∀ W', Ext W W' → K (fr (upd V 0 (.slice (some ⟨g, 0, none⟩) (n + 1) c))) W' from fun W' he => hK _ _ ⟨upd V 0 (.slice (some ⟨g, 0, none⟩) (n + 1) c), rfl, HV.up 0 _ (fun x hx => Option.some.inj hx), fun h0 => Ext.trans (s0 (by unfold More at h0; rwa [if_neg (by decide)] at h0)) he, fun h0 => blk_extH (s1 (more_ne h0 rfl)) he⟩)
    clear hK hC hW hL HV s0 s1
    rw [HFR.out]
    go_wp2_with fail
    show K _ _
    have := H.out _ (Ext.refl _)
    rw [HFR.out] at this
    exact this
  · rintro L A W K hL hC hW ⟨V, rfl, HV, s0, s1⟩ hK
    have H := Lib.hid (show ∀ W', Ext W W' → K (fr (upd V 1 (.int .i64 (i : Nat)))) W' from fun W' he => hK _ _ ⟨upd V 1 (.int .i64 (i : Nat)), rfl, HV.up 1 _ (fun x hx => Option.some.inj hx), fun h0 => Ext.trans (s0 (by unfold More at h0; rwa [if_neg (by decide)] at h0)) he, fun h0 => blk_extH (s1 (more_ne h0 rfl)) he⟩)
    clear hK hC hW hL HV s0 s1
    rw [HFR.out]
    go_wp2_with fail
    show K _ _
    have := H.out _ (Ext.refl _)
    rw [HFR.out] at this
    exact this
  · rintro L A W K hL hC hW ⟨V, rfl, HV, s0, s1⟩ hK
    have H := Lib.hid (show ∀ W', Ext W W' → K (fr (upd V 2 (.int .i64 1))) W' from fun W' he => hK _ _ ⟨upd V 2 (.int .i64 1), rfl, HV.up 2 _ (fun x hx => Option.some.inj hx), fun h0 => Ext.trans (s0 (by unfold More at h0; rwa [if_neg (by decide)] at h0)) he, fun h0 => blk_extH (s1 (more_ne h0 rfl)) he⟩)
    clear hK hC hW hL HV s0 s1
    rw [HFR.out]
    go_wp2_with fail
    show K _ _
    have := H.out _ (Ext.refl _)
    rw [HFR.out] at this
    exact this
  · rintro L A W K hL hC hW ⟨V, rfl, HV, s0, s1⟩ hK
    have e1 : V 1 = .int .i64 (i : Nat) := HV 1 _ rfl (hW 1 rfl)
    have e2 : V 2 = .int .i64 1 := HV 2 _ rfl (hW 2 rfl)
    have H := Lib.hid (show ∀ W', Ext W W' → K (fr (upd V 3 (.int .i64 ((i + 1 : Nat) : Int)))) W' from fun W' he => hK _ _ ⟨upd V 3 (.int .i64 ((i + 1 : Nat) : Int)), rfl, HV.up 3 _ (fun x hx => Option.some.inj hx), fun h0 => Ext.trans (s0 (by unfold More at h0; rwa [if_neg (by decide)] at h0)) he, fun h0 => blk_extH (s1 (more_ne h0 rfl)) he⟩)
    have HU := Lib.hid (show (upd V 3 (.int .i64 ((i + 1 : Nat) : Int))) 1 = .int .i64 (i : Nat) ∧ (upd V 3 (.int .i64 ((i + 1 : Nat) : Int))) 2 = .int .i64 1 from ⟨e1, e2⟩)
    clear hK hC hW hL HV s0 s1
    rw [HFR.out]
    rw [e1, e2]
    clear e1 e2
    go_wp2_with fail
    rw [show ((i : Int) + 1) = ((i + 1 : Nat) : Int) from rfl]
    show K _ _
    have := H.out _ (Ext.refl _)
    rw [HFR.out] at this
    obtain ⟨u1, u2⟩ := HU.out
    rw [u1, u2] at this
    exact this
  · rintro L A W K hL hC hW ⟨V, rfl, HV, s0, s1⟩ hK
    have e0 : V 0 = .slice (some ⟨g, 0, none⟩) (n + 1) c := HV 0 _ rfl (hW 0 rfl)
    have e3 : V 3 = .int .i64 ((i + 1 : Nat) : Int) := HV 3 _ rfl (hW 3 rfl)
    have H := Lib.hid (show ∀ W', Ext W W' → K (fr (upd V 4 (.slice (some ⟨g, (i + 1) * 5, none⟩) (n - i) (c - (i + 1))))) W' from fun W' he => hK _ _ ⟨upd V 4 (.slice (some ⟨g, (i + 1) * 5, none⟩) (n - i) (c - (i + 1))), rfl, HV.up 4 _ (fun x hx => Option.some.inj hx), fun h0 => Ext.trans (s0 (by unfold More at h0; rwa [if_neg (by decide)] at h0)) he, fun h0 => blk_extH (s1 (more_ne h0 rfl)) he⟩)
    have HU := Lib.hid (show (upd V 4 (.slice (some ⟨g, (i + 1) * 5, none⟩) (n - i) (c - (i + 1)))) 0 = .slice (some ⟨g, 0, none⟩) (n + 1) c ∧ (upd V 4 (.slice (some ⟨g, (i + 1) * 5, none⟩) (n - i) (c - (i + 1)))) 3 = .int .i64 ((i + 1 : Nat) : Int) from ⟨e0, e3⟩)
    clear hK hC hW hL HV s0 s1
    rw [HFR.out]
    rw [e0, e3]
    clear e0 e3
    go_wp2_with fail
    show K _ _
    have := H.out _ (Ext.refl _)
    rw [HFR.out] at this
    obtain ⟨u0, u3⟩ := HU.out
    rw [u0, u3] at this
    exact this
  · rintro L A W K hL hC hW ⟨V, rfl, HV, s0, s1⟩ hK
    have H := Lib.hid (show ∀ W', Ext W W' → K (fr (upd V 5 (.slice (some ⟨g, 0, none⟩) (n + 1) c))) W' from fun W' he => hK _ _ ⟨upd V 5 (.slice (some ⟨g, 0, none⟩) (n + 1) c), rfl, HV.up 5 _ (fun x hx => Option.some.inj hx), fun h0 => Ext.trans (s0 (by unfold More at h0; rwa [if_neg (by decide)] at h0)) he, fun h0 => blk_extH (s1 (more_ne h0 rfl)) he⟩)
    clear hK hC hW hL HV s0 s1
    rw [HFR.out]
    go_wp2_with fail
    show K _ _
    have := H.out _ (Ext.refl _)
    rw [HFR.out] at this
    exact this
  · rintro L A W K hL hC hW ⟨V, rfl, HV, s0, s1⟩ hK
    have H := Lib.hid (show ∀ W', Ext W W' → K (fr (upd V 6 (.int .i64 (i : Nat)))) W' from fun W' he => hK _ _ ⟨upd V 6 (.int .i64 (i : Nat)), rfl, HV.up 6 _ (fun x hx => Option.some.inj hx), fun h0 => Ext.trans (s0 (by unfold More at h0; rwa [if_neg (by decide)] at h0)) he, fun h0 => blk_extH (s1 (more_ne h0 rfl)) he⟩)
    clear hK hC hW hL HV s0 s1
    rw [HFR.out]
    go_wp2_with fail
    show K _ _
    have := H.out _ (Ext.refl _)
    rw [HFR.out] at this
    exact this
  · rintro L A W K hL hC hW ⟨V, rfl, HV, s0, s1⟩ hK
    have e5 : V 5 = .slice (some ⟨g, 0, none⟩) (n + 1) c := HV 5 _ rfl (hW 5 rfl)
    have e6 : V 6 = .int .i64 (i : Nat) := HV 6 _ rfl (hW 6 rfl)
    have H := Lib.hid (show ∀ W', Ext W W' → K (fr (upd V 7 (.slice (some ⟨g, i * 5, none⟩) (n + 1 - i) (c - i)))) W' from fun W' he => hK _ _ ⟨upd V 7 (.slice (some ⟨g, i * 5, none⟩) (n + 1 - i) (c - i)), rfl, HV.up 7 _ (fun x hx => Option.some.inj hx), fun h0 => Ext.trans (s0 (by unfold More at h0; rwa [if_neg (by decide)] at h0)) he, fun h0 => blk_extH (s1 (more_ne h0 rfl)) he⟩)
    have HU := Lib.hid (show (upd V 7 (.slice (some ⟨g, i * 5, none⟩) (n + 1 - i) (c - i))) 5 = .slice (some ⟨g, 0, none⟩) (n + 1) c ∧ (upd V 7 (.slice (some ⟨g, i * 5, none⟩) (n + 1 - i) (c - i))) 6 = .int .i64 (i : Nat) from ⟨e5, e6⟩)
    clear hK hC hW hL HV s0 s1
    rw [HFR.out]
    rw [e5, e6]
    clear e5 e6
    go_wp2_with fail
    show K _ _
    have := H.out _ (Ext.refl _)
    rw [HFR.out] at this
    obtain ⟨u5, u6⟩ := HU.out
    rw [u5, u6] at this
    exact this
  · rintro L A W K hL hC hW ⟨V, rfl, HV, s0, s1⟩ hK
    have e4 : V 4 = .slice (some ⟨g, (i + 1) * 5, none⟩) (n - i) (c - (i + 1)) := HV 4 _ rfl (hW 4 rfl)
    have e7 : V 7 = .slice (some ⟨g, i * 5, none⟩) (n + 1 - i) (c - i) := HV 7 _ rfl (hW 7 rfl)
    have hB := s0 hL
    have H := Lib.hid (show ∀ W', (W'.heap[g]? = some (.cells (rowS cur (i + 1) (fS (l.drop i))) 32 (0, 0)) ∧ w.grownBy W' (some g)) → K (fr (upd V 8 (goInt ((n - i : Nat) : Int)))) W' from fun W' hA => hK _ _ ⟨upd V 8 (goInt ((n - i : Nat) : Int)), rfl, HV.up 8 _ (fun x hx => Option.some.inj hx), fun h0 => absurd h0 (by unfold More; rw [if_pos rfl]; simp), fun h0 => hA⟩)
    have HU := Lib.hid (show (upd V 8 (goInt ((n - i : Nat) : Int))) 4 = .slice (some ⟨g, (i + 1) * 5, none⟩) (n - i) (c - (i + 1)) ∧ (upd V 8 (goInt ((n - i : Nat) : Int))) 7 = .slice (some ⟨g, i * 5, none⟩) (n + 1 - i) (c - i) from ⟨e4, e7⟩)
    clear hK hC hW hL HV s0 s1
    rw [HFR.out]
    rw [e4, e7]
    clear e4 e7
    have HB := Lib.hid hB
    clear hB
    refine wpList_copy_rowS rfl (.tmp 73) (.tmp 76) rfl g (i + 1) (n - i) (c - (i + 1)) ⟨g, i * 5, none⟩ (n + 1 - i) (c - i) (n - i) (by simp only [Nat.min_def]; split <;> omega) cur (Ext.block HB.out HG.out) (fS (l.drop i)) HND.out (fun j u hu => HB.out.cell (by rw [Addr.add_lit]; exact HSR0.out j u hu)) (fS_one _) HF1.out rfl rfl ?_
    intro W' hc' hg'
    have HA := Lib.hid (show W'.heap[g]? = some (.cells (rowS cur (i + 1) (fS (l.drop i))) 32 (0, 0)) ∧ w.grownBy W' (some g) from ⟨hc', grown_thenL HB.out hg'⟩)
    clear hc' hg'
    show K _ _
    have := H.out _ HA.out
    rw [HFR.out] at this
    obtain ⟨u4, u7⟩ := HU.out
    rw [u4, u7] at this
    exact this
  · rintro L A W hL ⟨V, rfl, HV, s0, s1⟩
    have e0 : V 0 = .slice (some ⟨g, 0, none⟩) (n + 1) c := HV 0 _ rfl (hL 0 (by simp))
    have e1 : V 1 = .int .i64 (i : Nat) := HV 1 _ rfl (hL 1 (by simp))
    have e2 : V 2 = .int .i64 1 := HV 2 _ rfl (hL 2 (by simp))
    have e3 : V 3 = .int .i64 ((i + 1 : Nat) : Int) := HV 3 _ rfl (hL 3 (by simp))
    have e4 : V 4 = .slice (some ⟨g, (i + 1) * 5, none⟩) (n - i) (c - (i + 1)) := HV 4 _ rfl (hL 4 (by simp))
    have e5 : V 5 = .slice (some ⟨g, 0, none⟩) (n + 1) c := HV 5 _ rfl (hL 5 (by simp))
    have e6 : V 6 = .int .i64 (i : Nat) := HV 6 _ rfl (hL 6 (by simp))
    have e7 : V 7 = .slice (some ⟨g, i * 5, none⟩) (n + 1 - i) (c - i) := HV 7 _ rfl (hL 7 (by simp))
    have e8 : V 8 = goInt ((n - i : Nat) : Int) := HV 8 _ rfl (hL 8 (by simp))
    have hA := s1 (hL 8 (by simp))
    rw [HFR.out]
    rw [e0, e1, e2, e3, e4, e5, e6, e7, e8]
    clear hL HV HFR e0 e1 e2 e3 e4 e5 e6 e7 e8 s0 s1
    have HA := Lib.hid hA
    clear hA
    have HPX := Lib.hid (show ∀ j u, (cS p).toList[j]? = some u → W.cell? ((⟨gp, 0, none⟩ : Addr).add j) = some u from fun j u hu => by
      rw [Addr.add_lit, Nat.zero_add]
      exact Cs.cell (Cs.kept HPC.out HA.out.2 (some_ne HNE.out)) j u (by rwa [Array.getElem?_toList] at hu))
    go_wp2_with (refine wpList_copy_rowS rfl (.tmp 80) (.tmp 81) rfl g i (n + 1 - i) (c - i) ⟨gp, 0, none⟩ 1 1 1 (by simp only [Nat.min_def]; split <;> omega) (rowS cur (i + 1) (fS (l.drop i))) HA.out.1 (cS p).toList rfl HPX.out (cS_ones p) HF2.out rfl rfl ?_; intro w3 y1 y2; have H3 := Lib.hid (And.intro y1 y2); clear y1 y2)
    have HTK := Lib.hid (show (rowS (rowS cur (i + 1) (fS (l.drop i))) i (cS p).toList).toList.take ((n + 1) * 5) = fS (l.take i ++ p :: l.drop i) by
      rw [rowS_mid _ i (n + 1) _ HF2.out (by rw [H8.out]; omega), rowS_take cur (i + 1) (n + 1) _ HF1.out (by rw [HND.out]; omega), rowS_keep cur (i + 1) i _ HF1.out (by omega), H8.out, fS_app', List.drop_left' (by rw [List.length_take, Array.length_toList, HCS.out]; omega), ← fS_take l i, ← HTK0.out, List.take_take, Nat.min_eq_left (by omega)]
      simp [fS])
    have HSZ := Lib.hid ((rowS_size _ i (cS p).toList HF2.out).trans (HS1.out.trans HCS.out))
    have HLN := Lib.hid (show (l.take i ++ p :: l.drop i).length = n + 1 by rw [List.length_append, List.length_cons, List.length_take, List.length_drop]; have := HNL.out; omega)
    refine bodyPost_ret (results_tmp rfl _ _ _) rfl ?_
    exact ⟨_, rfl, ⟨by rw [HLN.out]; exact ⟨by rw [fS_len, HLN.out], .inr ⟨g, c, _, rfl, HLG.out, H3.out.1, hc, by unfold maxLen; omega, HSZ.out, HTK.out⟩⟩, HWD.out⟩, grown_grownH HA.out.2 H3.out.2⟩

set_option maxRecDepth 100000 in
set_option maxHeartbeats 2000000 in
theorem insertSEnd_any (sv : Value) (l : List Pe) (g : Nat) (p : Pe) (lo : Nat) (w : World) (hs : OwnS w lo sv l) (hl : l.length ≤ 100000) (hp : okS p) (hg : Cs w g 32 (cS p)) (hlo : lo ≤ w.heap.size) :
    Calls Try.prog 75 #[sv, .int .i64 (l.length : Nat), .slice (some ⟨g, 0, none⟩) 1 1] w fun e w' => ∃ v', e = .returned v' ∧ OwnS w' lo v' (l ++ [p]) ∧ w.grownBy w' sv.ownBlock := by
  have HS := Lib.hid hs
  have HP := Lib.hid (rs_oneS hg)
  have HLW := Lib.hid (show ∀ q ∈ l ++ [p], okS q from fun q hq => by
    rcases List.mem_append.1 hq with h | h
    · exact hs.2 q h
    · rw [List.mem_singleton.1 h]; exact hp)
  obtain ⟨_, A1, c, rfl, h1, h2, _⟩ := Rs.of_own hs.1
  unfold maxLen at h2
  have HLL := Lib.hid (show (l ++ [p]).length = l.length + 1 by simp)
  have HPA := Lib.hid (show fS (l ++ [p]) = fS l ++ (cS p).toList by rw [fS_app2, fS_single])
  clear hs hg
  go_enter Try.func75, Try.ntmps75
  go_wp2_with (first
    | (at_builtin; refine wpList_append_row ?_ (.tmp 23) (.tmp 24) 23 rfl lo 32 Try.underlying23 _ 5 40 infoS3 rfl (by decide) (.slice A1 l.length c) l.length (fS l) rfl HS.out.1 (.slice (some ⟨g, 0, none⟩) 1 1) 1 (cS p).toList rfl HP.out (cS_ones p) (by omega) (by decide) hlo ?_; (exact rfl); intro v5 w5 o5 g5 b5; have O5 := Lib.hid o5; have G5 := Lib.hid g5; clear o5 g5 b5))
  all_goals
    refine bodyPost_ret (results_tmp rfl _ _ _) rfl ?_
    exact ⟨_, rfl, ⟨by rw [HLL.out, HPA.out]; exact O5.out, HLW.out⟩, by have := G5.out; cases A1 <;> exact this⟩

set_option maxRecDepth 100000 in
theorem insertS_any (sv : Value) (i gp : Nat) (l : List Pe) (p : Pe) (lo : Nat) (w : World) (hs : OwnS w lo sv l) (hi : i ≤ l.length) (hl : l.length ≤ 100000) (hlo : lo ≤ w.heap.size) (hp : okS p) (hg : Cs w gp 32 (cS p)) (hne : sv.ownBlock ≠ some gp) :
    Calls Try.prog 75 #[sv, .int .i64 (i : Nat), .slice (some ⟨gp, 0, none⟩) 1 1] w fun e w' => ∃ v', e = .returned v' ∧ OwnS w' lo v' (l.take i ++ p :: l.drop i) ∧ w.grownBy w' sv.ownBlock := by
  by_cases he : i = l.length
  · subst he
    rw [List.take_length, List.drop_length]
    exact insertSEnd_any sv l gp p lo w hs hl hp hg hlo
  · obtain ⟨_, A, c, rfl, h1, _⟩ := Rs.of_own hs.1
    obtain ⟨g, rfl⟩ := own_addrH hs.1 (by omega)
    have hgne : gp ≠ g := fun e => hne (by rw [e]; rfl)
    have hcm := own_capH hs.1
    by_cases hc : c = l.length
    · exact insertSGrow_any g l.length c i gp l p lo w hs (by omega) hc hl hlo hp hg
    · exact insertSRoom_any g l.length c i gp l p lo w hs (by omega) (by omega) hl hp hg hgne

end Go.Proofs.Ytjampleddeidaaa
