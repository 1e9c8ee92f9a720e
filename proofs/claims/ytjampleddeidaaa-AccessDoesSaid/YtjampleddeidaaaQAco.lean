/- Package access: rows of the call's own. -/
import Derived.Test.YtjampleddeidaaaQAcd
import Derived.Test.YtjampleddeidaaaQLhg
namespace Go.Proofs.Ytjampleddeidaaa
open Go.ChangeShapes Go.WideShapes Go.ChangeAt Go.RowKit Go.Shelf

set_option maxRecDepth 100000 in
theorem run_copy_wholeX {P : Program} (w : World) (dT sT ty elem : TypeId) (g n dCap : Nat) (ad : Addr) (sCap s : Nat) (cur : Array Value) (t : TypeId) (cs : List Value)
    (hu : P.underlying dT = some (.slice elem)) (hs : (P.info? elem).map (·.size) = some s) (hg : w.heap[g]? = some (.cells cur t (0, 0))) (hn : cs.length = n * s) (hcur : cur.size = n * s)
    (hsrc : ∀ j v, cs[j]? = some v → w.cell? (ad.add j) = some v) (h1 : ∀ v ∈ cs, v.oneCell' = true) :
    (Builtin.copy_ #[dT, sT] ty #[.slice (some ⟨g, 0, none⟩) n dCap, .slice (some ad) n sCap]).run P w = .ok (goInt n) (w.setRow g cs.toArray) := by
  have hl := run_loadCells_list (P := P) w ad cs hsrc
  have hst := run_storeCells_at P g 0 t cs 0 cur w hg (by omega) h1
  have e0 : cur.toList.drop cs.length = [] := List.drop_of_length_le (by rw [Array.length_toList]; omega)
  simp only [Nat.zero_add, List.take_zero, List.nil_append, e0, List.append_nil] at hst
  have hmin : Nat.min n n = n := Nat.min_self n
  cases hq : P.info? elem with
  | none => simp [hq] at hs
  | some i =>
    have hi : i.size = s := by simpa [hq] using hs
    simp [Builtin.copy_, run_underlying hu, Builtin.lenOf, Builtin.firstCells, sizeOf, typeInfo, hq, hi, hmin, ← hn, hl, hst]
set_option maxRecDepth 100000 in
theorem wpList_copy_wholeX {P : Program} {w : World} {ops : Array Oper} {rest : List Oper} {o : Oper} {a : Act} {Q : Exit → Act → World → Prop} (hgd : o.guard = none) (d s : Operand) (dT sT : TypeId)
    (ho : o.op = .call { callee := .builtin .copy, args := #[d, s], argTypes := #[dT, sT] }) (e : TypeId) (hu : P.underlying dT = some (.slice e)) (sz : Nat) (hsz : (P.info? e).map (·.size) = some sz)
    (base g n cap : Nat) (xs cs : List Value) (hd : a.eval d = .slice (some ⟨g, 0, none⟩) n cap) (hn : 0 < n) (hr : w.ownsRow base e sz (.slice (some ⟨g, 0, none⟩) n cap) n xs) (hcap : n = cap) (sv : Value) (hs : a.eval s = sv) (hx : Rs w sz sv n cs) (h1 : ∀ v ∈ cs, v.oneCell' = true)
    (hK : ∀ w', w'.ownsRow base e sz (.slice (some ⟨g, 0, none⟩) n cap) n cs → w.grownBy w' (some g) → wpList P ops Q rest (a.put o.dst (goInt n)) w') :
    wpList P ops Q (o :: rest) a w := by
  subst hcap
  obtain ⟨hcl, A, c, rfl, q1, q2, q3⟩ := hx
  obtain ⟨b, off, rfl, hc⟩ := q3 hn
  obtain ⟨r1, r2⟩ := hr
  rcases r2 with ⟨r2, _⟩ | ⟨g', cap', cur, r2, hb, hg, hnc, hcm, hcs, htake⟩
  · cases r2
  · simp only [Value.slice.injEq, Option.some.injEq, Addr.mk.injEq, and_true, true_and] at r2
    obtain ⟨rfl, rfl⟩ := r2
    refine wpList_plain hgd fun K hK' => ?_
    have hrun := run_copy_wholeX (P := P) w dT sT o.type e g n n ⟨b, off, none⟩ c sz cur e cs hu hsz hg hcl hcs (fun j v hv => by rw [add_plain]; exact hc j v hv) h1
    unfold Oper.wp
    simp [execOp, ho, resolve, invoke, builtin, hd, hs, hrun, Result.andThen]
    refine hK' _ _ (hK _ ⟨hcl, .inr ⟨g, n, cs.toArray, rfl, hb, setRow_heap w g _ _ e (0, 0) hg, hnc, hcm, by simpa using hcl, by simp [← hcl]⟩⟩ ⟨rfl, rfl, rfl, by simp [World.setRow], fun k _ hk => setRow_other w g k _ (fun e => hk (by simp [e]))⟩)


def fA (l : List Pe) : List Value := (l.map fun p => (cA p).toList).flatten
set_option maxRecDepth 100000 in
theorem XA.rs {W : World} {v : Value} {l : List Pe} (h : XA W v l) : Rs W 1 v l.length (fA l) := Sl.rsL (by decide) (fun p => (cA p).toList) (fun _ => rfl) (fun _ _ h => h.2) h
set_option maxRecDepth 100000 in
theorem fA_one (l : List Pe) : ∀ u ∈ fA l, u.oneCell' = true := by
  intro u hu
  obtain ⟨cs, hcs, hu⟩ := List.mem_flatten.1 hu
  obtain ⟨p, _, rfl⟩ := List.mem_map.1 hcs
  exact cA_ones p u hu
def OwnA (W : World) (base : Nat) (v : Value) (l : List Pe) : Prop := W.ownsRow base 28 1 v l.length (fA l) ∧ ∀ p ∈ l, okA p
set_option maxRecDepth 100000 in
theorem OwnA.ext {W W' : World} {base : Nat} {v : Value} {l : List Pe} (h : OwnA W base v l) (he : Ext W W') : OwnA W' base v l := ⟨own_ext h.1 he, h.2⟩
set_option maxRecDepth 100000 in
theorem OwnA.mono {W : World} {base base' : Nat} {v : Value} {l : List Pe} (h : OwnA W base v l) (hb : base' ≤ base) : OwnA W base' v l := ⟨own_mono h.1 hb, h.2⟩
set_option maxRecDepth 100000 in
theorem OwnA.rowO {W : World} {base : Nat} {v : Value} {l : List Pe} (h : OwnA W base v l) : RowO 28 1 (fun _ => RA) No base W v l :=
  ⟨l.map fun p => (cA p).toList, by simp, by intro cs hc; obtain ⟨p, _, rfl⟩ := List.mem_map.1 hc; rfl, h.1, fun i cs x hc hx => Far.true _ _ _ fun W => by
    rw [List.getElem?_map, hx] at hc
    simp at hc
    have := h.2 x (List.mem_of_getElem? hx)
    exact ⟨this, hc.symm⟩⟩
set_option maxRecDepth 100000 in
theorem OwnA.xs {W : World} {base : Nat} {v : Value} {l : List Pe} (h : OwnA W base v l) : XA W v l := h.rowO.sl
set_option maxRecDepth 100000 in
theorem OwnA.nil (W : World) (base : Nat) : OwnA W base (.slice none 0 0) [] := ⟨World.ownsRow_nil _ _ _ _, fun _p hp => nomatch hp⟩
set_option maxRecDepth 100000 in
theorem fA_len (l : List Pe) : (fA l).length = l.length * 1 := by
  induction l with
  | nil => rfl
  | cons p l ih =>
    have e : fA (p :: l) = (cA p).toList ++ fA l := by simp [fA]
    have h8 : (cA p).toList.length = 1 := rfl
    rw [e, List.length_append, ih, h8, List.length_cons]
    omega
set_option maxRecDepth 100000 in
theorem fA_app' (l m : List Pe) : fA (l ++ m) = fA l ++ fA m := by simp [fA]
set_option maxRecDepth 100000 in
theorem fA_take (l : List Pe) (i : Nat) : (fA l).take (i * 1) = fA (l.take i) := by
  by_cases h : i ≤ l.length
  · conv => lhs; rw [← List.take_append_drop i l, fA_app']
    rw [List.take_left' (by rw [fA_len, List.length_take, Nat.min_eq_left h])]
  · rw [List.take_of_length_le (show l.length ≤ i by omega), List.take_of_length_le (by rw [fA_len]; omega)]
set_option maxRecDepth 100000 in
theorem fA_single (p : Pe) : fA [p] = (cA p).toList := by simp [fA]
set_option maxRecDepth 100000 in
theorem rs_oneA {W : World} {g : Nat} {p : Pe} (h : Cs W g 28 (cA p)) : Rs W 1 (.slice (some ⟨g, 0, none⟩) 1 1) 1 (cA p).toList := ⟨rfl, _, _, rfl, Nat.le_refl _, by unfold maxLen; omega, fun _ => ⟨g, 0, rfl, fun i z hz => by
  rw [Nat.zero_add]
  exact Cs.cell h i z (by rwa [Array.getElem?_toList] at hz)⟩⟩
set_option maxRecDepth 100000 in
theorem fA_app2 (l m : List Pe) : fA (l ++ m) = fA l ++ fA m := by simp [fA]
set_option maxRecDepth 100000 in
theorem OwnA.sl {W : World} {base : Nat} {v : Value} {l : List Pe} (h : OwnA W base v l) : ∃ A c, v = .slice A l.length c ∧ l.length ≤ c ∧ c ≤ 9223372036854775807 := by
  obtain ⟨A, c, e, h1, h2⟩ := h.xs.len
  exact ⟨A, c, e, h1, by unfold maxLen at h2; omega⟩
set_option maxRecDepth 100000 in
theorem OwnA.lt {W : World} {base : Nat} {v : Value} {l : List Pe} (h : OwnA W base v l) (g : Nat) (hg : v.ownBlock = some g) : base ≤ g ∧ g < W.heap.size := h.rowO.lt g hg
set_option maxRecDepth 100000 in
theorem OwnA.keptT {W W' : World} {lo g : Nat} {t : TypeId} {v : Value} {l : List Pe} {cs : Array Value} (h : OwnA W lo v l) (hg : W.grownBy W' (some g)) (hs : Cs W g t cs) (ht : t ≠ 28) : OwnA W' lo v l := by
  refine ⟨h.1.kept hg ?_, h.2⟩
  rcases h.1.2 with ⟨e, _⟩ | ⟨g', cap, cur, e, _, hgg, _⟩
  · exact .inl (by rw [e]; rfl)
  · refine .inr (fun e' => ?_)
    rw [e] at e'
    injection e' with e'
    subst e'
    rw [show W.heap[g']? = _ from hs] at hgg
    cases hgg
    exact ht rfl
set_option maxRecDepth 100000 in
set_option maxHeartbeats 1000000 in
theorem ownA_any (v : Value) (l : List Pe) (w : World) (hb : XA w v l) (hl : l.length ≤ 1000000000) : Calls Try.prog 43 #[v] w fun e w' => ∃ v', e = .returned v' ∧ OwnA w' w.heap.size v' l ∧ Ext w w' := by
  have HB := Lib.hid hb.rs
  have HW := Lib.hid hb.oks
  obtain ⟨A, c, rfl, k1, k2⟩ := hb.len
  unfold maxLen at k2
  clear hb
  by_cases h0 : l.length = 0
  · have hz : ((l.length : Int) == 0) = true := by simp [h0]
    have hz2 : (l.length == 0) = true := by simp [h0]
    have HL := Lib.hid (List.eq_nil_of_length_eq_zero h0)
    clear h0
    go_enter Try.func43, Try.ntmps43
    go_wp2_with fail
    go_ret
    exact ⟨_, rfl, ⟨by rw [HL.out]; exact World.ownsRow_nil _ _ _ _, HW.out⟩, Ext.refl _⟩
  · have hz : ((l.length : Int) == 0) = false := by simp [h0]
    have hz2 : (l.length == 0) = false := by simp [h0]
    have HP := Lib.hid (show 0 < l.length by omega)
    clear h0
    obtain ⟨n, hn⟩ : ∃ n, l.length = n := ⟨_, rfl⟩
    have HN := Lib.hid hn
    rw [hn] at hz hz2 HB k1 HP hl
    rw [hn]
    obtain ⟨i0, hi, hz0, hz1, hzb⟩ := info_parts infoA3
    clear hn
    go_enter Try.func43, Try.ntmps43
    go_wp2_with (first
      | (at_make; go_loud (refine wpList_make_full _ rfl _ _ 22 rfl w.heap.size 28 i0 (.int .u64 0) 1 Try.underlying22 hi hz0 hz1 .i64 .i64 _ _ n rfl rfl rfl rfl (by rw [hzb]; omega) (by unfold maxLen; omega) (Nat.le_refl _) ?_; intro w1 hr1 hg1; have HR := Lib.hid hr1; have HE := Lib.hid (ext_of_grown hg1); clear hr1 hg1))
      | (with_reducible refine wpList_copy_wholeX rfl (.tmp 10) (.tmp 11) _ _ rfl 28 Try.underlying22 1 infoA w.heap.size w.heap.size n n _ (fA l) rfl HP.out HR.out rfl (.slice A n c) rfl (HB.out.ext HE.out) (fA_one l) ?_; intro w2 hr2 hg2; have HR2 := Lib.hid hr2; have HG2 := Lib.hid hg2; clear hr2 hg2))
    go_ret
    exact ⟨_, rfl, ⟨by rw [HN.out]; exact HR2.out, HW.out⟩, HE.out.grown HG2.out (Nat.le_refl _)⟩


def fS (l : List Pe) : List Value := (l.map fun p => (cS p).toList).flatten
set_option maxRecDepth 100000 in
theorem XS.rs {W : World} {v : Value} {l : List Pe} (h : XS W v l) : Rs W 5 v l.length (fS l) := Sl.rsL (by decide) (fun p => (cS p).toList) (fun _ => rfl) (fun _ _ h => h.2) h
set_option maxRecDepth 100000 in
theorem fS_one (l : List Pe) : ∀ u ∈ fS l, u.oneCell' = true := by
  intro u hu
  obtain ⟨cs, hcs, hu⟩ := List.mem_flatten.1 hu
  obtain ⟨p, _, rfl⟩ := List.mem_map.1 hcs
  exact cS_ones p u hu
def OwnS (W : World) (base : Nat) (v : Value) (l : List Pe) : Prop := W.ownsRow base 32 5 v l.length (fS l) ∧ ∀ p ∈ l, okS p
set_option maxRecDepth 100000 in
theorem OwnS.ext {W W' : World} {base : Nat} {v : Value} {l : List Pe} (h : OwnS W base v l) (he : Ext W W') : OwnS W' base v l := ⟨own_ext h.1 he, h.2⟩
set_option maxRecDepth 100000 in
theorem OwnS.mono {W : World} {base base' : Nat} {v : Value} {l : List Pe} (h : OwnS W base v l) (hb : base' ≤ base) : OwnS W base' v l := ⟨own_mono h.1 hb, h.2⟩
set_option maxRecDepth 100000 in
theorem OwnS.rowO {W : World} {base : Nat} {v : Value} {l : List Pe} (h : OwnS W base v l) : RowO 32 5 (fun _ => RS) No base W v l :=
  ⟨l.map fun p => (cS p).toList, by simp, by intro cs hc; obtain ⟨p, _, rfl⟩ := List.mem_map.1 hc; rfl, h.1, fun i cs x hc hx => Far.true _ _ _ fun W => by
    rw [List.getElem?_map, hx] at hc
    simp at hc
    have := h.2 x (List.mem_of_getElem? hx)
    exact ⟨this, hc.symm⟩⟩
set_option maxRecDepth 100000 in
theorem OwnS.xs {W : World} {base : Nat} {v : Value} {l : List Pe} (h : OwnS W base v l) : XS W v l := h.rowO.sl
set_option maxRecDepth 100000 in
theorem OwnS.nil (W : World) (base : Nat) : OwnS W base (.slice none 0 0) [] := ⟨World.ownsRow_nil _ _ _ _, fun _p hp => nomatch hp⟩
set_option maxRecDepth 100000 in
theorem fS_len (l : List Pe) : (fS l).length = l.length * 5 := by
  induction l with
  | nil => rfl
  | cons p l ih =>
    have e : fS (p :: l) = (cS p).toList ++ fS l := by simp [fS]
    have h8 : (cS p).toList.length = 5 := rfl
    rw [e, List.length_append, ih, h8, List.length_cons]
    omega
set_option maxRecDepth 100000 in
theorem fS_app' (l m : List Pe) : fS (l ++ m) = fS l ++ fS m := by simp [fS]
set_option maxRecDepth 100000 in
theorem fS_take (l : List Pe) (i : Nat) : (fS l).take (i * 5) = fS (l.take i) := by
  by_cases h : i ≤ l.length
  · conv => lhs; rw [← List.take_append_drop i l, fS_app']
    rw [List.take_left' (by rw [fS_len, List.length_take, Nat.min_eq_left h])]
  · rw [List.take_of_length_le (show l.length ≤ i by omega), List.take_of_length_le (by rw [fS_len]; omega)]
set_option maxRecDepth 100000 in
theorem fS_single (p : Pe) : fS [p] = (cS p).toList := by simp [fS]
set_option maxRecDepth 100000 in
theorem rs_oneS {W : World} {g : Nat} {p : Pe} (h : Cs W g 32 (cS p)) : Rs W 5 (.slice (some ⟨g, 0, none⟩) 1 1) 1 (cS p).toList := ⟨rfl, _, _, rfl, Nat.le_refl _, by unfold maxLen; omega, fun _ => ⟨g, 0, rfl, fun i z hz => by
  rw [Nat.zero_add]
  exact Cs.cell h i z (by rwa [Array.getElem?_toList] at hz)⟩⟩
set_option maxRecDepth 100000 in
theorem fS_app2 (l m : List Pe) : fS (l ++ m) = fS l ++ fS m := by simp [fS]
set_option maxRecDepth 100000 in
theorem OwnS.sl {W : World} {base : Nat} {v : Value} {l : List Pe} (h : OwnS W base v l) : ∃ A c, v = .slice A l.length c ∧ l.length ≤ c ∧ c ≤ 9223372036854775807 := by
  obtain ⟨A, c, e, h1, h2⟩ := h.xs.len
  exact ⟨A, c, e, h1, by unfold maxLen at h2; omega⟩
set_option maxRecDepth 100000 in
theorem OwnS.lt {W : World} {base : Nat} {v : Value} {l : List Pe} (h : OwnS W base v l) (g : Nat) (hg : v.ownBlock = some g) : base ≤ g ∧ g < W.heap.size := h.rowO.lt g hg
set_option maxRecDepth 100000 in
theorem OwnS.keptT {W W' : World} {lo g : Nat} {t : TypeId} {v : Value} {l : List Pe} {cs : Array Value} (h : OwnS W lo v l) (hg : W.grownBy W' (some g)) (hs : Cs W g t cs) (ht : t ≠ 32) : OwnS W' lo v l := by
  refine ⟨h.1.kept hg ?_, h.2⟩
  rcases h.1.2 with ⟨e, _⟩ | ⟨g', cap, cur, e, _, hgg, _⟩
  · exact .inl (by rw [e]; rfl)
  · refine .inr (fun e' => ?_)
    rw [e] at e'
    injection e' with e'
    subst e'
    rw [show W.heap[g']? = _ from hs] at hgg
    cases hgg
    exact ht rfl
set_option maxRecDepth 100000 in
set_option maxHeartbeats 1000000 in
theorem ownS_any (v : Value) (l : List Pe) (w : World) (hb : XS w v l) (hl : l.length ≤ 1000000000) : Calls Try.prog 67 #[v] w fun e w' => ∃ v', e = .returned v' ∧ OwnS w' w.heap.size v' l ∧ Ext w w' := by
  have HB := Lib.hid hb.rs
  have HW := Lib.hid hb.oks
  obtain ⟨A, c, rfl, k1, k2⟩ := hb.len
  unfold maxLen at k2
  clear hb
  by_cases h0 : l.length = 0
  · have hz : ((l.length : Int) == 0) = true := by simp [h0]
    have hz2 : (l.length == 0) = true := by simp [h0]
    have HL := Lib.hid (List.eq_nil_of_length_eq_zero h0)
    clear h0
    go_enter Try.func67, Try.ntmps67
    go_wp2_with fail
    go_ret
    exact ⟨_, rfl, ⟨by rw [HL.out]; exact World.ownsRow_nil _ _ _ _, HW.out⟩, Ext.refl _⟩
  · have hz : ((l.length : Int) == 0) = false := by simp [h0]
    have hz2 : (l.length == 0) = false := by simp [h0]
    have HP := Lib.hid (show 0 < l.length by omega)
    clear h0
    obtain ⟨n, hn⟩ : ∃ n, l.length = n := ⟨_, rfl⟩
    have HN := Lib.hid hn
    rw [hn] at hz hz2 HB k1 HP hl
    rw [hn]
    obtain ⟨i0, hi, hz0, hz1, hzb⟩ := info_parts infoS3
    clear hn
    go_enter Try.func67, Try.ntmps67
    go_wp2_with (first
      | (at_make; go_loud (refine wpList_make_full _ rfl _ _ 23 rfl w.heap.size 32 i0 (.agg (cS pz0)) 5 Try.underlying23 hi hz0 hz1 .i64 .i64 _ _ n rfl rfl rfl rfl (by rw [hzb]; omega) (by unfold maxLen; omega) (Nat.le_refl _) ?_; intro w1 hr1 hg1; have HR := Lib.hid hr1; have HE := Lib.hid (ext_of_grown hg1); clear hr1 hg1))
      | (with_reducible refine wpList_copy_wholeX rfl (.tmp 10) (.tmp 11) _ _ rfl 32 Try.underlying23 5 infoS w.heap.size w.heap.size n n _ (fS l) rfl HP.out HR.out rfl (.slice A n c) rfl (HB.out.ext HE.out) (fS_one l) ?_; intro w2 hr2 hg2; have HR2 := Lib.hid hr2; have HG2 := Lib.hid hg2; clear hr2 hg2))
    go_ret
    exact ⟨_, rfl, ⟨by rw [HN.out]; exact HR2.out, HW.out⟩, HE.out.grown HG2.out (Nat.le_refl _)⟩


def fP (l : List Pe) : List Value := (l.map fun p => (cP p).toList).flatten
set_option maxRecDepth 100000 in
theorem XP.rs {W : World} {v : Value} {l : List Pe} (h : XP W v l) : Rs W 9 v l.length (fP l) := Sl.rsL (by decide) (fun p => (cP p).toList) (fun _ => rfl) (fun _ _ h => h.2) h
set_option maxRecDepth 100000 in
theorem fP_one (l : List Pe) : ∀ u ∈ fP l, u.oneCell' = true := by
  intro u hu
  obtain ⟨cs, hcs, hu⟩ := List.mem_flatten.1 hu
  obtain ⟨p, _, rfl⟩ := List.mem_map.1 hcs
  exact cP_ones p u hu
def OwnP (W : World) (base : Nat) (v : Value) (l : List Pe) : Prop := W.ownsRow base 69 9 v l.length (fP l) ∧ ∀ p ∈ l, okP p
set_option maxRecDepth 100000 in
theorem OwnP.ext {W W' : World} {base : Nat} {v : Value} {l : List Pe} (h : OwnP W base v l) (he : Ext W W') : OwnP W' base v l := ⟨own_ext h.1 he, h.2⟩
set_option maxRecDepth 100000 in
theorem OwnP.mono {W : World} {base base' : Nat} {v : Value} {l : List Pe} (h : OwnP W base v l) (hb : base' ≤ base) : OwnP W base' v l := ⟨own_mono h.1 hb, h.2⟩
set_option maxRecDepth 100000 in
theorem OwnP.rowO {W : World} {base : Nat} {v : Value} {l : List Pe} (h : OwnP W base v l) : RowO 69 9 (fun _ => RP) No base W v l :=
  ⟨l.map fun p => (cP p).toList, by simp, by intro cs hc; obtain ⟨p, _, rfl⟩ := List.mem_map.1 hc; rfl, h.1, fun i cs x hc hx => Far.true _ _ _ fun W => by
    rw [List.getElem?_map, hx] at hc
    simp at hc
    have := h.2 x (List.mem_of_getElem? hx)
    exact ⟨this, hc.symm⟩⟩
set_option maxRecDepth 100000 in
theorem OwnP.xs {W : World} {base : Nat} {v : Value} {l : List Pe} (h : OwnP W base v l) : XP W v l := h.rowO.sl
set_option maxRecDepth 100000 in
theorem OwnP.nil (W : World) (base : Nat) : OwnP W base (.slice none 0 0) [] := ⟨World.ownsRow_nil _ _ _ _, fun _p hp => nomatch hp⟩
set_option maxRecDepth 100000 in
theorem fP_len (l : List Pe) : (fP l).length = l.length * 9 := by
  induction l with
  | nil => rfl
  | cons p l ih =>
    have e : fP (p :: l) = (cP p).toList ++ fP l := by simp [fP]
    have h8 : (cP p).toList.length = 9 := rfl
    rw [e, List.length_append, ih, h8, List.length_cons]
    omega
set_option maxRecDepth 100000 in
theorem fP_app' (l m : List Pe) : fP (l ++ m) = fP l ++ fP m := by simp [fP]
set_option maxRecDepth 100000 in
theorem fP_take (l : List Pe) (i : Nat) : (fP l).take (i * 9) = fP (l.take i) := by
  by_cases h : i ≤ l.length
  · conv => lhs; rw [← List.take_append_drop i l, fP_app']
    rw [List.take_left' (by rw [fP_len, List.length_take, Nat.min_eq_left h])]
  · rw [List.take_of_length_le (show l.length ≤ i by omega), List.take_of_length_le (by rw [fP_len]; omega)]
set_option maxRecDepth 100000 in
theorem fP_single (p : Pe) : fP [p] = (cP p).toList := by simp [fP]
set_option maxRecDepth 100000 in
theorem rs_oneP {W : World} {g : Nat} {p : Pe} (h : Cs W g 69 (cP p)) : Rs W 9 (.slice (some ⟨g, 0, none⟩) 1 1) 1 (cP p).toList := ⟨rfl, _, _, rfl, Nat.le_refl _, by unfold maxLen; omega, fun _ => ⟨g, 0, rfl, fun i z hz => by
  rw [Nat.zero_add]
  exact Cs.cell h i z (by rwa [Array.getElem?_toList] at hz)⟩⟩
set_option maxRecDepth 100000 in
theorem fP_app2 (l m : List Pe) : fP (l ++ m) = fP l ++ fP m := by simp [fP]
set_option maxRecDepth 100000 in
theorem OwnP.sl {W : World} {base : Nat} {v : Value} {l : List Pe} (h : OwnP W base v l) : ∃ A c, v = .slice A l.length c ∧ l.length ≤ c ∧ c ≤ 9223372036854775807 := by
  obtain ⟨A, c, e, h1, h2⟩ := h.xs.len
  exact ⟨A, c, e, h1, by unfold maxLen at h2; omega⟩
set_option maxRecDepth 100000 in
theorem OwnP.lt {W : World} {base : Nat} {v : Value} {l : List Pe} (h : OwnP W base v l) (g : Nat) (hg : v.ownBlock = some g) : base ≤ g ∧ g < W.heap.size := h.rowO.lt g hg
set_option maxRecDepth 100000 in
theorem OwnP.keptT {W W' : World} {lo g : Nat} {t : TypeId} {v : Value} {l : List Pe} {cs : Array Value} (h : OwnP W lo v l) (hg : W.grownBy W' (some g)) (hs : Cs W g t cs) (ht : t ≠ 69) : OwnP W' lo v l := by
  refine ⟨h.1.kept hg ?_, h.2⟩
  rcases h.1.2 with ⟨e, _⟩ | ⟨g', cap, cur, e, _, hgg, _⟩
  · exact .inl (by rw [e]; rfl)
  · refine .inr (fun e' => ?_)
    rw [e] at e'
    injection e' with e'
    subst e'
    rw [show W.heap[g']? = _ from hs] at hgg
    cases hgg
    exact ht rfl
set_option maxRecDepth 100000 in
set_option maxHeartbeats 1000000 in
theorem ownP_any (v : Value) (l : List Pe) (w : World) (hb : XP w v l) (hl : l.length ≤ 1000000000) : Calls Try.prog 68 #[v] w fun e w' => ∃ v', e = .returned v' ∧ OwnP w' w.heap.size v' l ∧ Ext w w' := by
  have HB := Lib.hid hb.rs
  have HW := Lib.hid hb.oks
  obtain ⟨A, c, rfl, k1, k2⟩ := hb.len
  unfold maxLen at k2
  clear hb
  by_cases h0 : l.length = 0
  · have hz : ((l.length : Int) == 0) = true := by simp [h0]
    have hz2 : (l.length == 0) = true := by simp [h0]
    have HL := Lib.hid (List.eq_nil_of_length_eq_zero h0)
    clear h0
    go_enter Try.func68, Try.ntmps68
    go_wp2_with fail
    go_ret
    exact ⟨_, rfl, ⟨by rw [HL.out]; exact World.ownsRow_nil _ _ _ _, HW.out⟩, Ext.refl _⟩
  · have hz : ((l.length : Int) == 0) = false := by simp [h0]
    have hz2 : (l.length == 0) = false := by simp [h0]
    have HP := Lib.hid (show 0 < l.length by omega)
    clear h0
    obtain ⟨n, hn⟩ : ∃ n, l.length = n := ⟨_, rfl⟩
    have HN := Lib.hid hn
    rw [hn] at hz hz2 HB k1 HP hl
    rw [hn]
    obtain ⟨i0, hi, hz0, hz1, hzb⟩ := info_parts infoP3
    clear hn
    go_enter Try.func68, Try.ntmps68
    go_wp2_with (first
      | (at_make; go_loud (refine wpList_make_full _ rfl _ _ 24 rfl w.heap.size 69 i0 (.agg (cP pz0)) 9 Try.underlying24 hi hz0 hz1 .i64 .i64 _ _ n rfl rfl rfl rfl (by rw [hzb]; omega) (by unfold maxLen; omega) (Nat.le_refl _) ?_; intro w1 hr1 hg1; have HR := Lib.hid hr1; have HE := Lib.hid (ext_of_grown hg1); clear hr1 hg1))
      | (with_reducible refine wpList_copy_wholeX rfl (.tmp 10) (.tmp 11) _ _ rfl 69 Try.underlying24 9 infoP w.heap.size w.heap.size n n _ (fP l) rfl HP.out HR.out rfl (.slice A n c) rfl (HB.out.ext HE.out) (fP_one l) ?_; intro w2 hr2 hg2; have HR2 := Lib.hid hr2; have HG2 := Lib.hid hg2; clear hr2 hg2))
    go_ret
    exact ⟨_, rfl, ⟨by rw [HN.out]; exact HR2.out, HW.out⟩, HE.out.grown HG2.out (Nat.le_refl _)⟩

end Go.Proofs.Ytjampleddeidaaa
