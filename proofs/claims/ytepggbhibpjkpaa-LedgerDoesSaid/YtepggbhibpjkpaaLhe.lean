/- slices.Clone, slices.Delete at rows of a ledger. -/
import Derived.Test.YtepggbhibpjkpaaLhd
namespace Go.Proofs.Ytepggbhibpjkpaa
open Go.ChangeShapes Go.WideShapes Go.ChangeAt Go.RowKit Go.Shelf
set_option maxRecDepth 100000 in
theorem flat_invL {s : Nat} (hs : 0 < s) : ∀ (css : List (List Value)), (∀ cs ∈ css, cs.length = s) → ∀ (i : Nat) (u : Value), css.flatten[i]? = some u → ∃ cs, css[i / s]? = some cs ∧ cs[i % s]? = some u
  | [], _, i, u, h => by simp at h
  | c :: css, hc, i, u, h => by
    have hl := hc c List.mem_cons_self
    rw [List.flatten_cons] at h
    by_cases hi : i < s
    · rw [List.getElem?_append_left (by omega)] at h
      rw [Nat.div_eq_of_lt hi, Nat.mod_eq_of_lt hi]
      exact ⟨c, rfl, h⟩
    · rw [List.getElem?_append_right (by omega), hl] at h
      obtain ⟨cs, h1, h2⟩ := flat_invL hs css (fun x hx => hc x (List.mem_cons_of_mem _ hx)) _ _ h
      have e1 : i / s = (i - s) / s + 1 := by
        conv => lhs; rw [show i = (i - s) + s by omega]
        exact Nat.add_div_right _ hs
      have e2 : i % s = (i - s) % s := by
        conv => lhs; rw [show i = (i - s) + s by omega]
        exact Nat.add_mod_right _ _
      rw [e1, e2]
      exact ⟨cs, h1, h2⟩
set_option maxRecDepth 100000 in
/-- A slice whose elements' cells are known reads as a row of cells. -/
theorem Sl.rsL {α : Type} {W : World} {s : Nat} (hs : 0 < s) {Rd : List Value → α → Prop} (f : α → List Value) (hf : ∀ x, (f x).length = s) (hR : ∀ cs x, Rd cs x → cs = f x) {v : Value} {l : List α} (h : Sl W s Rd v l) : Rs W s v l.length (l.map f).flatten := by
  obtain ⟨A, c, e, h1, h2, h3⟩ := h
  have hlen : (l.map f).flatten.length = l.length * s := by
    rw [flat_len (l.map f) (by intro cs hc; obtain ⟨x, _, rfl⟩ := List.mem_map.1 hc; exact hf x), List.length_map]
  refine ⟨hlen, A, c, e, h1, h2, fun hp => ?_⟩
  obtain ⟨b, o, ea, hc⟩ := h3 hp
  refine ⟨b, o, ea, fun i u hu => ?_⟩
  obtain ⟨cs, k1, k2⟩ := flat_invL hs (l.map f) (by intro cs hc; obtain ⟨x, _, rfl⟩ := List.mem_map.1 hc; exact hf x) i u hu
  rw [List.getElem?_map] at k1
  obtain ⟨x, k3, rfl⟩ := Option.map_eq_some_iff.1 k1
  obtain ⟨cs', _, k5, k6⟩ := hc _ _ k3
  obtain rfl := hR _ _ k5
  have := k6 _ _ k2
  rwa [show o + i / s * s + i % s = o + i by have := Nat.div_add_mod' i s; omega] at this

/-! ### Rows of the call's own -/
def hdf (l : List Hd) : List Value := (l.map fun p => (hdc p).toList).flatten
set_option maxRecDepth 100000 in
theorem Hds.rs {W : World} {v : Value} {l : List Hd} (h : Hds W v l) : Rs W 11 v l.length (hdf l) := Sl.rsL (by decide) (fun p => (hdc p).toList) (fun _ => rfl) (fun _ _ h => h.2) h
set_option maxRecDepth 100000 in
theorem hdf_one (l : List Hd) : ∀ u ∈ hdf l, u.oneCell' = true := by
  intro u hu
  obtain ⟨cs, hcs, hu⟩ := List.mem_flatten.1 hu
  obtain ⟨p, _, rfl⟩ := List.mem_map.1 hcs
  exact hdc_ones p u hu
/-- The rows v are l, in memory of the call's own. -/
def OwnH (W : World) (base : Nat) (v : Value) (l : List Hd) : Prop := W.ownsRow base 97 11 v l.length (hdf l) ∧ ∀ p ∈ l, p.ok
set_option maxRecDepth 100000 in
theorem OwnH.ext {W W' : World} {base : Nat} {v : Value} {l : List Hd} (h : OwnH W base v l) (he : Ext W W') : OwnH W' base v l := ⟨own_ext h.1 he, h.2⟩
set_option maxRecDepth 100000 in
theorem OwnH.mono {W : World} {base base' : Nat} {v : Value} {l : List Hd} (h : OwnH W base v l) (hb : base' ≤ base) : OwnH W base' v l := ⟨own_mono h.1 hb, h.2⟩
set_option maxRecDepth 100000 in
theorem OwnH.rowO {W : World} {base : Nat} {v : Value} {l : List Hd} (h : OwnH W base v l) : RowO 97 11 (fun _ => HdR) No base W v l :=
  ⟨l.map fun p => (hdc p).toList, by simp, by intro cs hc; obtain ⟨p, _, rfl⟩ := List.mem_map.1 hc; rfl, h.1, fun i cs x hc hx => Far.true _ _ _ fun W => by
    rw [List.getElem?_map, hx] at hc
    simp at hc
    have := h.2 x (List.mem_of_getElem? hx)
    exact ⟨this, hc.symm⟩⟩
set_option maxRecDepth 100000 in
theorem OwnH.hds {W : World} {base : Nat} {v : Value} {l : List Hd} (h : OwnH W base v l) : Hds W v l := h.rowO.sl
set_option maxRecDepth 100000 in
theorem OwnH.nil (W : World) (base : Nat) : OwnH W base (.slice none 0 0) [] := ⟨World.ownsRow_nil _ _ _ _, fun _p hp => nomatch hp⟩
set_option maxRecDepth 100000 in
theorem grown_thenL {W W1 W2 : World} {row : Option Nat} (h : Ext W W1) (k : W1.grownBy W2 row) : W.grownBy W2 row := ⟨k.os.trans h.os, k.tape.trans h.tape, k.output.trans h.output, Nat.le_trans h.size k.size, fun j hj hne => (k.block j (Nat.lt_of_lt_of_le hj h.size) hne).trans (Below.block h j hj)⟩
/-! ### slices.Clone of rows -/
set_option maxRecDepth 100000 in
set_option maxHeartbeats 1000000 in
theorem cloneH_any (mv : Value) (l : List Hd) (w : World) (hm : Hds w mv l) (hl : l.length ≤ 100000) : Calls Try.prog 161 #[mv] w fun e w' => ∃ v, e = .returned v ∧ OwnH w' w.heap.size v l ∧ Ext w w' := by
  have HR := Lib.hid hm.rs
  have HK := Lib.hid hm.oks
  obtain ⟨A, c, rfl, h1, h2, h3⟩ := hm
  have hnil := fun (w : World) (n : Nat) => Lib.run_eql_slice_nil (P := Try.prog) w 86 97 A n c 0 0 Try.underlying86
  cases A with
  | none =>
    have h0 : l = [] := by
      cases l with
      | nil => rfl
      | cons x l =>
        obtain ⟨b, o, e, _⟩ := h3 (by simp)
        cases e
    subst h0
    clear h3
    go_enter Try.func161, Try.ntmps161
    go_wp2_with fail
    go_ret
    exact ⟨_, rfl, OwnH.nil _ _, Ext.refl _⟩
  | some ad =>
    clear h3
    have HO : Hid ((w.alloc (.cells #[] 97)).ownsRow w.heap.size 97 11 (.slice (some ⟨w.heap.size, 0, none⟩) 0 0) 0 []) := Lib.hid ⟨by simp, .inr ⟨w.heap.size, 0, #[], rfl, Nat.le_refl _, heap_alloc_new _ _, Nat.le_refl _, by unfold maxLen; omega, by simp, by simp⟩⟩
    go_enter Try.func161, Try.ntmps161
    go_wp2_with (first
      | (at_builtin; go_loud (refine wpList_append_row ?_ (.tmp 5) (.tmp 6) 86 rfl w.heap.size 97 Try.underlying86 _ 11 88 hdinfo3 rfl (by decide) _ 0 [] rfl HO.out _ l.length (hdf l) rfl (HR.out.ext ((Ext.refl w).alloc _)) (hdf_one l) (by omega) (by decide) (by simp) ?_; (exact rfl); intro v5 w5 o5 g5 b5; have O5 := Lib.hid o5; have E5 := Lib.hid (((Ext.refl w).alloc (.cells #[] 97)).grown (g := w.heap.size) g5 (Nat.le_refl _)); clear o5 g5 b5)))
    go_ret
    have := O5.out
    rw [Nat.zero_add, List.nil_append] at this
    exact ⟨_, rfl, ⟨this, HK.out⟩, E5.out⟩

set_option maxRecDepth 100000 in
theorem own_capH {W : World} {lo s n c m g : Nat} {e : TypeId} {cs : List Value} (h : W.ownsRow lo e s (.slice (some ⟨g, 0, none⟩) n c) m cs) : n ≤ c ∧ c ≤ 9223372036854775807 := by
  rcases h.2 with ⟨e, _⟩ | ⟨b, cap, cur, e, _, _, h1, h2, _⟩
  · injection e with e; cases e
  · injection e with _ e2 e3
    subst e2 e3
    exact ⟨h1, by unfold maxLen at h2; omega⟩
set_option maxRecDepth 100000 in
theorem own_block2H {W : World} {lo s n c m g : Nat} {e : TypeId} {cs : List Value} (h : W.ownsRow lo e s (.slice (some ⟨g, 0, none⟩) n c) m cs) : ∃ cur : Array Value, n = m ∧ lo ≤ g ∧ W.heap[g]? = some (.cells cur e (0, 0)) ∧ cur.size = c * s ∧ cur.toList.take (n * s) = cs := by
  rcases h.2 with ⟨e, _⟩ | ⟨b, cap, cur, e, hb, hg, _, _, hs, ht⟩
  · injection e with e; cases e
  · injection e with e1 e2 e3
    injection e1 with e1
    injection e1 with e1
    subst e1 e2 e3
    exact ⟨cur, rfl, hb, hg, hs, ht⟩
set_option maxRecDepth 100000 in
theorem grown_thenH' {W W1 W2 : World} {row : Option Nat} (k : W.grownBy W1 row) (h : Ext W1 W2) : W.grownBy W2 row := ⟨h.os.trans k.os, h.tape.trans k.tape, h.output.trans k.output, Nat.le_trans k.size h.size, fun j hj hne => (Below.block h j (Nat.lt_of_lt_of_le hj k.size)).trans (k.block j hj hne)⟩
set_option maxRecDepth 100000 in
theorem RegH.ext {w4 W W' : World} {P : Prop} (h : Ext w4 W ∧ P) (he : Ext W W') : Ext w4 W' ∧ P := ⟨h.1.trans he, h.2⟩
set_option maxRecDepth 100000 in
theorem blk_extH {w W W' : World} {g : Nat} {o : Obj} (h : W.heap[g]? = some o ∧ w.grownBy W (some g)) (he : Ext W W') : W'.heap[g]? = some o ∧ w.grownBy W' (some g) := ⟨Ext.block he h.1, grown_thenH' h.2 he⟩
/-- A row of cells over which others are laid. -/
def rowC (cur : Array Value) (i : Nat) (news : List Value) : Array Value := (cur.toList.take (i * 11) ++ news ++ cur.toList.drop (i * 11 + news.length)).toArray
set_option maxRecDepth 100000 in
theorem rowC_size (cur : Array Value) (i : Nat) (news : List Value) (h : i * 11 + news.length ≤ cur.size) : (rowC cur i news).size = cur.size := by
  unfold rowC
  simp
  omega
set_option maxRecDepth 100000 in
theorem rowC_take (cur : Array Value) (i n : Nat) (news : List Value) (h : i * 11 + news.length ≤ cur.size) (hn : n * 11 = i * 11 + news.length) : (rowC cur i news).toList.take (n * 11) = cur.toList.take (i * 11) ++ news := by
  unfold rowC
  rw [List.toList_toArray, hn, List.take_left' (by simp; omega)]
set_option maxRecDepth 100000 in
theorem rowC_keep (cur : Array Value) (i n : Nat) (news : List Value) (h : i * 11 + news.length ≤ cur.size) (hn : n ≤ i) : (rowC cur i news).toList.take (n * 11) = cur.toList.take (n * 11) := by
  unfold rowC
  rw [List.toList_toArray, List.append_assoc, List.take_append_of_le_length (by simp; omega), List.take_take, Nat.min_eq_left (by omega)]
set_option maxRecDepth 100000 in
theorem hdf_len (l : List Hd) : (hdf l).length = l.length * 11 := by
  induction l with
  | nil => rfl
  | cons p l ih =>
    have e : hdf (p :: l) = (hdc p).toList ++ hdf l := by simp [hdf]
    have h8 : (hdc p).toList.length = 11 := rfl
    rw [e, List.length_append, ih, h8, List.length_cons]
    omega
set_option maxRecDepth 100000 in
theorem hdf_app' (l m : List Hd) : hdf (l ++ m) = hdf l ++ hdf m := by simp [hdf]
set_option maxRecDepth 100000 in
theorem hdf_take (l : List Hd) (i : Nat) : (hdf l).take (i * 11) = hdf (l.take i) := by
  by_cases h : i ≤ l.length
  · conv => lhs; rw [← List.take_append_drop i l, hdf_app']
    rw [List.take_left' (by rw [hdf_len, List.length_take, Nat.min_eq_left h])]
  · rw [List.take_of_length_le (show l.length ≤ i by omega), List.take_of_length_le (by rw [hdf_len]; omega)]
set_option maxRecDepth 100000 in
theorem hinfo11 : ∃ i0 : TypeInfo, Try.prog.info? 97 = some i0 ∧ i0.size = 11 := by
  have h := hdinfo
  cases hi : Try.prog.info? 97 with
  | none => rw [hi] at h; cases h
  | some i0 => rw [hi] at h; exact ⟨i0, rfl, by simpa using h⟩
set_option maxRecDepth 100000 in
theorem wpList_append_roomH {ops : Array Oper} {rest : List Oper} {o : Oper} {a : Act} {w : World} {Q : Exit → Act → World → Prop} (hgd : Region.wanted o (yielded ops a.tmps) = true) (s x : Operand)
    (ho : o.op = .call { callee := .builtin .append, args := #[s, x], argTypes := #[86, 86] }) (g sLen sCap : Nat) (cur : Array Value) (hg : w.heap[g]? = some (.cells cur 97 (0, 0)))
    (A : Addr) (m c : Nat) (news : List Value) (hl : news.length = m * 11) (hnews : ∀ j u, news[j]? = some u → w.cell? (A.add j) = some u) (h1 : ∀ u ∈ news, u.oneCell' = true) (hroom : sLen + m ≤ sCap) (hfit : sLen * 11 + news.length ≤ cur.size)
    (hs : a.eval s = .slice (some ⟨g, 0, none⟩) sLen sCap) (hx : a.eval x = .slice (some A) m c)
    (h : ∀ w', w'.heap[g]? = some (.cells (rowC cur sLen news) 97 (0, 0)) → w.grownBy w' (some g) → wpList Try.prog ops Q rest (a.put o.dst (.slice (some ⟨g, 0, none⟩) (sLen + m) sCap)) w') : wpList Try.prog ops Q (o :: rest) a w := by
  obtain ⟨i0, hi, hz⟩ := hinfo11
  have hr := run_append_room (P := Try.prog) (w := w) 86 o.type 97 i0 Try.underlying86 hi g sLen sCap cur hg A m c news (by rw [hz]; exact hl) hnews h1 hroom (by rw [hz]; exact hfit)
  rw [hz] at hr
  refine wpList_step fun K' hK' => ?_
  rw [if_pos hgd]
  unfold Oper.wp
  have h2 := h (w.setRow g (rowC cur sLen news)) (setRow_heap w g _ _ _ (0, 0) hg) ⟨rfl, rfl, rfl, by simp [World.setRow], fun k _ hk => setRow_other w g k _ (fun e => hk (by simp [e]))⟩
  unfold rowC at h2
  rw [List.append_assoc] at h2
  simp [execOp, ho, resolve, invoke, builtin, hs, hx, hr, Result.andThen]
  exact hK' _ _ h2
set_option maxRecDepth 100000 in
theorem run_clear_oneH (w : World) (ty : TypeId) (g k c : Nat) (cur : Array Value) (hg : w.heap[g]? = some (.cells cur 97 (0, 0))) (hfit : k * 11 + 11 ≤ cur.size) :
    ∃ news : List Value, news.length = 11 ∧ (Builtin.clear_ #[86] ty #[.slice (some ⟨g, k * 11, none⟩) 1 c]).run Try.prog w = .ok (.tuple #[]) (w.setRow g (rowC cur k news)) := by
  obtain ⟨i0, hi, hy0, hy1, hy2⟩ := info_parts hdinfo3
  have hl : (Builtin.zeroCells (hdc hz0) 1).toList.length = 11 := by rw [Array.length_toList, size_zeroCells]; rfl
  refine ⟨(Builtin.zeroCells (hdc hz0) 1).toList, hl, ?_⟩
  have hst := run_storeCells_at (P := Try.prog) g (k * 11) 97 (Builtin.zeroCells (hdc hz0) 1).toList 0 cur w hg (by rw [hl]; exact hfit) (fun v hv => by
    simp only [Builtin.zeroCells, Array.toList_map, List.mem_map] at hv
    obtain ⟨a, _, rfl⟩ := hv
    have h8 : (hdc hz0).size = 11 := rfl
    have h : a % 11 = 0 ∨ a % 11 = 1 ∨ a % 11 = 2 ∨ a % 11 = 3 ∨ a % 11 = 4 ∨ a % 11 = 5 ∨ a % 11 = 6 ∨ a % 11 = 7 ∨ a % 11 = 8 ∨ a % 11 = 9 ∨ a % 11 = 10 := by omega
    show ((hdc hz0)[a % (hdc hz0).size]!).oneCell' = true
    rw [h8]
    rcases h with h | h | h | h | h | h | h | h | h | h | h <;> rw [h] <;> rfl)
  simp only [Nat.add_zero] at hst
  unfold rowC
  simp [Builtin.clear_, run_underlying Try.underlying86, zeroValue, typeInfo, hi, hy0, hst, Value.cells]
set_option maxRecDepth 100000 in
set_option maxHeartbeats 4000000 in
theorem deleteHA_any (g n c i : Nat) (l : List Hd) (lo : Nat) (w : World) (hs : OwnH w lo (.slice (some ⟨g, 0, none⟩) n c) l) (hi : i < n) (_hl : n ≤ 100000) (hci : ¬ c = i + 1) :
    Calls Try.prog 162 #[.slice (some ⟨g, 0, none⟩) n c, .int .i64 (i : Nat), .int .i64 ((i + 1 : Nat) : Int)] w fun e w' => ∃ m c', e = .returned (.slice (some ⟨g, 0, none⟩) m c') ∧ m + 1 = n ∧ OwnH w' lo (.slice (some ⟨g, 0, none⟩) m c') (l.take i ++ l.drop (i + 1)) ∧ w.grownBy w' (some g) := by
  have HS := Lib.hid hs
  have hcm := own_capH hs.1
  obtain ⟨cur, hnl, hlo, hg, hcs, htk⟩ := own_block2H hs.1
  have HN := Lib.hid hnl
  have hs1 := hs.1
  rw [← hnl] at hs1
  have HG := Lib.hid hg
  have HCS := Lib.hid hcs
  have HTK := Lib.hid htk
  have HLO := Lib.hid hlo
  have hii : ((i : Int) == (i : Int) + 1) = false := by rw [beq_eq_false_iff_ne]; omega
  have hii2 : ((i : Int) == ((i + 1 : Nat) : Int)) = false := by rw [beq_eq_false_iff_ne]; omega
  have HNL := Lib.hid (show (hdf (l.drop (i + 1))).length = (n - (i + 1)) * 11 by rw [hdf_len, List.length_drop]; omega)
  have HSRC : Hid (∀ j u, (hdf (l.drop (i + 1)))[j]? = some u → w.cell? ((⟨g, (i + 1) * 11, none⟩ : Addr).add j) = some u) := Lib.hid (fun j u hu => by
    have hj := (List.getElem?_eq_some_iff.1 hu).1
    rw [HNL.out] at hj
    have e : (hdf l)[(i + 1) * 11 + j]? = some u := by
      rw [← hu]
      conv => lhs; rw [← List.take_append_drop (i + 1) l, hdf_app']
      have h8 : (hdf (l.take (i + 1))).length = (i + 1) * 11 := by rw [hdf_len, List.length_take]; omega
      rw [List.getElem?_append_right (by omega), h8, Nat.add_sub_cancel_left]
    first
    | (exfalso; omega)
    | (rw [Addr.add_lit]; exact (hs1.cellAt ((i + 1) * 11 + j) (by omega)).trans e))
  have HFIT := Lib.hid (show i * 11 + (hdf (l.drop (i + 1))).length ≤ cur.size by rw [HNL.out, hcs]; have := hcm.1; omega)
  clear hs hs1 hnl hg hcs htk hlo
  go_enter Try.func162, Try.ntmps162
  go_wp2_with fail
  refine wp_named fun a0 ha0 => ?_
  obtain ⟨fr, hfr⟩ : ∃ fr : (Nat → Value) → Act, ∀ V, fr V = ((((((((a0.put (some 20) (V 0)).put (some 21) (V 1)).put (some 22) (V 2)).put (some 23) (V 3)).put (some 24) (V 4)).put (some 25) (V 5)).put (some 26) (V 6)).put (some 0) (V 7)) := ⟨fun V => ((((((((a0.put (some 20) (V 0)).put (some 21) (V 1)).put (some 22) (V 2)).put (some 23) (V 3)).put (some 24) (V 4)).put (some 25) (V 5)).put (some 26) (V 6)).put (some 0) (V 7)), fun _ => rfl⟩
  rw [ha0] at hfr
  simp only [Act.put, List.setIfInBounds_toArray, List.set_cons_zero, List.set_cons_succ] at hfr
  have HFR := Lib.hid hfr
  clear hfr
  refine wp_region_inv (by kernel_rfl) (by kernel_rfl) (fun L A W => ∃ V : Nat → Value, A = fr V ∧ Vals (fun j => ([some (.slice (some ⟨g, 0, none⟩) n c), some (.int .i64 (i : Nat)), some (.slice (some ⟨g, 0, none⟩) i c), some (.slice (some ⟨g, 0, none⟩) n c), some (.int .i64 ((i + 1 : Nat) : Int)), some (.slice (some ⟨g, (i + 1) * 11, none⟩) (n - (i + 1)) (c - (i + 1))), some (.slice (some ⟨g, 0, none⟩) (i + (n - (i + 1))) c), some (.slice (some ⟨g, 0, none⟩) (i + (n - (i + 1))) c)] : List (Option Value)).getD j none) L V ∧ (L 6 = false → Ext w W ∧ V 7 = .slice (some ⟨g, 0, none⟩) n c) ∧ (L 6 = true → L 7 = false → W.heap[g]? = some (.cells (rowC cur i (hdf (l.drop (i + 1)))) 97 (0, 0)) ∧ w.grownBy W (some g)) ∧ (L 7 = true → W.heap[g]? = some (.cells (rowC cur i (hdf (l.drop (i + 1)))) 97 (0, 0)) ∧ w.grownBy W (some g))) ?_ ⟨?_, ?_, ?_, ?_, ?_, ?_, ?_, ?_, trivial⟩ ?_
  · refine ⟨fun j => a0.tmps.getD (([20, 21, 22, 23, 24, 25, 26, 0] : List Nat).getD j 0) undef, ?_, Vals.no _ _ _ (far_none _ _ rfl), fun _ => ⟨(Ext.refl _).drew, by show a0.tmps.getD 0 undef = _; rw [ha0]; rfl⟩, fun h0 h1 => absurd h0 (by decide), fun h0 => absurd h0 (by decide)⟩
    rw [HFR.out, ha0]
    rfl
  all_goals clear ha0
  · rintro L A W K hL hC hW ⟨V, rfl, HV, s0, s1, s2⟩ hK
    have hB := s0 (hC.no (hC.no hL 2 _ rfl rfl) 6 _ rfl rfl)
    have e7 : V 7 = .slice (some ⟨g, 0, none⟩) n c := hB.2
    have H := Lib.hid (show ∀ W', Ext W W' → K (fr (upd V 0 (.slice (some ⟨g, 0, none⟩) n c))) W' from fun W' he => hK _ _ ⟨upd V 0 (.slice (some ⟨g, 0, none⟩) n c), rfl, HV.up 0 _ (fun x hx => Option.some.inj hx), fun h0 => RegH.ext (s0 (by unfold More at h0; rwa [if_neg (by decide)] at h0)) he, fun h0 h1 => blk_extH (s1 (more_ne h0 rfl) (by unfold More at h1; rwa [if_neg (by decide)] at h1)) he, fun h0 => blk_extH (s2 (more_ne h0 rfl)) he⟩)
    have HU := Lib.hid (show (upd V 0 (.slice (some ⟨g, 0, none⟩) n c)) 7 = .slice (some ⟨g, 0, none⟩) n c from e7)
    clear hK hC hW hL HV s0 s1 s2
    rw [HFR.out]
    rw [e7]
    clear e7
    clear hB
    go_wp2_with fail
    show K _ _
    have := H.out _ (Ext.refl _)
    rw [HFR.out] at this
    obtain u7 := HU.out
    rw [u7] at this
    exact this
  · rintro L A W K hL hC hW ⟨V, rfl, HV, s0, s1, s2⟩ hK
    have H := Lib.hid (show ∀ W', Ext W W' → K (fr (upd V 1 (.int .i64 (i : Nat)))) W' from fun W' he => hK _ _ ⟨upd V 1 (.int .i64 (i : Nat)), rfl, HV.up 1 _ (fun x hx => Option.some.inj hx), fun h0 => RegH.ext (s0 (by unfold More at h0; rwa [if_neg (by decide)] at h0)) he, fun h0 h1 => blk_extH (s1 (more_ne h0 rfl) (by unfold More at h1; rwa [if_neg (by decide)] at h1)) he, fun h0 => blk_extH (s2 (more_ne h0 rfl)) he⟩)
    clear hK hC hW hL HV s0 s1 s2
    rw [HFR.out]
    go_wp2_with fail
    show K _ _
    have := H.out _ (Ext.refl _)
    rw [HFR.out] at this
    exact this
  · rintro L A W K hL hC hW ⟨V, rfl, HV, s0, s1, s2⟩ hK
    have e0 : V 0 = .slice (some ⟨g, 0, none⟩) n c := HV 0 _ rfl (hW 0 rfl)
    have e1 : V 1 = .int .i64 (i : Nat) := HV 1 _ rfl (hW 1 rfl)
    have H := Lib.hid (show ∀ W', Ext W W' → K (fr (upd V 2 (.slice (some ⟨g, 0, none⟩) i c))) W' from fun W' he => hK _ _ ⟨upd V 2 (.slice (some ⟨g, 0, none⟩) i c), rfl, HV.up 2 _ (fun x hx => Option.some.inj hx), fun h0 => RegH.ext (s0 (by unfold More at h0; rwa [if_neg (by decide)] at h0)) he, fun h0 h1 => blk_extH (s1 (more_ne h0 rfl) (by unfold More at h1; rwa [if_neg (by decide)] at h1)) he, fun h0 => blk_extH (s2 (more_ne h0 rfl)) he⟩)
    have HU := Lib.hid (show (upd V 2 (.slice (some ⟨g, 0, none⟩) i c)) 0 = .slice (some ⟨g, 0, none⟩) n c ∧ (upd V 2 (.slice (some ⟨g, 0, none⟩) i c)) 1 = .int .i64 (i : Nat) from ⟨e0, e1⟩)
    clear hK hC hW hL HV s0 s1 s2
    rw [HFR.out]
    rw [e0, e1]
    clear e0 e1
    go_wp2_with fail
    show K _ _
    have := H.out _ (Ext.refl _)
    rw [HFR.out] at this
    obtain ⟨u0, u1⟩ := HU.out
    rw [u0, u1] at this
    exact this
  · rintro L A W K hL hC hW ⟨V, rfl, HV, s0, s1, s2⟩ hK
    have hB := s0 (hC.no (hC.no hL 5 _ rfl rfl) 6 _ rfl rfl)
    have e7 : V 7 = .slice (some ⟨g, 0, none⟩) n c := hB.2
    have H := Lib.hid (show ∀ W', Ext W W' → K (fr (upd V 3 (.slice (some ⟨g, 0, none⟩) n c))) W' from fun W' he => hK _ _ ⟨upd V 3 (.slice (some ⟨g, 0, none⟩) n c), rfl, HV.up 3 _ (fun x hx => Option.some.inj hx), fun h0 => RegH.ext (s0 (by unfold More at h0; rwa [if_neg (by decide)] at h0)) he, fun h0 h1 => blk_extH (s1 (more_ne h0 rfl) (by unfold More at h1; rwa [if_neg (by decide)] at h1)) he, fun h0 => blk_extH (s2 (more_ne h0 rfl)) he⟩)
    have HU := Lib.hid (show (upd V 3 (.slice (some ⟨g, 0, none⟩) n c)) 7 = .slice (some ⟨g, 0, none⟩) n c from e7)
    clear hK hC hW hL HV s0 s1 s2
    rw [HFR.out]
    rw [e7]
    clear e7
    clear hB
    go_wp2_with fail
    show K _ _
    have := H.out _ (Ext.refl _)
    rw [HFR.out] at this
    obtain u7 := HU.out
    rw [u7] at this
    exact this
  · rintro L A W K hL hC hW ⟨V, rfl, HV, s0, s1, s2⟩ hK
    have H := Lib.hid (show ∀ W', Ext W W' → K (fr (upd V 4 (.int .i64 ((i + 1 : Nat) : Int)))) W' from fun W' he => hK _ _ ⟨upd V 4 (.int .i64 ((i + 1 : Nat) : Int)), rfl, HV.up 4 _ (fun x hx => Option.some.inj hx), fun h0 => RegH.ext (s0 (by unfold More at h0; rwa [if_neg (by decide)] at h0)) he, fun h0 h1 => blk_extH (s1 (more_ne h0 rfl) (by unfold More at h1; rwa [if_neg (by decide)] at h1)) he, fun h0 => blk_extH (s2 (more_ne h0 rfl)) he⟩)
    clear hK hC hW hL HV s0 s1 s2
    rw [HFR.out]
    go_wp2_with fail
    show K _ _
    have := H.out _ (Ext.refl _)
    rw [HFR.out] at this
    exact this
  · rintro L A W K hL hC hW ⟨V, rfl, HV, s0, s1, s2⟩ hK
    have e3 : V 3 = .slice (some ⟨g, 0, none⟩) n c := HV 3 _ rfl (hW 3 rfl)
    have e4 : V 4 = .int .i64 ((i + 1 : Nat) : Int) := HV 4 _ rfl (hW 4 rfl)
    have H := Lib.hid (show ∀ W', Ext W W' → K (fr (upd V 5 (.slice (some ⟨g, (i + 1) * 11, none⟩) (n - (i + 1)) (c - (i + 1))))) W' from fun W' he => hK _ _ ⟨upd V 5 (.slice (some ⟨g, (i + 1) * 11, none⟩) (n - (i + 1)) (c - (i + 1))), rfl, HV.up 5 _ (fun x hx => Option.some.inj hx), fun h0 => RegH.ext (s0 (by unfold More at h0; rwa [if_neg (by decide)] at h0)) he, fun h0 h1 => blk_extH (s1 (more_ne h0 rfl) (by unfold More at h1; rwa [if_neg (by decide)] at h1)) he, fun h0 => blk_extH (s2 (more_ne h0 rfl)) he⟩)
    have HU := Lib.hid (show (upd V 5 (.slice (some ⟨g, (i + 1) * 11, none⟩) (n - (i + 1)) (c - (i + 1)))) 3 = .slice (some ⟨g, 0, none⟩) n c ∧ (upd V 5 (.slice (some ⟨g, (i + 1) * 11, none⟩) (n - (i + 1)) (c - (i + 1)))) 4 = .int .i64 ((i + 1 : Nat) : Int) from ⟨e3, e4⟩)
    clear hK hC hW hL HV s0 s1 s2
    rw [HFR.out]
    rw [e3, e4]
    clear e3 e4
    go_wp2_with fail
    show K _ _
    have := H.out _ (Ext.refl _)
    rw [HFR.out] at this
    obtain ⟨u3, u4⟩ := HU.out
    rw [u3, u4] at this
    exact this
  · rintro L A W K hL hC hW ⟨V, rfl, HV, s0, s1, s2⟩ hK
    have e2 : V 2 = .slice (some ⟨g, 0, none⟩) i c := HV 2 _ rfl (hW 2 rfl)
    have e5 : V 5 = .slice (some ⟨g, (i + 1) * 11, none⟩) (n - (i + 1)) (c - (i + 1)) := HV 5 _ rfl (hW 5 rfl)
    have hB := s0 hL
    have H := Lib.hid (show ∀ W', (W'.heap[g]? = some (.cells (rowC cur i (hdf (l.drop (i + 1)))) 97 (0, 0)) ∧ w.grownBy W' (some g)) → K (fr (upd V 6 (.slice (some ⟨g, 0, none⟩) (i + (n - (i + 1))) c))) W' from fun W' hA => hK _ _ ⟨upd V 6 (.slice (some ⟨g, 0, none⟩) (i + (n - (i + 1))) c), rfl, HV.up 6 _ (fun x hx => Option.some.inj hx), fun h0 => absurd h0 (by unfold More; rw [if_pos rfl]; simp), fun h0 h1 => hA, fun h0 => absurd (more_ne h0 rfl) (by rw [(hC.no hL 7 _ rfl rfl)]; simp)⟩)
    have HU := Lib.hid (show (upd V 6 (.slice (some ⟨g, 0, none⟩) (i + (n - (i + 1))) c)) 2 = .slice (some ⟨g, 0, none⟩) i c ∧ (upd V 6 (.slice (some ⟨g, 0, none⟩) (i + (n - (i + 1))) c)) 5 = .slice (some ⟨g, (i + 1) * 11, none⟩) (n - (i + 1)) (c - (i + 1)) from ⟨e2, e5⟩)
    clear hK hC hW hL HV s0 s1 s2
    rw [HFR.out]
    rw [e2, e5]
    clear e2 e5
    have HB := Lib.hid hB
    clear hB
    at_builtin
    refine wpList_append_roomH rfl (.tmp 22) (.tmp 25) rfl g i c cur (Ext.block HB.out.1 HG.out) ⟨g, (i + 1) * 11, none⟩ (n - (i + 1)) (c - (i + 1)) (hdf (l.drop (i + 1))) HNL.out (fun j u hu => HB.out.1.cell (HSRC.out j u hu)) (hdf_one _) (by omega) HFIT.out rfl rfl ?_
    intro W' hc' hg'
    have HA := Lib.hid (show W'.heap[g]? = some (.cells (rowC cur i (hdf (l.drop (i + 1)))) 97 (0, 0)) ∧ w.grownBy W' (some g) from ⟨hc', grown_thenL HB.out.1 hg'⟩)
    clear hc' hg'
    show K _ _
    have := H.out _ HA.out
    rw [HFR.out] at this
    obtain ⟨u2, u5⟩ := HU.out
    rw [u2, u5] at this
    exact this
  · rintro L A W K hL hC hW ⟨V, rfl, HV, s0, s1, s2⟩ hK
    have e6 : V 6 = .slice (some ⟨g, 0, none⟩) (i + (n - (i + 1))) c := HV 6 _ rfl (hW 6 rfl)
    have hB := s1 (hW 6 rfl) hL
    have H := Lib.hid (show ∀ W', (W'.heap[g]? = some (.cells (rowC cur i (hdf (l.drop (i + 1)))) 97 (0, 0)) ∧ w.grownBy W' (some g)) → K (fr (upd V 7 (.slice (some ⟨g, 0, none⟩) (i + (n - (i + 1))) c))) W' from fun W' hA => hK _ _ ⟨upd V 7 (.slice (some ⟨g, 0, none⟩) (i + (n - (i + 1))) c), rfl, HV.up 7 _ (fun x hx => Option.some.inj hx), fun h0 => absurd (show L 6 = false by unfold More at h0; rwa [if_neg (by decide)] at h0) (by rw [(hW 6 rfl)]; simp), fun h0 h1 => absurd h1 (by unfold More; rw [if_pos rfl]; simp), fun h0 => hA⟩)
    have HU := Lib.hid (show (upd V 7 (.slice (some ⟨g, 0, none⟩) (i + (n - (i + 1))) c)) 6 = .slice (some ⟨g, 0, none⟩) (i + (n - (i + 1))) c from e6)
    clear hK hC hW hL HV s0 s1 s2
    rw [HFR.out]
    rw [e6]
    clear e6
    have HA := Lib.hid hB
    clear hB
    go_wp2_with fail
    show K _ _
    have := H.out _ HA.out
    rw [HFR.out] at this
    obtain u6 := HU.out
    rw [u6] at this
    exact this
  · rintro L A W hL ⟨V, rfl, HV, s0, s1, s2⟩
    have e0 : V 0 = .slice (some ⟨g, 0, none⟩) n c := HV 0 _ rfl (hL 0 (by simp))
    have e1 : V 1 = .int .i64 (i : Nat) := HV 1 _ rfl (hL 1 (by simp))
    have e2 : V 2 = .slice (some ⟨g, 0, none⟩) i c := HV 2 _ rfl (hL 2 (by simp))
    have e3 : V 3 = .slice (some ⟨g, 0, none⟩) n c := HV 3 _ rfl (hL 3 (by simp))
    have e4 : V 4 = .int .i64 ((i + 1 : Nat) : Int) := HV 4 _ rfl (hL 4 (by simp))
    have e5 : V 5 = .slice (some ⟨g, (i + 1) * 11, none⟩) (n - (i + 1)) (c - (i + 1)) := HV 5 _ rfl (hL 5 (by simp))
    have e6 : V 6 = .slice (some ⟨g, 0, none⟩) (i + (n - (i + 1))) c := HV 6 _ rfl (hL 6 (by simp))
    have e7 : V 7 = .slice (some ⟨g, 0, none⟩) (i + (n - (i + 1))) c := HV 7 _ rfl (hL 7 (by simp))
    have hA := s2 (hL 7 (by simp))
    rw [HFR.out]
    rw [e0, e1, e2, e3, e4, e5, e6, e7]
    clear hL HV HFR e0 e1 e2 e3 e4 e5 e6 e7 s0 s1 s2
    obtain ⟨k, hk⟩ : ∃ k, i + (n - (i + 1)) = k := ⟨_, rfl⟩
    have hnk : n - k = 1 := by omega
    have hkc : k ≤ c := by omega
    have hck : ¬ c - k = 0 := by omega
    have hck2 : ¬ c = k := by omega
    have HK := Lib.hid (show k + 1 = n ∧ i ≤ k by omega)
    have hsz := rowC_size cur i (hdf (l.drop (i + 1))) HFIT.out
    obtain ⟨news, hnl, hrun⟩ := run_clear_oneH W 0 g k (c - k) _ hA.1 (by rw [hsz, HCS.out]; omega)
    have HR2 := Lib.hid (show (W.setRow g (rowC (rowC cur i (hdf (l.drop (i + 1)))) k news)).heap[g]? = some (.cells (rowC (rowC cur i (hdf (l.drop (i + 1)))) k news) 97 (0, 0)) from setRow_heap W g _ _ _ (0, 0) hA.1)
    have HGR := Lib.hid (show w.grownBy (W.setRow g (rowC (rowC cur i (hdf (l.drop (i + 1)))) k news)) (some g) from ⟨hA.2.os, hA.2.tape, hA.2.output, by have := hA.2.size; simpa [World.setRow] using this, fun j hj hne => (setRow_other W g j _ (fun e => hne (by rw [e]))).trans (hA.2.block j hj hne)⟩)
    have HSZ2 := Lib.hid (rowC_size (rowC cur i (hdf (l.drop (i + 1)))) k news (by rw [hsz, HCS.out, hnl]; omega))
    have HTK2 := Lib.hid (show (rowC (rowC cur i (hdf (l.drop (i + 1)))) k news).toList.take (k * 11) = hdf (l.take i ++ l.drop (i + 1)) by
      rw [rowC_keep _ k k news (by rw [hsz, HCS.out, hnl]; omega) (Nat.le_refl _), rowC_take cur i k _ HFIT.out (by rw [HNL.out]; omega), hdf_app', ← hdf_take l i, ← HTK.out, List.take_take, Nat.min_eq_left (by omega)])
    have HSZ3 := Lib.hid (hsz.trans HCS.out)
    have HLN := Lib.hid (show (l.take i ++ l.drop (i + 1)).length = k by rw [List.length_append, List.length_take, List.length_drop]; have := HN.out; omega)
    have HWD := Lib.hid (show ∀ q ∈ l.take i ++ l.drop (i + 1), q.ok from fun q hq => HS.out.2 q (by
      rcases List.mem_append.1 hq with h | h
      · exact List.mem_of_mem_take h
      · exact List.mem_of_mem_drop h))
    rw [hk]
    clear hk hA hsz hnl
    go_wp2_with fail
    refine bodyPost_ret (results_tmp rfl _ _ _) rfl ?_
    exact ⟨k, c, rfl, HK.out.1, ⟨by rw [HLN.out]; exact ⟨by rw [hdf_len, HLN.out], .inr ⟨g, c, _, rfl, HLO.out, HR2.out, hkc, by unfold maxLen; omega, HSZ2.out.trans HSZ3.out, HTK2.out⟩⟩, HWD.out⟩, HGR.out⟩
set_option maxRecDepth 100000 in
set_option maxHeartbeats 4000000 in
theorem deleteHB_any (g i : Nat) (l : List Hd) (lo : Nat) (w : World) (hs : OwnH w lo (.slice (some ⟨g, 0, none⟩) (i + 1) (i + 1)) l) (hl : (i + 1) ≤ 100000) :
    Calls Try.prog 162 #[.slice (some ⟨g, 0, none⟩) (i + 1) (i + 1), .int .i64 (i : Nat), .int .i64 ((i + 1 : Nat) : Int)] w fun e w' => ∃ m c', e = .returned (.slice (some ⟨g, 0, none⟩) m c') ∧ m + 1 = (i + 1) ∧ OwnH w' lo (.slice (some ⟨g, 0, none⟩) m c') (l.take i ++ l.drop (i + 1)) ∧ w.grownBy w' (some g) := by
  have HS := Lib.hid hs
  have hcm := own_capH hs.1
  obtain ⟨cur, hnl, hlo, hg, hcs, htk⟩ := own_block2H hs.1
  have HN := Lib.hid hnl
  have hs1 := hs.1
  rw [← hnl] at hs1
  have HG := Lib.hid hg
  have HCS := Lib.hid hcs
  have HTK := Lib.hid htk
  have HLO := Lib.hid hlo
  have hii : ((i : Int) == (i : Int) + 1) = false := by rw [beq_eq_false_iff_ne]; omega
  have hii2 : ((i : Int) == ((i + 1 : Nat) : Int)) = false := by rw [beq_eq_false_iff_ne]; omega
  have HNL := Lib.hid (show (hdf (l.drop (i + 1))).length = 0 * 11 by rw [hdf_len, List.length_drop]; omega)
  have HSRC : Hid (∀ j u, (hdf (l.drop (i + 1)))[j]? = some u → w.cell? ((⟨g, 0, none⟩ : Addr).add j) = some u) := Lib.hid (fun j u hu => by
    have hj := (List.getElem?_eq_some_iff.1 hu).1
    rw [HNL.out] at hj
    have e : (hdf l)[(i + 1) * 11 + j]? = some u := by
      rw [← hu]
      conv => lhs; rw [← List.take_append_drop (i + 1) l, hdf_app']
      have h8 : (hdf (l.take (i + 1))).length = (i + 1) * 11 := by rw [hdf_len, List.length_take]; omega
      rw [List.getElem?_append_right (by omega), h8, Nat.add_sub_cancel_left]
    first
    | (exfalso; omega)
    | (rw [Addr.add_lit]; exact (hs1.cellAt ((i + 1) * 11 + j) (by omega)).trans e))
  have HFIT := Lib.hid (show i * 11 + (hdf (l.drop (i + 1))).length ≤ cur.size by rw [HNL.out, hcs]; have := hcm.1; omega)
  clear hs hs1 hnl hg hcs htk hlo
  go_enter Try.func162, Try.ntmps162
  go_wp2_with fail
  refine wp_named fun a0 ha0 => ?_
  obtain ⟨fr, hfr⟩ : ∃ fr : (Nat → Value) → Act, ∀ V, fr V = ((((((((a0.put (some 20) (V 0)).put (some 21) (V 1)).put (some 22) (V 2)).put (some 23) (V 3)).put (some 24) (V 4)).put (some 25) (V 5)).put (some 26) (V 6)).put (some 0) (V 7)) := ⟨fun V => ((((((((a0.put (some 20) (V 0)).put (some 21) (V 1)).put (some 22) (V 2)).put (some 23) (V 3)).put (some 24) (V 4)).put (some 25) (V 5)).put (some 26) (V 6)).put (some 0) (V 7)), fun _ => rfl⟩
  rw [ha0] at hfr
  simp only [Act.put, List.setIfInBounds_toArray, List.set_cons_zero, List.set_cons_succ] at hfr
  have HFR := Lib.hid hfr
  clear hfr
  refine wp_region_inv (by kernel_rfl) (by kernel_rfl) (fun L A W => ∃ V : Nat → Value, A = fr V ∧ Vals (fun j => ([some (.slice (some ⟨g, 0, none⟩) (i + 1) (i + 1)), some (.int .i64 (i : Nat)), some (.slice (some ⟨g, 0, none⟩) i (i + 1)), some (.slice (some ⟨g, 0, none⟩) (i + 1) (i + 1)), some (.int .i64 ((i + 1 : Nat) : Int)), some (.slice (some ⟨g, 0, none⟩) 0 0), some (.slice (some ⟨g, 0, none⟩) (i + 0) (i + 1)), some (.slice (some ⟨g, 0, none⟩) (i + 0) (i + 1))] : List (Option Value)).getD j none) L V ∧ (L 6 = false → Ext w W ∧ V 7 = .slice (some ⟨g, 0, none⟩) (i + 1) (i + 1)) ∧ (L 6 = true → L 7 = false → W.heap[g]? = some (.cells (rowC cur i (hdf (l.drop (i + 1)))) 97 (0, 0)) ∧ w.grownBy W (some g)) ∧ (L 7 = true → W.heap[g]? = some (.cells (rowC cur i (hdf (l.drop (i + 1)))) 97 (0, 0)) ∧ w.grownBy W (some g))) ?_ ⟨?_, ?_, ?_, ?_, ?_, ?_, ?_, ?_, trivial⟩ ?_
  · refine ⟨fun j => a0.tmps.getD (([20, 21, 22, 23, 24, 25, 26, 0] : List Nat).getD j 0) undef, ?_, Vals.no _ _ _ (far_none _ _ rfl), fun _ => ⟨(Ext.refl _).drew, by show a0.tmps.getD 0 undef = _; rw [ha0]; rfl⟩, fun h0 h1 => absurd h0 (by decide), fun h0 => absurd h0 (by decide)⟩
    rw [HFR.out, ha0]
    rfl
  all_goals clear ha0
  · rintro L A W K hL hC hW ⟨V, rfl, HV, s0, s1, s2⟩ hK
    have hB := s0 (hC.no (hC.no hL 2 _ rfl rfl) 6 _ rfl rfl)
    have e7 : V 7 = .slice (some ⟨g, 0, none⟩) (i + 1) (i + 1) := hB.2
    have H := Lib.hid (show ∀ W', Ext W W' → K (fr (upd V 0 (.slice (some ⟨g, 0, none⟩) (i + 1) (i + 1)))) W' from fun W' he => hK _ _ ⟨upd V 0 (.slice (some ⟨g, 0, none⟩) (i + 1) (i + 1)), rfl, HV.up 0 _ (fun x hx => Option.some.inj hx), fun h0 => RegH.ext (s0 (by unfold More at h0; rwa [if_neg (by decide)] at h0)) he, fun h0 h1 => blk_extH (s1 (more_ne h0 rfl) (by unfold More at h1; rwa [if_neg (by decide)] at h1)) he, fun h0 => blk_extH (s2 (more_ne h0 rfl)) he⟩)
    have HU := Lib.hid (show (upd V 0 (.slice (some ⟨g, 0, none⟩) (i + 1) (i + 1))) 7 = .slice (some ⟨g, 0, none⟩) (i + 1) (i + 1) from e7)
    clear hK hC hW hL HV s0 s1 s2
    rw [HFR.out]
    rw [e7]
    clear e7
    clear hB
    go_wp2_with fail
    show K _ _
    have := H.out _ (Ext.refl _)
    rw [HFR.out] at this
    obtain u7 := HU.out
    rw [u7] at this
    exact this
  · rintro L A W K hL hC hW ⟨V, rfl, HV, s0, s1, s2⟩ hK
    have H := Lib.hid (show ∀ W', Ext W W' → K (fr (upd V 1 (.int .i64 (i : Nat)))) W' from fun W' he => hK _ _ ⟨upd V 1 (.int .i64 (i : Nat)), rfl, HV.up 1 _ (fun x hx => Option.some.inj hx), fun h0 => RegH.ext (s0 (by unfold More at h0; rwa [if_neg (by decide)] at h0)) he, fun h0 h1 => blk_extH (s1 (more_ne h0 rfl) (by unfold More at h1; rwa [if_neg (by decide)] at h1)) he, fun h0 => blk_extH (s2 (more_ne h0 rfl)) he⟩)
    clear hK hC hW hL HV s0 s1 s2
    rw [HFR.out]
    go_wp2_with fail
    show K _ _
    have := H.out _ (Ext.refl _)
    rw [HFR.out] at this
    exact this
  · rintro L A W K hL hC hW ⟨V, rfl, HV, s0, s1, s2⟩ hK
    have e0 : V 0 = .slice (some ⟨g, 0, none⟩) (i + 1) (i + 1) := HV 0 _ rfl (hW 0 rfl)
    have e1 : V 1 = .int .i64 (i : Nat) := HV 1 _ rfl (hW 1 rfl)
    have H := Lib.hid (show ∀ W', Ext W W' → K (fr (upd V 2 (.slice (some ⟨g, 0, none⟩) i (i + 1)))) W' from fun W' he => hK _ _ ⟨upd V 2 (.slice (some ⟨g, 0, none⟩) i (i + 1)), rfl, HV.up 2 _ (fun x hx => Option.some.inj hx), fun h0 => RegH.ext (s0 (by unfold More at h0; rwa [if_neg (by decide)] at h0)) he, fun h0 h1 => blk_extH (s1 (more_ne h0 rfl) (by unfold More at h1; rwa [if_neg (by decide)] at h1)) he, fun h0 => blk_extH (s2 (more_ne h0 rfl)) he⟩)
    have HU := Lib.hid (show (upd V 2 (.slice (some ⟨g, 0, none⟩) i (i + 1))) 0 = .slice (some ⟨g, 0, none⟩) (i + 1) (i + 1) ∧ (upd V 2 (.slice (some ⟨g, 0, none⟩) i (i + 1))) 1 = .int .i64 (i : Nat) from ⟨e0, e1⟩)
    clear hK hC hW hL HV s0 s1 s2
    rw [HFR.out]
    rw [e0, e1]
    clear e0 e1
    go_wp2_with fail
    show K _ _
    have := H.out _ (Ext.refl _)
    rw [HFR.out] at this
    obtain ⟨u0, u1⟩ := HU.out
    rw [u0, u1] at this
    exact this
  · rintro L A W K hL hC hW ⟨V, rfl, HV, s0, s1, s2⟩ hK
    have hB := s0 (hC.no (hC.no hL 5 _ rfl rfl) 6 _ rfl rfl)
    have e7 : V 7 = .slice (some ⟨g, 0, none⟩) (i + 1) (i + 1) := hB.2
    have H := Lib.hid (show ∀ W', Ext W W' → K (fr (upd V 3 (.slice (some ⟨g, 0, none⟩) (i + 1) (i + 1)))) W' from fun W' he => hK _ _ ⟨upd V 3 (.slice (some ⟨g, 0, none⟩) (i + 1) (i + 1)), rfl, HV.up 3 _ (fun x hx => Option.some.inj hx), fun h0 => RegH.ext (s0 (by unfold More at h0; rwa [if_neg (by decide)] at h0)) he, fun h0 h1 => blk_extH (s1 (more_ne h0 rfl) (by unfold More at h1; rwa [if_neg (by decide)] at h1)) he, fun h0 => blk_extH (s2 (more_ne h0 rfl)) he⟩)
    have HU := Lib.hid (show (upd V 3 (.slice (some ⟨g, 0, none⟩) (i + 1) (i + 1))) 7 = .slice (some ⟨g, 0, none⟩) (i + 1) (i + 1) from e7)
    clear hK hC hW hL HV s0 s1 s2
    rw [HFR.out]
    rw [e7]
    clear e7
    clear hB
    go_wp2_with fail
    show K _ _
    have := H.out _ (Ext.refl _)
    rw [HFR.out] at this
    obtain u7 := HU.out
    rw [u7] at this
    exact this
  · rintro L A W K hL hC hW ⟨V, rfl, HV, s0, s1, s2⟩ hK
    have H := Lib.hid (show ∀ W', Ext W W' → K (fr (upd V 4 (.int .i64 ((i + 1 : Nat) : Int)))) W' from fun W' he => hK _ _ ⟨upd V 4 (.int .i64 ((i + 1 : Nat) : Int)), rfl, HV.up 4 _ (fun x hx => Option.some.inj hx), fun h0 => RegH.ext (s0 (by unfold More at h0; rwa [if_neg (by decide)] at h0)) he, fun h0 h1 => blk_extH (s1 (more_ne h0 rfl) (by unfold More at h1; rwa [if_neg (by decide)] at h1)) he, fun h0 => blk_extH (s2 (more_ne h0 rfl)) he⟩)
    clear hK hC hW hL HV s0 s1 s2
    rw [HFR.out]
    go_wp2_with fail
    show K _ _
    have := H.out _ (Ext.refl _)
    rw [HFR.out] at this
    exact this
  · rintro L A W K hL hC hW ⟨V, rfl, HV, s0, s1, s2⟩ hK
    have e3 : V 3 = .slice (some ⟨g, 0, none⟩) (i + 1) (i + 1) := HV 3 _ rfl (hW 3 rfl)
    have e4 : V 4 = .int .i64 ((i + 1 : Nat) : Int) := HV 4 _ rfl (hW 4 rfl)
    have H := Lib.hid (show ∀ W', Ext W W' → K (fr (upd V 5 (.slice (some ⟨g, 0, none⟩) 0 0))) W' from fun W' he => hK _ _ ⟨upd V 5 (.slice (some ⟨g, 0, none⟩) 0 0), rfl, HV.up 5 _ (fun x hx => Option.some.inj hx), fun h0 => RegH.ext (s0 (by unfold More at h0; rwa [if_neg (by decide)] at h0)) he, fun h0 h1 => blk_extH (s1 (more_ne h0 rfl) (by unfold More at h1; rwa [if_neg (by decide)] at h1)) he, fun h0 => blk_extH (s2 (more_ne h0 rfl)) he⟩)
    have HU := Lib.hid (show (upd V 5 (.slice (some ⟨g, 0, none⟩) 0 0)) 3 = .slice (some ⟨g, 0, none⟩) (i + 1) (i + 1) ∧ (upd V 5 (.slice (some ⟨g, 0, none⟩) 0 0)) 4 = .int .i64 ((i + 1 : Nat) : Int) from ⟨e3, e4⟩)
    clear hK hC hW hL HV s0 s1 s2
    rw [HFR.out]
    rw [e3, e4]
    clear e3 e4
    go_wp2_with fail
    show K _ _
    have := H.out _ (Ext.refl _)
    rw [HFR.out] at this
    obtain ⟨u3, u4⟩ := HU.out
    rw [u3, u4] at this
    exact this
  · rintro L A W K hL hC hW ⟨V, rfl, HV, s0, s1, s2⟩ hK
    have e2 : V 2 = .slice (some ⟨g, 0, none⟩) i (i + 1) := HV 2 _ rfl (hW 2 rfl)
    have e5 : V 5 = .slice (some ⟨g, 0, none⟩) 0 0 := HV 5 _ rfl (hW 5 rfl)
    have hB := s0 hL
    have H := Lib.hid (show ∀ W', (W'.heap[g]? = some (.cells (rowC cur i (hdf (l.drop (i + 1)))) 97 (0, 0)) ∧ w.grownBy W' (some g)) → K (fr (upd V 6 (.slice (some ⟨g, 0, none⟩) (i + 0) (i + 1)))) W' from fun W' hA => hK _ _ ⟨upd V 6 (.slice (some ⟨g, 0, none⟩) (i + 0) (i + 1)), rfl, HV.up 6 _ (fun x hx => Option.some.inj hx), fun h0 => absurd h0 (by unfold More; rw [if_pos rfl]; simp), fun h0 h1 => hA, fun h0 => absurd (more_ne h0 rfl) (by rw [(hC.no hL 7 _ rfl rfl)]; simp)⟩)
    have HU := Lib.hid (show (upd V 6 (.slice (some ⟨g, 0, none⟩) (i + 0) (i + 1))) 2 = .slice (some ⟨g, 0, none⟩) i (i + 1) ∧ (upd V 6 (.slice (some ⟨g, 0, none⟩) (i + 0) (i + 1))) 5 = .slice (some ⟨g, 0, none⟩) 0 0 from ⟨e2, e5⟩)
    clear hK hC hW hL HV s0 s1 s2
    rw [HFR.out]
    rw [e2, e5]
    clear e2 e5
    have HB := Lib.hid hB
    clear hB
    at_builtin
    refine wpList_append_roomH rfl (.tmp 22) (.tmp 25) rfl g i (i + 1) cur (Ext.block HB.out.1 HG.out) ⟨g, 0, none⟩ 0 0 (hdf (l.drop (i + 1))) HNL.out (fun j u hu => HB.out.1.cell (HSRC.out j u hu)) (hdf_one _) (by omega) HFIT.out rfl rfl ?_
    intro W' hc' hg'
    have HA := Lib.hid (show W'.heap[g]? = some (.cells (rowC cur i (hdf (l.drop (i + 1)))) 97 (0, 0)) ∧ w.grownBy W' (some g) from ⟨hc', grown_thenL HB.out.1 hg'⟩)
    clear hc' hg'
    show K _ _
    have := H.out _ HA.out
    rw [HFR.out] at this
    obtain ⟨u2, u5⟩ := HU.out
    rw [u2, u5] at this
    exact this
  · rintro L A W K hL hC hW ⟨V, rfl, HV, s0, s1, s2⟩ hK
    have e6 : V 6 = .slice (some ⟨g, 0, none⟩) (i + 0) (i + 1) := HV 6 _ rfl (hW 6 rfl)
    have hB := s1 (hW 6 rfl) hL
    have H := Lib.hid (show ∀ W', (W'.heap[g]? = some (.cells (rowC cur i (hdf (l.drop (i + 1)))) 97 (0, 0)) ∧ w.grownBy W' (some g)) → K (fr (upd V 7 (.slice (some ⟨g, 0, none⟩) (i + 0) (i + 1)))) W' from fun W' hA => hK _ _ ⟨upd V 7 (.slice (some ⟨g, 0, none⟩) (i + 0) (i + 1)), rfl, HV.up 7 _ (fun x hx => Option.some.inj hx), fun h0 => absurd (show L 6 = false by unfold More at h0; rwa [if_neg (by decide)] at h0) (by rw [(hW 6 rfl)]; simp), fun h0 h1 => absurd h1 (by unfold More; rw [if_pos rfl]; simp), fun h0 => hA⟩)
    have HU := Lib.hid (show (upd V 7 (.slice (some ⟨g, 0, none⟩) (i + 0) (i + 1))) 6 = .slice (some ⟨g, 0, none⟩) (i + 0) (i + 1) from e6)
    clear hK hC hW hL HV s0 s1 s2
    rw [HFR.out]
    rw [e6]
    clear e6
    have HA := Lib.hid hB
    clear hB
    go_wp2_with fail
    show K _ _
    have := H.out _ HA.out
    rw [HFR.out] at this
    obtain u6 := HU.out
    rw [u6] at this
    exact this
  · rintro L A W hL ⟨V, rfl, HV, s0, s1, s2⟩
    have e0 : V 0 = .slice (some ⟨g, 0, none⟩) (i + 1) (i + 1) := HV 0 _ rfl (hL 0 (by simp))
    have e1 : V 1 = .int .i64 (i : Nat) := HV 1 _ rfl (hL 1 (by simp))
    have e2 : V 2 = .slice (some ⟨g, 0, none⟩) i (i + 1) := HV 2 _ rfl (hL 2 (by simp))
    have e3 : V 3 = .slice (some ⟨g, 0, none⟩) (i + 1) (i + 1) := HV 3 _ rfl (hL 3 (by simp))
    have e4 : V 4 = .int .i64 ((i + 1 : Nat) : Int) := HV 4 _ rfl (hL 4 (by simp))
    have e5 : V 5 = .slice (some ⟨g, 0, none⟩) 0 0 := HV 5 _ rfl (hL 5 (by simp))
    have e6 : V 6 = .slice (some ⟨g, 0, none⟩) (i + 0) (i + 1) := HV 6 _ rfl (hL 6 (by simp))
    have e7 : V 7 = .slice (some ⟨g, 0, none⟩) (i + 0) (i + 1) := HV 7 _ rfl (hL 7 (by simp))
    have hA := s2 (hL 7 (by simp))
    rw [HFR.out]
    rw [e0, e1, e2, e3, e4, e5, e6, e7]
    clear hL HV HFR e0 e1 e2 e3 e4 e5 e6 e7 s0 s1 s2
    obtain ⟨k, hk⟩ : ∃ k, i + 0 = k := ⟨_, rfl⟩
    have hnk : (i + 1) - k = 1 := by omega
    have hkc : k ≤ (i + 1) := by omega
    have hck : ¬ (i + 1) - k = 0 := by omega
    have hck2 : ¬ (i + 1) = k := by omega
    have HK := Lib.hid (show k + 1 = (i + 1) ∧ i ≤ k by omega)
    have hsz := rowC_size cur i (hdf (l.drop (i + 1))) HFIT.out
    obtain ⟨news, hnl, hrun⟩ := run_clear_oneH W 0 g k 1 _ hA.1 (by rw [hsz, HCS.out]; omega)
    have HR2 := Lib.hid (show (W.setRow g (rowC (rowC cur i (hdf (l.drop (i + 1)))) k news)).heap[g]? = some (.cells (rowC (rowC cur i (hdf (l.drop (i + 1)))) k news) 97 (0, 0)) from setRow_heap W g _ _ _ (0, 0) hA.1)
    have HGR := Lib.hid (show w.grownBy (W.setRow g (rowC (rowC cur i (hdf (l.drop (i + 1)))) k news)) (some g) from ⟨hA.2.os, hA.2.tape, hA.2.output, by have := hA.2.size; simpa [World.setRow] using this, fun j hj hne => (setRow_other W g j _ (fun e => hne (by rw [e]))).trans (hA.2.block j hj hne)⟩)
    have HSZ2 := Lib.hid (rowC_size (rowC cur i (hdf (l.drop (i + 1)))) k news (by rw [hsz, HCS.out, hnl]; omega))
    have HTK2 := Lib.hid (show (rowC (rowC cur i (hdf (l.drop (i + 1)))) k news).toList.take (k * 11) = hdf (l.take i ++ l.drop (i + 1)) by
      rw [rowC_keep _ k k news (by rw [hsz, HCS.out, hnl]; omega) (Nat.le_refl _), rowC_take cur i k _ HFIT.out (by rw [HNL.out]; omega), hdf_app', ← hdf_take l i, ← HTK.out, List.take_take, Nat.min_eq_left (by omega)])
    have HSZ3 := Lib.hid (hsz.trans HCS.out)
    have HLN := Lib.hid (show (l.take i ++ l.drop (i + 1)).length = k by rw [List.length_append, List.length_take, List.length_drop]; have := HN.out; omega)
    have HWD := Lib.hid (show ∀ q ∈ l.take i ++ l.drop (i + 1), q.ok from fun q hq => HS.out.2 q (by
      rcases List.mem_append.1 hq with h | h
      · exact List.mem_of_mem_take h
      · exact List.mem_of_mem_drop h))
    rw [hk]
    clear hk hA hsz hnl
    go_wp2_with fail
    refine bodyPost_ret (results_tmp rfl _ _ _) rfl ?_
    exact ⟨k, (i + 1), rfl, HK.out.1, ⟨by rw [HLN.out]; exact ⟨by rw [hdf_len, HLN.out], .inr ⟨g, (i + 1), _, rfl, HLO.out, HR2.out, hkc, by unfold maxLen; omega, HSZ2.out.trans HSZ3.out, HTK2.out⟩⟩, HWD.out⟩, HGR.out⟩
set_option maxRecDepth 100000 in
theorem deleteH_any (g n c i : Nat) (l : List Hd) (lo : Nat) (w : World) (hs : OwnH w lo (.slice (some ⟨g, 0, none⟩) n c) l) (hi : i < n) (hl : n ≤ 100000) :
    Calls Try.prog 162 #[.slice (some ⟨g, 0, none⟩) n c, .int .i64 (i : Nat), .int .i64 ((i + 1 : Nat) : Int)] w fun e w' => ∃ m c', e = .returned (.slice (some ⟨g, 0, none⟩) m c') ∧ m + 1 = n ∧ OwnH w' lo (.slice (some ⟨g, 0, none⟩) m c') (l.take i ++ l.drop (i + 1)) ∧ w.grownBy w' (some g) := by
  by_cases h : c = i + 1
  · subst h
    have hn : n = i + 1 := by have := (own_capH hs.1).1; omega
    subst hn
    exact deleteHB_any g i l lo w hs hl
  · exact deleteHA_any g n c i l lo w hs hi hl h
end Go.Proofs.Ytepggbhibpjkpaa
