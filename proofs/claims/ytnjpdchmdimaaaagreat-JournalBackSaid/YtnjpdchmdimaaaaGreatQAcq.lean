/- Package access: changed. -/
import Derived.Test.YtnjpdchmdimaaaaGreatQAcd
import Derived.Test.YtnjpdchmdimaaaaGreatQLhk
import Derived.Deep.DeepAppendWide
import Derived.Lib.AppendZerosOnto
import Derived.Lib.Overlaps
namespace Go.Proofs.YtnjpdchmdimaaaaGreat
open Go.ChangeShapes Go.WideShapes Go.ChangeAt Go.RowKit Go.Shelf

theorem run_copy_wholeX {P : Program} (w : World) (dT sT ty elem : TypeId) (g n dCap : Nat) (ad : Addr) (sCap s : Nat) (cur : Array Value) (t : TypeId) (cs : List Value)
  (hu : P.underlying dT = some (.slice elem)) (hs : (P.info? elem).map (·.size) = some s) (hg : w.heap[g]? = some (.cells cur t (0, 0))) (hn : cs.length = n * s) (hcur : cur.size = n * s)
  (hsrc : ∀ j v, cs[j]? = some v → w.cell? (ad.add j) = some v) (h1 : ∀ v ∈ cs, v.oneCell' = true) :
  (Builtin.copy_ #[dT, sT] ty #[.slice (some ⟨g, 0, none⟩) n dCap, .slice (some ad) n sCap]).run P w = .ok (goInt n) (w.setRow g cs.toArray) := by
 have hl := run_loadCells_list (P := P) w ad cs hsrc
 have hst := run_storeCells_at P g 0 t cs 0 cur w hg (by omega) h1
 have e0 : cur.toList.drop cs.length = [] := List.drop_of_length_le (by rw [Array.length_toList]; omega)
 simp only [Nat.zero_add, List.take_zero, List.nil_append, e0, List.append_nil] at hst
 have hmin : Nat.min n n = n := Nat.min_self n
 cases hq : P.info? elem with
 | none => simp [hq] at hs
 | some i =>
  have hi : i.size = s := by simpa [hq] using hs
  simp [Builtin.copy_, run_underlying hu, Builtin.lenOf, Builtin.firstCells, sizeOf, typeInfo, hq, hi, hmin, ← hn, hl, hst]
theorem wpList_copy_wholeX {P : Program} {w : World} {ops : Array Oper} {rest : List Oper} {o : Oper} {a : Act} {Q : Exit → Act → World → Prop} (hgd : o.guard = none) (d s : Operand) (dT sT : TypeId)
  (ho : o.op = .call { callee := .builtin .copy, args := #[d, s], argTypes := #[dT, sT] }) (e : TypeId) (hu : P.underlying dT = some (.slice e)) (sz : Nat) (hsz : (P.info? e).map (·.size) = some sz)
  (base g n cap : Nat) (xs cs : List Value) (hd : a.eval d = .slice (some ⟨g, 0, none⟩) n cap) (hn : 0 < n) (hr : w.ownsRow base e sz (.slice (some ⟨g, 0, none⟩) n cap) n xs) (hcap : n = cap) (sv : Value) (hs : a.eval s = sv) (hx : Rs w sz sv n cs) (h1 : ∀ v ∈ cs, v.oneCell' = true)
  (hK : ∀ w', w'.ownsRow base e sz (.slice (some ⟨g, 0, none⟩) n cap) n cs → w.grownBy w' (some g) → wpList P ops Q rest (a.put o.dst (goInt n)) w') :
  wpList P ops Q (o :: rest) a w := by
 subst hcap
 obtain ⟨hcl, A, c, rfl, q1, q2, q3⟩ := hx
 obtain ⟨b, off, rfl, hc⟩ := q3 hn
 obtain ⟨r1, r2⟩ := hr
 rcases r2 with ⟨r2, _⟩ | ⟨g', cap', cur, r2, hb, hg, hnc, hcm, hcs, htake⟩
 ·cases r2
 ·simp only [Value.slice.injEq, Option.some.injEq, Addr.mk.injEq, and_true, true_and] at r2
  obtain ⟨rfl, rfl⟩ := r2
  refine wpList_plain hgd fun K hK' => ?_
  have hrun := run_copy_wholeX (P := P) w dT sT o.type e g n n ⟨b, off, none⟩ c sz cur e cs hu hsz hg hcl hcs (fun j v hv => by rw [add_plain]; exact hc j v hv) h1
  unfold Oper.wp
  simp [execOp, ho, resolve, invoke, builtin, hd, hs, hrun, Result.andThen]
  refine hK' _ _ (hK _ ⟨hcl, .inr ⟨g, n, cs.toArray, rfl, hb, setRow_heap w g _ _ e (0, 0) hg, hnc, hcm, by simpa using hcl, by simp [← hcl]⟩⟩ ⟨rfl, rfl, rfl, by simp [World.setRow], fun k _ hk => setRow_other w g k _ (fun e => hk (by simp [e]))⟩)


def fA (l : List Pe) : List Value := (l.map fun p => (cA p).toList).flatten
theorem XA.rs {W : World} {v : Value} {l : List Pe} (h : XA W v l) : Rs W 1 v l.length (fA l) := Sl.rsL (by decide) (fun p => (cA p).toList) (fun _ => rfl) (fun _ _ h => h.2) h
theorem fA_one (l : List Pe) : ∀ u ∈ fA l, u.oneCell' = true := by
 intro u hu
 obtain ⟨cs, hcs, hu⟩ := List.mem_flatten.1 hu
 obtain ⟨p, _, rfl⟩ := List.mem_map.1 hcs
 exact cA_ones p u hu
def OwnA (W : World) (base : Nat) (v : Value) (l : List Pe) : Prop := W.ownsRow base 45 1 v l.length (fA l) ∧ ∀ p ∈ l, okA p
theorem OwnA.ext {W W' : World} {base : Nat} {v : Value} {l : List Pe} (h : OwnA W base v l) (he : Ext W W') : OwnA W' base v l := ⟨own_ext h.1 he, h.2⟩
theorem OwnA.mono {W : World} {base base' : Nat} {v : Value} {l : List Pe} (h : OwnA W base v l) (hb : base' ≤ base) : OwnA W base' v l := ⟨own_mono h.1 hb, h.2⟩
theorem OwnA.rowO {W : World} {base : Nat} {v : Value} {l : List Pe} (h : OwnA W base v l) : RowO 45 1 (fun _ => RA) No base W v l :=
 ⟨l.map fun p => (cA p).toList, by simp, by intro cs hc; obtain ⟨p, _, rfl⟩ := List.mem_map.1 hc; rfl, h.1, fun i cs x hc hx => Far.true _ _ _ fun W => by
  rw [List.getElem?_map, hx] at hc
  simp at hc
  have := h.2 x (List.mem_of_getElem? hx)
  exact ⟨this, hc.symm⟩⟩
theorem OwnA.xs {W : World} {base : Nat} {v : Value} {l : List Pe} (h : OwnA W base v l) : XA W v l := h.rowO.sl
theorem OwnA.nil (W : World) (base : Nat) : OwnA W base (.slice none 0 0) [] := ⟨World.ownsRow_nil _ _ _ _, fun _p hp => nomatch hp⟩
theorem OwnA.sl {W : World} {base : Nat} {v : Value} {l : List Pe} (h : OwnA W base v l) : ∃ A c, v = .slice A l.length c ∧ l.length ≤ c ∧ c ≤ 9223372036854775807 := by
 obtain ⟨A, c, e, h1, h2⟩ := h.xs.len
 exact ⟨A, c, e, h1, by unfold maxLen at h2; omega⟩
theorem OwnA.lt {W : World} {base : Nat} {v : Value} {l : List Pe} (h : OwnA W base v l) (g : Nat) (hg : v.ownBlock = some g) : base ≤ g ∧ g < W.heap.size := h.rowO.lt g hg
theorem OwnA.len {l m : List Pe} (h : l = m) {W : World} {base : Nat} {v : Value} (k : OwnA W base v l) : OwnA W base v m := h ▸ k
theorem OwnA.keptT {W W' : World} {lo g : Nat} {t : TypeId} {v : Value} {l : List Pe} {cs : Array Value} (h : OwnA W lo v l) (hg : W.grownBy W' (some g)) (hs : Cs W g t cs) (ht : t ≠ 45) : OwnA W' lo v l := by
 refine ⟨h.1.kept hg ?_, h.2⟩
 rcases h.1.2 with ⟨e, _⟩ | ⟨g', cap, cur, e, _, hgg, _⟩
 ·exact .inl (by rw [e]; rfl)
 ·refine .inr (fun e' => ?_)
  rw [e] at e'
  injection e' with e'
  subst e'
  rw [show W.heap[g']? = _ from hs] at hgg
  cases hgg
  exact ht rfl
set_option maxRecDepth 100000 in
set_option maxHeartbeats 1000000 in
theorem ownA_any (v : Value) (l : List Pe) (w : World) (hb : XA w v l) (hl : l.length ≤ 1000000000) : Calls Tryz.prog 110 #[v] w fun e w' => ∃ v', e = .returned v' ∧ OwnA w' w.heap.size v' l ∧ Ext w w' := by
 have HB := Lib.hid hb.rs
 have HW := Lib.hid hb.oks
 obtain ⟨A, c, rfl, k1, k2⟩ := hb.len
 unfold maxLen at k2
 clear hb
 by_cases h0 : l.length = 0
 ·have hz : ((l.length : Int) == 0) = true := by simp [h0]
  have hz2 : (l.length == 0) = true := by simp [h0]
  have HL := Lib.hid (List.eq_nil_of_length_eq_zero h0)
  clear h0
  go_enter Tryz.func110, Tryz.ntmps110
  go_wp2_with fail
  go_ret
  exact ⟨_, rfl, ⟨by rw [HL.out]; exact World.ownsRow_nil _ _ _ _, HW.out⟩, Ext.refl _⟩
 ·have hz : ((l.length : Int) == 0) = false := by simp [h0]
  have hz2 : (l.length == 0) = false := by simp [h0]
  have HP := Lib.hid (show 0 < l.length by omega)
  clear h0
  obtain ⟨n, hn⟩ : ∃ n, l.length = n := ⟨_, rfl⟩
  have HN := Lib.hid hn
  rw [hn] at hz hz2 HB k1 HP hl
  rw [hn]
  obtain ⟨i0, hi, hz0, hz1, hzb⟩ := info_parts infoA3
  clear hn
  go_enter Tryz.func110, Tryz.ntmps110
  go_wp2_with (first
   | (at_make; go_loud (refine wpList_make_full _ rfl _ _ 31 rfl w.heap.size 45 i0 (.int .u64 0) 1 Tryz.underlying31 hi hz0 hz1 .i64 .i64 _ _ n rfl rfl rfl rfl (by rw [hzb]; omega) (by unfold maxLen; omega) (Nat.le_refl _) ?_; intro w1 hr1 hg1; have HR := Lib.hid hr1; have HE := Lib.hid (ext_of_grown hg1); clear hr1 hg1))
   | (with_reducible refine wpList_copy_wholeX rfl (.tmp 10) (.tmp 11) _ _ rfl 45 Tryz.underlying31 1 infoA w.heap.size w.heap.size n n _ (fA l) rfl HP.out HR.out rfl (.slice A n c) rfl (HB.out.ext HE.out) (fA_one l) ?_; intro w2 hr2 hg2; have HR2 := Lib.hid hr2; have HG2 := Lib.hid hg2; clear hr2 hg2))
  go_ret
  exact ⟨_, rfl, ⟨by rw [HN.out]; exact HR2.out, HW.out⟩, HE.out.grown HG2.out (Nat.le_refl _)⟩


def fS (l : List Pe) : List Value := (l.map fun p => (cS p).toList).flatten
theorem XS.rs {W : World} {v : Value} {l : List Pe} (h : XS W v l) : Rs W 5 v l.length (fS l) := Sl.rsL (by decide) (fun p => (cS p).toList) (fun _ => rfl) (fun _ _ h => h.2) h
theorem fS_one (l : List Pe) : ∀ u ∈ fS l, u.oneCell' = true := by
 intro u hu
 obtain ⟨cs, hcs, hu⟩ := List.mem_flatten.1 hu
 obtain ⟨p, _, rfl⟩ := List.mem_map.1 hcs
 exact cS_ones p u hu
def OwnS (W : World) (base : Nat) (v : Value) (l : List Pe) : Prop := W.ownsRow base 115 5 v l.length (fS l) ∧ ∀ p ∈ l, okS p
theorem OwnS.ext {W W' : World} {base : Nat} {v : Value} {l : List Pe} (h : OwnS W base v l) (he : Ext W W') : OwnS W' base v l := ⟨own_ext h.1 he, h.2⟩
theorem OwnS.mono {W : World} {base base' : Nat} {v : Value} {l : List Pe} (h : OwnS W base v l) (hb : base' ≤ base) : OwnS W base' v l := ⟨own_mono h.1 hb, h.2⟩
theorem OwnS.rowO {W : World} {base : Nat} {v : Value} {l : List Pe} (h : OwnS W base v l) : RowO 115 5 (fun _ => RS) No base W v l :=
 ⟨l.map fun p => (cS p).toList, by simp, by intro cs hc; obtain ⟨p, _, rfl⟩ := List.mem_map.1 hc; rfl, h.1, fun i cs x hc hx => Far.true _ _ _ fun W => by
  rw [List.getElem?_map, hx] at hc
  simp at hc
  have := h.2 x (List.mem_of_getElem? hx)
  exact ⟨this, hc.symm⟩⟩
theorem OwnS.xs {W : World} {base : Nat} {v : Value} {l : List Pe} (h : OwnS W base v l) : XS W v l := h.rowO.sl
theorem OwnS.nil (W : World) (base : Nat) : OwnS W base (.slice none 0 0) [] := ⟨World.ownsRow_nil _ _ _ _, fun _p hp => nomatch hp⟩
theorem OwnS.sl {W : World} {base : Nat} {v : Value} {l : List Pe} (h : OwnS W base v l) : ∃ A c, v = .slice A l.length c ∧ l.length ≤ c ∧ c ≤ 9223372036854775807 := by
 obtain ⟨A, c, e, h1, h2⟩ := h.xs.len
 exact ⟨A, c, e, h1, by unfold maxLen at h2; omega⟩
theorem OwnS.lt {W : World} {base : Nat} {v : Value} {l : List Pe} (h : OwnS W base v l) (g : Nat) (hg : v.ownBlock = some g) : base ≤ g ∧ g < W.heap.size := h.rowO.lt g hg
theorem OwnS.len {l m : List Pe} (h : l = m) {W : World} {base : Nat} {v : Value} (k : OwnS W base v l) : OwnS W base v m := h ▸ k
theorem OwnS.keptT {W W' : World} {lo g : Nat} {t : TypeId} {v : Value} {l : List Pe} {cs : Array Value} (h : OwnS W lo v l) (hg : W.grownBy W' (some g)) (hs : Cs W g t cs) (ht : t ≠ 115) : OwnS W' lo v l := by
 refine ⟨h.1.kept hg ?_, h.2⟩
 rcases h.1.2 with ⟨e, _⟩ | ⟨g', cap, cur, e, _, hgg, _⟩
 ·exact .inl (by rw [e]; rfl)
 ·refine .inr (fun e' => ?_)
  rw [e] at e'
  injection e' with e'
  subst e'
  rw [show W.heap[g']? = _ from hs] at hgg
  cases hgg
  exact ht rfl
def fP (l : List Pe) : List Value := (l.map fun p => (cP p).toList).flatten
theorem XP.rs {W : World} {v : Value} {l : List Pe} (h : XP W v l) : Rs W 9 v l.length (fP l) := Sl.rsL (by decide) (fun p => (cP p).toList) (fun _ => rfl) (fun _ _ h => h.2) h
theorem fP_one (l : List Pe) : ∀ u ∈ fP l, u.oneCell' = true := by
 intro u hu
 obtain ⟨cs, hcs, hu⟩ := List.mem_flatten.1 hu
 obtain ⟨p, _, rfl⟩ := List.mem_map.1 hcs
 exact cP_ones p u hu
def OwnP (W : World) (base : Nat) (v : Value) (l : List Pe) : Prop := W.ownsRow base 118 9 v l.length (fP l) ∧ ∀ p ∈ l, okP p
theorem OwnP.ext {W W' : World} {base : Nat} {v : Value} {l : List Pe} (h : OwnP W base v l) (he : Ext W W') : OwnP W' base v l := ⟨own_ext h.1 he, h.2⟩
theorem OwnP.mono {W : World} {base base' : Nat} {v : Value} {l : List Pe} (h : OwnP W base v l) (hb : base' ≤ base) : OwnP W base' v l := ⟨own_mono h.1 hb, h.2⟩
theorem OwnP.rowO {W : World} {base : Nat} {v : Value} {l : List Pe} (h : OwnP W base v l) : RowO 118 9 (fun _ => RP) No base W v l :=
 ⟨l.map fun p => (cP p).toList, by simp, by intro cs hc; obtain ⟨p, _, rfl⟩ := List.mem_map.1 hc; rfl, h.1, fun i cs x hc hx => Far.true _ _ _ fun W => by
  rw [List.getElem?_map, hx] at hc
  simp at hc
  have := h.2 x (List.mem_of_getElem? hx)
  exact ⟨this, hc.symm⟩⟩
theorem OwnP.xs {W : World} {base : Nat} {v : Value} {l : List Pe} (h : OwnP W base v l) : XP W v l := h.rowO.sl
theorem OwnP.nil (W : World) (base : Nat) : OwnP W base (.slice none 0 0) [] := ⟨World.ownsRow_nil _ _ _ _, fun _p hp => nomatch hp⟩
theorem OwnP.sl {W : World} {base : Nat} {v : Value} {l : List Pe} (h : OwnP W base v l) : ∃ A c, v = .slice A l.length c ∧ l.length ≤ c ∧ c ≤ 9223372036854775807 := by
 obtain ⟨A, c, e, h1, h2⟩ := h.xs.len
 exact ⟨A, c, e, h1, by unfold maxLen at h2; omega⟩
theorem OwnP.lt {W : World} {base : Nat} {v : Value} {l : List Pe} (h : OwnP W base v l) (g : Nat) (hg : v.ownBlock = some g) : base ≤ g ∧ g < W.heap.size := h.rowO.lt g hg
theorem OwnP.len {l m : List Pe} (h : l = m) {W : World} {base : Nat} {v : Value} (k : OwnP W base v l) : OwnP W base v m := h ▸ k
theorem OwnP.keptT {W W' : World} {lo g : Nat} {t : TypeId} {v : Value} {l : List Pe} {cs : Array Value} (h : OwnP W lo v l) (hg : W.grownBy W' (some g)) (hs : Cs W g t cs) (ht : t ≠ 118) : OwnP W' lo v l := by
 refine ⟨h.1.kept hg ?_, h.2⟩
 rcases h.1.2 with ⟨e, _⟩ | ⟨g', cap, cur, e, _, hgg, _⟩
 ·exact .inl (by rw [e]; rfl)
 ·refine .inr (fun e' => ?_)
  rw [e] at e'
  injection e' with e'
  subst e'
  rw [show W.heap[g']? = _ from hs] at hgg
  cases hgg
  exact ht rfl
end Go.Proofs.YtnjpdchmdimaaaaGreat
namespace Go.Proofs.YtnjpdchmdimaaaaGreat
open Go.ChangeShapes Go.WideShapes Go.ChangeAt Go.RowKit Go.Shelf

end Go.Proofs.YtnjpdchmdimaaaaGreat
namespace Go.Proofs.YtnjpdchmdimaaaaGreat
open Go.ChangeShapes Go.WideShapes Go.ChangeAt Go.RowKit Go.Shelf

end Go.Proofs.YtnjpdchmdimaaaaGreat
namespace Go.Proofs.YtnjpdchmdimaaaaGreat
open Go.ChangeShapes Go.WideShapes Go.ChangeAt Go.RowKit Go.Shelf

end Go.Proofs.YtnjpdchmdimaaaaGreat
namespace Go.Proofs.YtnjpdchmdimaaaaGreat
open Go.ChangeShapes Go.WideShapes Go.ChangeAt Go.RowKit Go.Shelf

end Go.Proofs.YtnjpdchmdimaaaaGreat
namespace Go.Proofs.YtnjpdchmdimaaaaGreat
open Go.ChangeShapes Go.WideShapes Go.ChangeAt Go.RowKit Go.Shelf

end Go.Proofs.YtnjpdchmdimaaaaGreat
namespace Go.Proofs.YtnjpdchmdimaaaaGreat
open Go.ChangeShapes Go.WideShapes Go.ChangeAt Go.RowKit Go.Shelf

structure Ax where
 a : List Pe
 s : List Pe
 p : List Pe
def AxR (W : World) (va vs vp : Value) (x : Ax) : Prop := XA W va x.a ∧ XS W vs x.s ∧ XP W vp x.p
theorem AxR.ext {W W' : World} {va vs vp : Value} {x : Ax} (h : AxR W va vs vp x) (he : Ext W W') : AxR W' va vs vp x := ⟨h.1.ext he, h.2.1.ext he, h.2.2.ext he⟩
set_option maxRecDepth 100000 in
theorem axinfo : (Tryz.prog.info? 35).map (·.size) = some 3 := by kernel_rfl
def nzB (l : List Pe) : Bool := l.all fun p => decide (p.val ≠ 0)
def rightX (x : Ax) : Bool := rsB x.a && (rsB x.s && (rsB x.p && nzB x.p))
def chkX (x : Ax) : Int := if rightX x then 0 else 190
theorem nz_stop {l : List Pe} (i : Nat) (hi : i < l.length) (h : (l.getD i pz0).val = 0) : nzB l = false := by
 cases hr : nzB l with
 | false => rfl
 | true =>
  have := List.all_eq_true.1 hr _ (getX_mem hi)
  rw [decide_eq_true_eq] at this
  exact absurd h this
theorem nz_all {l : List Pe} (h : ∀ i, i < l.length → (l.getD i pz0).val ≠ 0) : nzB l = true := by
 refine List.all_eq_true.2 fun p hp => ?_
 obtain ⟨i, hi, e⟩ := memX_get hp
 rw [decide_eq_true_eq, ← e]
 exact h i hi
set_option maxRecDepth 100000 in
set_option maxHeartbeats 4000000 in
theorem checkX_any (va vs vp : Value) (x : Ax) (w : World) (hx : AxR w va vs vp x) : Calls Tryz.prog 76 #[.agg #[va, vs, vp]] w fun e w' => e = .returned (.int .i64 (chkX x)) ∧ Ext w w' := by
 have HX := Lib.hid hx
 have HDEF : Hid (chkX x = if rsB x.a && (rsB x.s && (rsB x.p && nzB x.p)) then 0 else 190) := Lib.hid rfl
 obtain ⟨A1, c1, rfl, _, _⟩ := hx.1.len
 obtain ⟨A2, c2, rfl, _, _⟩ := hx.2.1.len
 obtain ⟨A3, c3, rfl, h1, h2⟩ := hx.2.2.len
 unfold maxLen at h2
 obtain ⟨w0, hw0⟩ : ∃ w0, w.alloc (.cells #[.slice A1 x.a.length c1, .slice A2 x.s.length c2, .slice A3 x.p.length c3] 35) = w0 := ⟨_, rfl⟩
 have HC0 : Hid (Cs w0 w.heap.size 35 #[.slice A1 x.a.length c1, .slice A2 x.s.length c2, .slice A3 x.p.length c3]) := Lib.hid (by rw [← hw0]; exact Cs.new _ _ _ _ rfl)
 have HE0 : Hid (Ext w w0) := Lib.hid (by rw [← hw0]; exact (Ext.refl w).alloc _)
 have HW0 := Lib.hid hw0
 clear hx hw0
 go_enter Tryz.func76, Tryz.ntmps76
 go_upto_region 1 with fail
 rw [HW0.out]
 clear HW0
 have q0 := HC0.out.cell 0 _ rfl
 go_wp2_with fail
 refine (risesA_any _ x.a _ (HX.out.1.ext HE0.out)).mono ?_
 rintro e w1 ⟨rfl, he⟩
 have HE1 := Lib.hid (HE0.out.trans he)
 have HC1 := Lib.hid (Cs.ext HC0.out he)
 clear he q0 HC0 HE0
 cases ha : rsB x.a with
 | false =>
  have HF := Lib.hid (show chkX x = 190 by rw [HDEF.out, ha]; rfl)
  clear ha HDEF
  go_wp2_with fail
  go_ret
  exact ⟨by rw [HF.out]; rfl, HE1.out⟩
 | true =>
  have HDEF := Lib.hid (show chkX x = if rsB x.s && (rsB x.p && nzB x.p) then 0 else 190 by rw [HDEF.out, ha]; rfl)
  have q0 := HC1.out.cell 1 _ rfl
  clear ha
  go_wp2_with fail
  refine (risesS_any _ x.s _ (HX.out.2.1.ext HE1.out)).mono ?_
  rintro e w2 ⟨rfl, he⟩
  have HE2 := Lib.hid (HE1.out.trans he)
  have HC2 := Lib.hid (Cs.ext HC1.out he)
  clear he q0 HC1 HE1
  cases hs : rsB x.s with
  | false =>
   have HF := Lib.hid (show chkX x = 190 by rw [HDEF.out, hs]; rfl)
   clear hs HDEF
   go_wp2_with fail
   go_ret
   exact ⟨by rw [HF.out]; rfl, HE2.out⟩
  | true =>
   have HDEF := Lib.hid (show chkX x = if rsB x.p && nzB x.p then 0 else 190 by rw [HDEF.out, hs]; rfl)
   have q0 := HC2.out.cell 2 _ rfl
   clear hs
   go_wp2_with fail
   refine (risesP_any _ x.p _ (HX.out.2.2.ext HE2.out)).mono ?_
   rintro e w3 ⟨rfl, he⟩
   have HE3 := Lib.hid (HE2.out.trans he)
   have HC3 := Lib.hid (Cs.ext HC2.out he)
   clear he q0 HC2 HE2
   cases hp : rsB x.p with
   | false =>
    have HF := Lib.hid (show chkX x = 190 by rw [HDEF.out, hp]; rfl)
    clear hp HDEF
    go_wp2_with fail
    go_ret
    exact ⟨by rw [HF.out]; rfl, HE3.out⟩
   | true =>
    have HDEF := Lib.hid (show chkX x = if nzB x.p then 0 else 190 by rw [HDEF.out, hp]; rfl)
    have HST := Lib.hid (fun i hi h => show chkX x = 190 by rw [HDEF.out, nz_stop (l := x.p) i hi h]; rfl)
    have HAL := Lib.hid (fun h => show chkX x = 0 by rw [HDEF.out, nz_all (l := x.p) h]; rfl)
    have q0 := HC3.out.cell 2 _ rfl
    have HXP := Lib.hid HX.out.2.2
    clear hp HDEF HX
    generalize x.p = l at *
    go_wp2_with fail
    go_loopw [24] (fun iv wr => ∃ k : Nat, k ≤ l.length ∧ iv = .int .i64 k ∧ Hid ((∀ i, i < k → (l.getD i pz0).val ≠ 0) ∧ Ext w wr)) (fun iv _ => l.length - (intOf iv).toNat)
    case atStart => exact ⟨0, by omega, rfl, Lib.hid ⟨fun i hi => absurd hi (by omega), HE3.out⟩⟩
    case round =>
     obtain ⟨k, hk, rfl, HJ⟩ := hrel
     clear q0 HC3 HE3
     by_cases hlt : k < l.length
     ·have hd : decide (k < l.length) = true := decide_eq_true hlt
      have hd2 : decide ((k : Int) < (l.length : Int)) = true := decide_eq_true (by omega)
      obtain ⟨bb, oo, rfl, hrg, hpk⟩ := (HXP.out.ext HJ.out.2).at k hlt
      have HR := Lib.hid hrg
      have HPV := Lib.hid (show (l.getD k pz0).val < M256 from hpk.2.2)
      have HS1 := Lib.hid (fun h => HST.out k hlt h)
      have HMO := Lib.hid (fun (h : (l.getD k pz0).val ≠ 0) => show ∀ i, i < k + 1 → (l.getD i pz0).val ≠ 0 from fun i hi => by
       rcases Nat.lt_or_ge i k with h' | h'
       ·exact HJ.out.1 i h'
       ·obtain rfl : i = k := by omega
        exact h)
      clear hrg hpk
      generalize l.getD k pz0 = p at *
      by_cases hz : p.val = 0
      ·have fz : (p.val == 0) = true := by rw [beq_iff_eq]; exact hz
       have HZ := Lib.hid fz
       have HF := Lib.hid (HS1.out hz)
       clear hz fz HST HAL
       go_wp2_with (first
        | ((with_reducible refine wpList_loadP ?_ (.tmp 26) ?_ bb (oo + k * 9) p ?_ ?_ ?_); (exact rfl); (exact rfl); (exact rfl); (exact HR.out))
        | ((with_reducible refine wpList_storeP ?_ ?_ (.tmp 4) (.tmp 27) ?_ wr.heap.size pz0 p ?_ ?_ ?_ ?_); (exact rfl); (exact rfl); (exact rfl); (exact rfl); (exact rfl); (exact Cs.new _ _ _ _ rfl); intro w4 k4 g4; have HX4 := Lib.hid (((Ext.refl wr).alloc _).grown g4 (Nat.le_refl _)); have HVL := Lib.hid k4.val; clear k4 g4)
        | ((with_reducible refine wpList_load_wordIn ?_ (.tmp 28) ?_ wr.heap.size 5 p.val ?_ ?_ ?_); (exact rfl); (exact rfl); (exact rfl); (exact HVL.out))
        | ((with_reducible refine wpList_eql_word ?_ (.tmp 29) (.tmp 30) ?_ p.val 0 HPV.out (by decide) ?_ ?_ ?_); (exact rfl); (exact rfl); (exact rfl); (exact rfl); rw [HZ.out]))
       refine bodyPost_ret (results_tmp rfl _ _ _) rfl ?_
       exact ⟨by rw [HF.out]; rfl, HJ.out.2.trans HX4.out⟩
      ·have fz : (p.val == 0) = false := by rw [beq_eq_false_iff_ne]; exact hz
       have HZ := Lib.hid fz
       have HM := Lib.hid (HMO.out hz)
       clear hz fz
       go_wp2_with (first
        | ((with_reducible refine wpList_loadP ?_ (.tmp 26) ?_ bb (oo + k * 9) p ?_ ?_ ?_); (exact rfl); (exact rfl); (exact rfl); (exact HR.out))
        | ((with_reducible refine wpList_storeP ?_ ?_ (.tmp 4) (.tmp 27) ?_ wr.heap.size pz0 p ?_ ?_ ?_ ?_); (exact rfl); (exact rfl); (exact rfl); (exact rfl); (exact rfl); (exact Cs.new _ _ _ _ rfl); intro w4 k4 g4; have HX4 := Lib.hid (((Ext.refl wr).alloc _).grown g4 (Nat.le_refl _)); have HVL := Lib.hid k4.val; clear k4 g4)
        | ((with_reducible refine wpList_load_wordIn ?_ (.tmp 28) ?_ wr.heap.size 5 p.val ?_ ?_ ?_); (exact rfl); (exact rfl); (exact rfl); (exact HVL.out))
        | ((with_reducible refine wpList_eql_word ?_ (.tmp 29) (.tmp 30) ?_ p.val 0 HPV.out (by decide) ?_ ?_ ?_); (exact rfl); (exact rfl); (exact rfl); (exact rfl); rw [HZ.out]))
       exact ⟨⟨k + 1, by omega, by go_num, Lib.hid ⟨HM.out, HJ.out.2.trans HX4.out⟩⟩, by simp [intOf]; omega⟩
     ·obtain rfl : k = l.length := by omega
      have hd : decide (l.length < l.length) = false := decide_eq_false (by omega)
      have HF := Lib.hid (HAL.out HJ.out.1)
      go_wp2_with fail
      refine bodyPost_ret (results_tmp rfl _ _ _) rfl ?_
      exact ⟨by rw [HF.out]; rfl, HJ.out.2⟩
end Go.Proofs.YtnjpdchmdimaaaaGreat
namespace Go.Proofs.YtnjpdchmdimaaaaGreat
open Go.ChangeShapes Go.WideShapes Go.ChangeAt Go.RowKit Go.Shelf

theorem below_grown {W W' : World} {lo : Nat} {row : Option Nat} (hlo : lo ≤ W.heap.size) (hg : W.grownBy W' row) (hr : ∀ g, row = some g → lo ≤ g) : Below lo W W' := Below.grown (Below.refl lo W) hg hlo (fun j hj => hr j hj)
end Go.Proofs.YtnjpdchmdimaaaaGreat
namespace Go.Proofs.YtnjpdchmdimaaaaGreat
open Go.ChangeShapes Go.WideShapes Go.ChangeAt Go.RowKit Go.Shelf

set_option maxRecDepth 100000 in
theorem wpList_loadX {ops : Array Oper} {rest : List Oper} {o : Oper} {a : Act} {w : World} {Q : Exit → Act → World → Prop} (hgd : Region.wanted o (yielded ops a.tmps) = true) (x : Operand) (ho : o.op = .load 35 x)
  (g : Nat) (u v p : Value) (hx : a.eval x = .pointer (some ⟨g, 0, none⟩)) (hg : Cs w g 35 #[u, v, p]) (h : wpList Tryz.prog ops Q rest (a.put o.dst (.agg #[u, v, p])) w) : wpList Tryz.prog ops Q (o :: rest) a w := by
 refine wpList_step fun K hK => ?_
 rw [if_pos hgd]
 refine wp_load_mid 35 x ho g 0 hx (#[u, v, p] : Array Value).toList _ (Cs.rg hg) Tryz.underlying35 rfl axinfo ?_
 exact hK _ _ h
set_option maxRecDepth 100000 in
theorem wpList_storeX {ops : Array Oper} {rest : List Oper} {o : Oper} {a : Act} {w : World} {Q : Exit → Act → World → Prop} (hgd : o.guard = none) (hd : o.dst = none) (x y : Operand) (ho : o.op = .store 35 x y)
  (g : Nat) (p q r u v z : Value) (hx : a.eval x = .pointer (some ⟨g, 0, none⟩)) (hy : a.eval y = .agg #[u, v, z]) (h1 : u.oneCell' = true) (h2 : v.oneCell' = true) (h3 : z.oneCell' = true) (hg : Cs w g 35 #[p, q, r])
  (h : ∀ w', Cs w' g 35 #[u, v, z] → w.grownBy w' (some g) → wpList Tryz.prog ops Q rest a w') : wpList Tryz.prog ops Q (o :: rest) a w := by
 have h' : ∀ w', Cs w' g 35 #[u, v, z] → w.grownBy w' (some g) → wpList Tryz.prog ops Q rest (a.put o.dst undef) w' := by rw [hd]; exact h
 refine wpList_store_row hgd 35 x y ho g #[u, v, z] hx hy 35 #[p, q, r] hg axinfo rfl (by simp [h1, h2, h3]) (h' _ ?_ ?_)
 ·exact setRow_heap w g _ _ 35 (0, 0) hg
 ·exact ⟨rfl, rfl, rfl, by simp [World.setRow], fun k _ hk => setRow_other w g k _ (fun e => hk (by simp [e]))⟩
def RetX (lo : Nat) (W : World) (v : Value) (x : Ax) : Prop := ∃ a s p, v = .agg #[a, s, p] ∧ OwnA W lo a x.a ∧ OwnS W lo s x.s ∧ OwnP W lo p x.p
theorem RetX.ext {lo : Nat} {W W' : World} {v : Value} {x : Ax} (h : RetX lo W v x) (he : Ext W W') : RetX lo W' v x := by
 obtain ⟨a, s, p, e, h1, h2, h3⟩ := h
 exact ⟨a, s, p, e, h1.ext he, h2.ext he, h3.ext he⟩
theorem RetX.low {lo lo' : Nat} {W : World} {v : Value} {x : Ax} (h : RetX lo W v x) (hl : lo' ≤ lo) : RetX lo' W v x := by
 obtain ⟨a, s, p, e, h1, h2, h3⟩ := h
 exact ⟨a, s, p, e, h1.mono hl, h2.mono hl, h3.mono hl⟩
def ax0 : Ax := ⟨[], [], []⟩
def axz : Value := .agg #[.slice none 0 0, .slice none 0 0, .slice none 0 0]
theorem RetX.nil (lo : Nat) (W : World) : RetX lo W axz ax0 := ⟨_, _, _, rfl, OwnA.nil _ _, OwnS.nil _ _, OwnP.nil _ _⟩
theorem rightX_facts {x : Ax} (h : rightX x = true) : rsB x.a = true ∧ rsB x.s = true ∧ rsB x.p = true ∧ nzB x.p = true := by
 unfold rightX at h
 simp only [Bool.and_eq_true] at h
 exact ⟨h.1, h.2.1, h.2.2.1, h.2.2.2⟩
theorem rsB_len {l : List Pe} (h : rsB l = true) : l.length ≤ 400 := (rs_iff.1 h).1
theorem OwnA.shp {W : World} {base : Nat} {v : Value} {l : List Pe} (h : OwnA W base v l) : ∃ A c, v = .slice A l.length c ∧ OwnA W base (.slice A l.length c) l := by
 obtain ⟨A, c, e, _, _⟩ := h.sl
 exact ⟨A, c, e, e ▸ h⟩
theorem OwnS.shp {W : World} {base : Nat} {v : Value} {l : List Pe} (h : OwnS W base v l) : ∃ A c, v = .slice A l.length c ∧ OwnS W base (.slice A l.length c) l := by
 obtain ⟨A, c, e, _, _⟩ := h.sl
 exact ⟨A, c, e, e ▸ h⟩
theorem OwnP.shp {W : World} {base : Nat} {v : Value} {l : List Pe} (h : OwnP W base v l) : ∃ A c, v = .slice A l.length c ∧ OwnP W base (.slice A l.length c) l := by
 obtain ⟨A, c, e, _, _⟩ := h.sl
 exact ⟨A, c, e, e ▸ h⟩
theorem OwnA.one {W : World} {base : Nat} {v : Value} {l : List Pe} (h : OwnA W base v l) : v.oneCell' = true := by
 obtain ⟨A, c, e, _, _⟩ := h.sl
 rw [e]
 rfl
theorem OwnS.one {W : World} {base : Nat} {v : Value} {l : List Pe} (h : OwnS W base v l) : v.oneCell' = true := by
 obtain ⟨A, c, e, _, _⟩ := h.sl
 rw [e]
 rfl
theorem OwnP.one {W : World} {base : Nat} {v : Value} {l : List Pe} (h : OwnP W base v l) : v.oneCell' = true := by
 obtain ⟨A, c, e, _, _⟩ := h.sl
 rw [e]
 rfl
end Go.Proofs.YtnjpdchmdimaaaaGreat
