/- Package gas: the map of what tiers of operations cost. -/
import Derived.Test.YtjefbfabigkeiaaDoorGsm
import Derived.Test.YtjefbfabigkeiaaDoorByt
import Derived.Maps.OwnSet
namespace Go.Proofs.YtjefbfabigkeiaaDoor
open Go.ChangeShapes Go.WideShapes Go.ChangeAt Go.RowKit Go.Shelf Go.Maps

def tmD (l : List (Nat × Nat)) : DataW Unit := l.foldr (fun k m => m.put (.int .i64 (k.1 : Nat)) (.lit (.int .u64 (k.2 : Nat)))) (.map [])
set_option maxRecDepth 100000 in
theorem tmD_map : ∀ l, IsMap (tmD l)
  | [] => isMap_empty
  | _ :: l => (tmD_map l).put _ _
/-- What the map holds of an address. -/
def ttV : List (Nat × Nat) → Nat → Nat
  | [], _ => 0
  | p :: l, a => if a = p.1 then p.2 else ttV l a
set_option maxRecDepth 100000 in
theorem tmD_at (b : Nat) : ∀ l, (tmD l).atKey (.int .i64 (b : Nat)) (.lit (.int .u64 0)) = .lit (.int .u64 (ttV l b : Nat))
  | [] => by simp [tmD, ttV]; rfl
  | p :: l => by
    have ih := tmD_at b l
    show ((tmD l).put (.int .i64 (p.1 : Nat)) (.lit (.int .u64 (p.2 : Nat)))).atKey (.int .i64 (b : Nat)) (.lit (.int .u64 0)) = _
    by_cases e : b = p.1
    · subst e
      rw [atKey_put_same (tmD_map l) (by simp [WideAt.IsKeyLit])]
      simp [ttV]
    · rw [atKey_put_other (fun h => e (by injection h with _ h; exact Int.ofNat.inj h)), ih]
      simp [ttV, e]
/-- Block b is such a map. -/
def TmM (w : World) (b : Nat) (l : List (Nat × Nat)) : Prop := w.ownsMap Tryd.prog 69 (plainElem Tryd.prog 24) b l.length (tmD l)
set_option maxRecDepth 100000 in
theorem TmM.kept {w w' : World} {b : Nat} {l : List (Nat × Nat)} {row : Option Nat} (h : TmM w b l) (hg : w.grownBy w' row) (hne : some b ≠ row) : TmM w' b l := World.ownsMap.kept h hg hne
set_option maxRecDepth 100000 in
theorem TmM.ext {w w' : World} {b : Nat} {l : List (Nat × Nat)} (h : TmM w b l) (hE : Ext w w') : TmM w' b l := by
  obtain ⟨es, clock, hb, r⟩ := h
  exact ⟨es, clock, hE.block hb, r⟩
set_option maxRecDepth 100000 in
theorem TmM.lt {w : World} {b : Nat} {l : List (Nat × Nat)} (h : TmM w b l) : b < w.heap.size := by
  obtain ⟨es, clock, hb, r⟩ := h
  exact (Array.getElem?_eq_some_iff.1 hb).1
set_option maxRecDepth 100000 in
/-- What holds cells is no map. -/
theorem i64_wfG {n : Nat} (h : n < 1000) : (Lit.int .i64 (n : Int)).wf = true := by
  simp [Lit.wf, IntKind.min, IntKind.max, IntKind.signed, IntKind.bits]
  omega
set_option maxRecDepth 100000 in
theorem u64_wfG {n : Nat} (h : n < 18446744073709551616) : (Lit.int .u64 (n : Int)).wf = true := by
  simp [Lit.wf, IntKind.min, IntKind.max, IntKind.signed, IntKind.bits]
  omega
set_option maxRecDepth 100000 in
theorem wpList_tier_put {w : World} {ops : Array Oper} {rest : List Oper} {o : Oper} {a : Act} {Q : Exit → Act → World → Prop}
    (hg : o.guard = none) (hd : o.dst = none) (m x v : Operand) (hop : o.op = Op.insert 67 m x v) (b : Nat) (l : List (Nat × Nat)) (hl : l.length ≤ 1000) (h : TmM w b l) (n k : Nat) (hn : n < 1000) (hk : k < 18446744073709551616)
    (hm : a.eval m = .map (some b)) (hx : a.eval x = .int .i64 (n : Nat)) (hv : a.eval v = .int .u64 (k : Nat))
    (hK : ∀ w', TmM w' b ((n, k) :: l) → w.grownBy w' (some b) → wpList Tryd.prog ops Q rest a w') : wpList Tryd.prog ops Q (o :: rest) a w := by
  refine wpList_plain hg fun K' hK' => ?_
  obtain ⟨w', hrun, r1, r2⟩ := World.ownsMap.update h (int_keyed Tryd.underlying69) Tryd.underlying67 (by unfold maxLen; omega) (keyOf_int_mk Tryd.underlying69 (i64_wfG hn)) (plainElem_int (a := ((k : Nat) : Int)) Tryd.underlying24 (u64_wfG hk))
  unfold Oper.wp
  simp [execOp, hop, hm, hx, hv, hrun, Result.andThen]
  refine hK' _ _ ?_
  rw [hd]
  exact hK w' r1 r2
set_option maxRecDepth 100000 in
theorem wpList_tier_get {w : World} {ops : Array Oper} {rest : List Oper} {o : Oper} {a : Act} {Q : Exit → Act → World → Prop}
    (hgd : Region.wanted o (yielded ops a.tmps) = true) (m x : Operand) (hop : o.op = Op.lookup 67 m x false) (b : Nat) (l : List (Nat × Nat)) (h : TmM w b l) (n : Nat) (hn : n < 1000)
    (hm : a.eval m = .map (some b)) (hx : a.eval x = .int .i64 (n : Nat))
    (hK : wpList Tryd.prog ops Q rest (a.put o.dst (.int .u64 (ttV l n : Nat))) w) : wpList Tryd.prog ops Q (o :: rest) a w := by
  have hz : (zeroValue 24).run Tryd.prog w = .ok (.int .u64 0) w := by
    have h0 : (Tryd.prog.info? 24).map (fun i => i.zero) = some (some (.int .u64 0)) := by kernel_rfl
    obtain ⟨inf, hi, hz0⟩ := Option.map_eq_some_iff.1 h0
    simp [zeroValue, typeInfo, hi, hz0]
  obtain ⟨y, ps, hrun, hy⟩ := World.ownsMap.lookup h (int_keyed Tryd.underlying69) Tryd.underlying67 hz (plainElem_int Tryd.underlying24 (by decide)) (keyOf_int_mk Tryd.underlying69 (i64_wfG hn))
  obtain ⟨z, rfl, e⟩ := plainElem_int_inv Tryd.underlying24 hy
  rw [tmD_at] at e
  have e2 : z = ((ttV l n : Nat) : Int) := by
    have e := congrArg Prod.fst e.1
    injection e with e
    injection e with _ e
    exact e.symm
  refine wpList_step fun K' hK' => ?_
  rw [if_pos hgd]
  unfold Oper.wp
  simp [execOp, hop, hm, hx, hrun, Result.andThen]
  refine hK' _ _ ?_
  rw [e2]
  exact hK
/-- What the operations of each tier cost. -/
def tierL : List (Nat × Nat) := [(8, 30), (7, 10), (6, 10), (5, 8), (4, 5), (3, 3), (2, 2), (1, 1), (0, 0)]
set_option maxRecDepth 100000 in
set_option maxHeartbeats 1000000 in
theorem tiers_any (w : World) : Calls Tryd.prog 42 #[] w fun e w' => e = .returned (.map (some w.heap.size)) ∧ TmM w' w.heap.size tierL ∧ Ext w w' := by
  have hmm := @run_makeMap Tryd.prog
  have HM : Hid (TmM (w.alloc (.map #[] 0)) w.heap.size []) := Lib.hid (World.ownsMap_made _ _ _ _)
  have HE : Hid (Ext w (w.alloc (.map #[] 0))) := Lib.hid ((Ext.refl _).alloc _)
  go_enter Tryd.func42, Tryd.ntmps42
  go_wp2_with (first
    | ((with_reducible refine wpList_tier_put ?_ ?_ (.tmp 1) (.const (.int .i64 0)) (.const (.int .u64 0)) ?_ w.heap.size _ ?_ HM.out 0 0 ?_ ?_ ?_ ?_ ?_ ?_); (exact rfl); (exact rfl); (exact rfl); (exact by decide); (exact by decide); (exact by decide); (exact rfl); (exact rfl); (exact rfl); (intro w1 hm1 hg1; have HM1 := Lib.hid hm1; have HE1 := Lib.hid (Ext.grown HE.out hg1 (Nat.le_refl _)); clear hm1 hg1))
    | ((with_reducible refine wpList_tier_put ?_ ?_ (.tmp 1) (.const (.int .i64 1)) (.const (.int .u64 1)) ?_ w.heap.size _ ?_ HM1.out 1 1 ?_ ?_ ?_ ?_ ?_ ?_); (exact rfl); (exact rfl); (exact rfl); (exact by decide); (exact by decide); (exact by decide); (exact rfl); (exact rfl); (exact rfl); (intro w2 hm2 hg2; have HM2 := Lib.hid hm2; have HE2 := Lib.hid (Ext.grown HE1.out hg2 (Nat.le_refl _)); clear hm2 hg2))
    | ((with_reducible refine wpList_tier_put ?_ ?_ (.tmp 1) (.const (.int .i64 2)) (.const (.int .u64 2)) ?_ w.heap.size _ ?_ HM2.out 2 2 ?_ ?_ ?_ ?_ ?_ ?_); (exact rfl); (exact rfl); (exact rfl); (exact by decide); (exact by decide); (exact by decide); (exact rfl); (exact rfl); (exact rfl); (intro w3 hm3 hg3; have HM3 := Lib.hid hm3; have HE3 := Lib.hid (Ext.grown HE2.out hg3 (Nat.le_refl _)); clear hm3 hg3))
    | ((with_reducible refine wpList_tier_put ?_ ?_ (.tmp 1) (.const (.int .i64 3)) (.const (.int .u64 3)) ?_ w.heap.size _ ?_ HM3.out 3 3 ?_ ?_ ?_ ?_ ?_ ?_); (exact rfl); (exact rfl); (exact rfl); (exact by decide); (exact by decide); (exact by decide); (exact rfl); (exact rfl); (exact rfl); (intro w4 hm4 hg4; have HM4 := Lib.hid hm4; have HE4 := Lib.hid (Ext.grown HE3.out hg4 (Nat.le_refl _)); clear hm4 hg4))
    | ((with_reducible refine wpList_tier_put ?_ ?_ (.tmp 1) (.const (.int .i64 4)) (.const (.int .u64 5)) ?_ w.heap.size _ ?_ HM4.out 4 5 ?_ ?_ ?_ ?_ ?_ ?_); (exact rfl); (exact rfl); (exact rfl); (exact by decide); (exact by decide); (exact by decide); (exact rfl); (exact rfl); (exact rfl); (intro w5 hm5 hg5; have HM5 := Lib.hid hm5; have HE5 := Lib.hid (Ext.grown HE4.out hg5 (Nat.le_refl _)); clear hm5 hg5))
    | ((with_reducible refine wpList_tier_put ?_ ?_ (.tmp 1) (.const (.int .i64 5)) (.const (.int .u64 8)) ?_ w.heap.size _ ?_ HM5.out 5 8 ?_ ?_ ?_ ?_ ?_ ?_); (exact rfl); (exact rfl); (exact rfl); (exact by decide); (exact by decide); (exact by decide); (exact rfl); (exact rfl); (exact rfl); (intro w6 hm6 hg6; have HM6 := Lib.hid hm6; have HE6 := Lib.hid (Ext.grown HE5.out hg6 (Nat.le_refl _)); clear hm6 hg6))
    | ((with_reducible refine wpList_tier_put ?_ ?_ (.tmp 1) (.const (.int .i64 6)) (.const (.int .u64 10)) ?_ w.heap.size _ ?_ HM6.out 6 10 ?_ ?_ ?_ ?_ ?_ ?_); (exact rfl); (exact rfl); (exact rfl); (exact by decide); (exact by decide); (exact by decide); (exact rfl); (exact rfl); (exact rfl); (intro w7 hm7 hg7; have HM7 := Lib.hid hm7; have HE7 := Lib.hid (Ext.grown HE6.out hg7 (Nat.le_refl _)); clear hm7 hg7))
    | ((with_reducible refine wpList_tier_put ?_ ?_ (.tmp 1) (.const (.int .i64 7)) (.const (.int .u64 10)) ?_ w.heap.size _ ?_ HM7.out 7 10 ?_ ?_ ?_ ?_ ?_ ?_); (exact rfl); (exact rfl); (exact rfl); (exact by decide); (exact by decide); (exact by decide); (exact rfl); (exact rfl); (exact rfl); (intro w8 hm8 hg8; have HM8 := Lib.hid hm8; have HE8 := Lib.hid (Ext.grown HE7.out hg8 (Nat.le_refl _)); clear hm8 hg8))
    | ((with_reducible refine wpList_tier_put ?_ ?_ (.tmp 1) (.const (.int .i64 8)) (.const (.int .u64 30)) ?_ w.heap.size _ ?_ HM8.out 8 30 ?_ ?_ ?_ ?_ ?_ ?_); (exact rfl); (exact rfl); (exact rfl); (exact by decide); (exact by decide); (exact by decide); (exact rfl); (exact rfl); (exact rfl); (intro w9 hm9 hg9; have HM9 := Lib.hid hm9; have HE9 := Lib.hid (Ext.grown HE8.out hg9 (Nat.le_refl _)); clear hm9 hg9)))
  go_ret
  exact ⟨rfl, HM9.out, HE9.out⟩
end Go.Proofs.YtjefbfabigkeiaaDoor
