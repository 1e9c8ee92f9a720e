/- A map of addresses that the call makes: one more, and a look-up. Package state: the law's `touched`. -/
import Derived.Test.YteidmoilldheeaaQByt
import Derived.Maps.OwnSet
namespace Go.Proofs.Yteidmoilldheeaa
open Go.RowKit Go.Maps

/-- What a map of addresses reads as: the addresses in it. -/
def tcD (l : List Nat) : DataW Unit := (l.map (fun n : Nat => Lit.int .u64 n)).foldr (fun k m => m.put k (.lit (.bool true))) (.map [])
set_option maxRecDepth 100000 in
theorem tcD_map : ∀ l, IsMap (tcD l)
  | [] => isMap_empty
  | _ :: l => (tcD_map l).put _ _
set_option maxRecDepth 100000 in
theorem tcD_at (b : Nat) : ∀ l, (tcD l).atKey (.int .u64 b) (.lit (.bool false)) = .lit (.bool (decide (b ∈ l)))
  | [] => by simp [tcD]; rfl
  | a :: l => by
    have ih := tcD_at b l
    show ((tcD l).put (.int .u64 a) (.lit (.bool true))).atKey (.int .u64 b) (.lit (.bool false)) = _
    by_cases e : b = a
    · subst e
      rw [atKey_put_same (tcD_map l) (by simp [WideAt.IsKeyLit])]
      simp
    · rw [atKey_put_other (fun h => e (by injection h with _ h; exact Int.ofNat.inj h)), ih]
      simp [e]
/-- Block b is a map of the addresses l. -/
def TcM (w : World) (b : Nat) (l : List Nat) : Prop := w.ownsMap Try.prog 29 (plainElem Try.prog 4) b l.length (tcD l)
set_option maxRecDepth 100000 in
theorem TcM.kept {w w' : World} {b : Nat} {l : List Nat} {row : Option Nat} (h : TcM w b l) (hg : w.grownBy w' row) (hne : some b ≠ row) : TcM w' b l := World.ownsMap.kept h hg hne
set_option maxRecDepth 100000 in
theorem TcM.ext {w w' : World} {b : Nat} {l : List Nat} (h : TcM w b l) (hE : Ext w w') : TcM w' b l := by
  obtain ⟨es, clock, hb, r⟩ := h
  exact ⟨es, clock, hE.block hb, r⟩
set_option maxRecDepth 100000 in
theorem u64_wf {n : Nat} (h : n < 18446744073709551616) : (Lit.int .u64 (n : Int)).wf = true := by
  simp [Lit.wf, IntKind.min, IntKind.max, IntKind.signed, IntKind.bits]
  omega
set_option maxRecDepth 100000 in
theorem plain_bool_inv {P : Program} {e : TypeId} (he : P.underlying e = some .bool) {v : Value} {z : DataW Unit × List MemPlace} (h : plainElem P e v = some z) : ∃ x, v = .bool x ∧ z = (.lit (.bool x), []) := by
  unfold plainElem at h
  rw [he] at h
  cases v <;> simp at h
  exact ⟨_, rfl, h.symm⟩
set_option maxRecDepth 100000 in
theorem wpList_touch {w : World} {ops : Array Oper} {rest : List Oper} {o : Oper} {a : Act} {Q : Exit → Act → World → Prop}
    (hg : o.guard = none) (m x v : Operand) (hop : o.op = Op.mapUpdate 47 m x v) (b : Nat) (l : List Nat) (hl : l.length ≤ 4) (h : TcM w b l) (n : Nat) (hn : n < 18446744073709551616)
    (hm : a.eval m = .map (some b)) (hx : a.eval x = .int .u64 (n : Nat)) (hv : a.eval v = .bool true)
    (hK : ∀ w', TcM w' b (n :: l) → w.grownBy w' (some b) → wpList Try.prog ops Q rest (a.put o.dst undef) w') : wpList Try.prog ops Q (o :: rest) a w :=
  wpList_mapUpdate_own w hg m x v _ hop _ 4 (int_keyed Try.underlying29) Try.underlying47 _ b l.length (tcD l) hm h (by unfold maxLen; omega) _ _ (.int .u64 n) hx hv (keyOf_int_mk Try.underlying29 (u64_wf hn)) (.lit (.bool true)) [] (plainElem_bool Try.underlying4 true) hK
set_option maxRecDepth 100000 in
theorem wpList_touched {w : World} {ops : Array Oper} {rest : List Oper} {o : Oper} {a : Act} {Q : Exit → Act → World → Prop}
    (hg : o.guard = none) (m x : Operand) (hop : o.op = Op.lookup 47 m x false) (b : Nat) (l : List Nat) (h : TcM w b l) (n : Nat) (hn : n < 18446744073709551616)
    (hm : a.eval m = .map (some b)) (hx : a.eval x = .int .u64 (n : Nat))
    (hK : wpList Try.prog ops Q rest (a.put o.dst (.bool (decide (n ∈ l)))) w) : wpList Try.prog ops Q (o :: rest) a w := by
  have hz : (zeroValue 4).run Try.prog w = .ok (.bool false) w := by
    have h0 : (Try.prog.info? 4).map (fun i => i.zero) = some (some (.bool false)) := by kernel_rfl
    obtain ⟨inf, hi, hz0⟩ := Option.map_eq_some_iff.1 h0
    simp [zeroValue, typeInfo, hi, hz0]
  obtain ⟨y, ps, hrun, hy⟩ := World.ownsMap.lookup h (int_keyed Try.underlying29) Try.underlying47 hz (plainElem_bool Try.underlying4 false) (keyOf_int_mk Try.underlying29 (u64_wf hn))
  obtain ⟨z, rfl, e⟩ := plain_bool_inv Try.underlying4 hy
  rw [tcD_at] at e
  have e2 : z = decide (n ∈ l) := by
    injection e with e _
    injection e with e
    injection e with e
    exact e.symm
  refine wpList_plain hg fun K' hK' => ?_
  unfold Oper.wp
  simp [execOp, hop, hm, hx, hrun, Result.andThen]
  refine hK' _ _ ?_
  rw [e2]
  exact hK
end Go.Proofs.Yteidmoilldheeaa
