/- A map of times by addresses that the call makes. Package ledger: the law's `from`. -/
import Derived.Test.YteidmoilldheeaaLpa
import Derived.Maps.OwnSet
namespace Go.Proofs.Yteidmoilldheeaa
open Go.ChangeShapes Go.WideShapes Go.ChangeAt Go.RowKit Go.Shelf Go.Maps

def fmD (l : List (Nat × Nat)) : DataW Unit := l.foldr (fun k m => m.put (.int .u64 (k.1 : Nat)) (.lit (.int .u64 (k.2 : Nat)))) (.map [])
set_option maxRecDepth 100000 in
theorem fmD_map : ∀ l, IsMap (fmD l)
  | [] => isMap_empty
  | _ :: l => (fmD_map l).put _ _
/-- What the map holds of an address. -/
def ffV : List (Nat × Nat) → Nat → Nat
  | [], _ => 0
  | p :: l, a => if a = p.1 then p.2 else ffV l a
set_option maxRecDepth 100000 in
theorem fmD_at (b : Nat) : ∀ l, (fmD l).atKey (.int .u64 b) (.lit (.int .u64 0)) = .lit (.int .u64 (ffV l b : Nat))
  | [] => by simp [fmD, ffV]; rfl
  | p :: l => by
    have ih := fmD_at b l
    show ((fmD l).put (.int .u64 p.1) (.lit (.int .u64 (p.2 : Nat)))).atKey (.int .u64 b) (.lit (.int .u64 0)) = _
    by_cases e : b = p.1
    · subst e
      rw [atKey_put_same (fmD_map l) (by simp [WideAt.IsKeyLit])]
      simp [ffV]
    · rw [atKey_put_other (fun h => e (by injection h with _ h; exact Int.ofNat.inj h)), ih]
      simp [ffV, e]
/-- Block b is such a map. -/
def FmM (w : World) (b : Nat) (l : List (Nat × Nat)) : Prop := w.ownsMap Try.prog 29 (plainElem Try.prog 28) b l.length (fmD l)
set_option maxRecDepth 100000 in
theorem FmM.kept {w w' : World} {b : Nat} {l : List (Nat × Nat)} {row : Option Nat} (h : FmM w b l) (hg : w.grownBy w' row) (hne : some b ≠ row) : FmM w' b l := World.ownsMap.kept h hg hne
set_option maxRecDepth 100000 in
theorem FmM.ext {w w' : World} {b : Nat} {l : List (Nat × Nat)} (h : FmM w b l) (hE : Ext w w') : FmM w' b l := by
  obtain ⟨es, clock, hb, r⟩ := h
  exact ⟨es, clock, hE.block hb, r⟩
set_option maxRecDepth 100000 in
theorem FmM.lt {w : World} {b : Nat} {l : List (Nat × Nat)} (h : FmM w b l) : b < w.heap.size := by
  obtain ⟨es, clock, hb, r⟩ := h
  exact (Array.getElem?_eq_some_iff.1 hb).1
set_option maxRecDepth 100000 in
/-- What holds cells is no map. -/
theorem FmM.ne {w : World} {b g : Nat} {l : List (Nat × Nat)} {t : TypeId} {cs : Array Value} (h : FmM w b l) (hg : Cs w g t cs) : g ≠ b := by
  rintro rfl
  obtain ⟨es, clock, hb, r⟩ := h
  rw [show w.heap[g]? = _ from hg] at hb
  cases hb
set_option maxRecDepth 100000 in
theorem FmM.nb {w : World} {b : Nat} {l : List (Nat × Nat)} (h : FmM w b l) {v : Value} {m : List Hd} (hs : Hds w v m) : NB b v m := by
  intro hp b' o sp n c e
  rintro rfl
  obtain ⟨A, c', e', h1, h2, h3⟩ := hs
  obtain ⟨b2, o2, e2, hc⟩ := h3 hp
  rw [e] at e'
  injection e' with e1 _ _
  rw [e2] at e1
  injection e1 with e1
  injection e1 with e1
  obtain ⟨cs, k1, k2, k3⟩ := hc 0 _ (List.getElem?_eq_getElem hp)
  have hcs : ∃ u, cs[0]? = some u := by
    obtain ⟨_, rfl⟩ := k2
    exact ⟨_, rfl⟩
  obtain ⟨u, hu⟩ := hcs
  have h4 := k3 0 u hu
  obtain ⟨es, clock, hb, r⟩ := h
  unfold World.cell? at h4
  rw [← e1] at h4
  simp [hb] at h4
set_option maxRecDepth 100000 in
theorem u64_wfM {n : Nat} (h : n < 18446744073709551616) : (Lit.int .u64 (n : Int)).wf = true := by
  simp [Lit.wf, IntKind.min, IntKind.max, IntKind.signed, IntKind.bits]
  omega
set_option maxRecDepth 100000 in
theorem wpList_from_put {w : World} {ops : Array Oper} {rest : List Oper} {o : Oper} {a : Act} {Q : Exit → Act → World → Prop}
    (hg : o.guard = none) (hd : o.dst = none) (m x v : Operand) (hop : o.op = Op.mapUpdate 74 m x v) (b : Nat) (l : List (Nat × Nat)) (hl : l.length ≤ 1000) (h : FmM w b l) (n k : Nat) (hn : n < 18446744073709551616) (hk : k < 18446744073709551616)
    (hm : a.eval m = .map (some b)) (hx : a.eval x = .int .u64 (n : Nat)) (hv : a.eval v = .int .u64 (k : Nat))
    (hK : ∀ w', FmM w' b ((n, k) :: l) → w.grownBy w' (some b) → wpList Try.prog ops Q rest a w') : wpList Try.prog ops Q (o :: rest) a w :=
  wpList_mapUpdate_own w hg m x v _ hop _ 28 (int_keyed Try.underlying29) Try.underlying74 _ b l.length (fmD l) hm h (by unfold maxLen; omega) _ _ (.int .u64 n) hx hv (keyOf_int_mk Try.underlying29 (u64_wfM hn)) (.lit (.int .u64 (k : Nat))) [] (plainElem_int Try.underlying28 (u64_wfM hk)) (fun w' h1 h2 => by
    rw [hd]; exact hK w' h1 h2)
set_option maxRecDepth 100000 in
theorem wpList_from_get {w : World} {ops : Array Oper} {rest : List Oper} {o : Oper} {a : Act} {Q : Exit → Act → World → Prop}
    (hgd : Region.wanted o (yielded ops a.tmps) = true) (m x : Operand) (hop : o.op = Op.lookup 74 m x false) (b : Nat) (l : List (Nat × Nat)) (h : FmM w b l) (n : Nat) (hn : n < 18446744073709551616)
    (hm : a.eval m = .map (some b)) (hx : a.eval x = .int .u64 (n : Nat))
    (hK : wpList Try.prog ops Q rest (a.put o.dst (.int .u64 (ffV l n : Nat))) w) : wpList Try.prog ops Q (o :: rest) a w := by
  have hz : (zeroValue 28).run Try.prog w = .ok (.int .u64 0) w := by
    have h0 : (Try.prog.info? 28).map (fun i => i.zero) = some (some (.int .u64 0)) := by kernel_rfl
    obtain ⟨inf, hi, hz0⟩ := Option.map_eq_some_iff.1 h0
    simp [zeroValue, typeInfo, hi, hz0]
  obtain ⟨y, ps, hrun, hy⟩ := World.ownsMap.lookup h (int_keyed Try.underlying29) Try.underlying74 hz (plainElem_int Try.underlying28 (by decide)) (keyOf_int_mk Try.underlying29 (u64_wfM hn))
  obtain ⟨z, rfl, e⟩ := plainElem_int_inv Try.underlying28 hy
  rw [fmD_at] at e
  have e2 : z = ((ffV l n : Nat) : Int) := by
    have e := congrArg Prod.fst e.1
    injection e with e
    injection e with _ e
    exact e.symm
  refine wpList_step fun K' hK' => ?_
  rw [if_pos hgd]
  unfold Oper.wp
  simp [execOp, hop, hm, hx, hrun, Result.andThen]
  refine hK' _ _ ?_
  rw [e2]
  exact hK
/-! ### What it holds of the rows -/
def frL (l : List Hd) : List (Nat × Nat) := (l.map fun h => (h.addr, h.fre)).reverse
set_option maxRecDepth 100000 in
theorem frL_snoc (l : List Hd) (k : Nat) (h : k < l.length) : frL (l.take (k + 1)) = ((l.getD k hz0).addr, (l.getD k hz0).fre) :: frL (l.take k) := by
  rw [List.take_succ_eq_append_getElem h]
  unfold frL
  rw [List.map_append, List.reverse_append, List.getD_eq_getElem?_getD, List.getElem?_eq_getElem h]
  rfl
set_option maxRecDepth 100000 in
theorem frL_len (l : List Hd) : (frL l).length = l.length := by simp [frL]
set_option maxRecDepth 100000 in
theorem ffV_of {L : List (Nat × Nat)} {a x : Nat} (h : ∀ p ∈ L, p.1 = a → p.2 = x) (hx : (∃ p ∈ L, p.1 = a) ∨ x = 0) : ffV L a = x := by
  induction L with
  | nil =>
    rcases hx with ⟨p, hp, _⟩ | hx
    · cases hp
    · exact hx.symm
  | cons p L ih =>
    unfold ffV
    by_cases e : a = p.1
    · rw [if_pos e]; exact h p List.mem_cons_self e.symm
    · rw [if_neg e]
      refine ih (fun q hq => h q (List.mem_cons_of_mem _ hq)) ?_
      rcases hx with ⟨q, hq, eq⟩ | hx
      · rcases List.mem_cons.1 hq with rfl | hq
        · exact absurd eq.symm e
        · exact .inl ⟨q, hq, eq⟩
      · exact .inr hx
set_option maxRecDepth 100000 in
theorem ffV_rows {l : List Hd} (hr : RiseG l) (a : Nat) : ffV (frL l) a = (rowG l a).fre := by
  have hm : ∀ p ∈ frL l, ∃ h ∈ l, p = (h.addr, h.fre) := by
    intro p hp
    unfold frL at hp
    rw [List.mem_reverse] at hp
    obtain ⟨h, hh, rfl⟩ := List.mem_map.1 hp
    exact ⟨h, hh, rfl⟩
  rcases rowG_or hr a with ⟨q, hq, e, e1, _⟩ | ⟨h1, e1, _⟩
  · rw [e1]
    refine ffV_of (fun p hp hpa => ?_) (.inl ⟨(q.addr, q.fre), ?_, e⟩)
    · obtain ⟨h, hh, rfl⟩ := hm p hp
      rw [uniqG ((riseG_iff l).1 hr) h hh q hq (hpa.trans e.symm)]
    · unfold frL
      rw [List.mem_reverse]
      exact List.mem_map.2 ⟨q, hq, rfl⟩
  · rw [e1]
    refine ffV_of (fun p hp hpa => ?_) (.inr rfl)
    obtain ⟨h, hh, rfl⟩ := hm p hp
    exact absurd hpa (h1 h hh)
end Go.Proofs.Yteidmoilldheeaa
