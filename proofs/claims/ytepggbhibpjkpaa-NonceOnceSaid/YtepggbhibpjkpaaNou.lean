/- A map of nonce words of addresses that the call makes. Package nonce: the law's `met`. -/
import Derived.Test.YtepggbhibpjkpaaNoq
import Derived.Test.YtepggbhibpjkpaaNok
import Derived.Maps.OwnSet
import Derived.DeepKeys4
import Derived.Carry
namespace Go.Proofs.Ytepggbhibpjkpaa
open Go.ChangeShapes Go.WideShapes Go.ChangeAt Go.RowKit Go.Shelf Go.Maps

/-! ### What a key reads as -/
set_option maxRecDepth 100000 in
theorem u64_wfN {n : Nat} (h : n < 18446744073709551616) : (Lit.int .u64 (n : Int)).wf = true := by
  simp [Lit.wf, IntKind.min, IntKind.max, IntKind.signed, IntKind.bits]
  omega
set_option maxRecDepth 100000 in
theorem lits_u64 {t : TypeId} (ht : Try.prog.underlying t = some (.int .u64)) (D n : Nat) (h : n < 18446744073709551616) : Try.prog.keyLits (D + 1) t [.int .u64 (n : Nat)] = some [.int .u64 (n : Nat)] := by
  simp [Program.keyLits, ht, u64_wfN h]
set_option maxRecDepth 100000 in
theorem cellsN : Try.prog.cellsOf 29 = 4 ∧ Try.prog.cellsOf 26 = 1 ∧ Try.prog.cellsOf 27 = 1 ∧ Try.prog.cellsOf 60 = 5 := ⟨by kernel_rfl, by kernel_rfl, by kernel_rfl, by kernel_rfl⟩
set_option maxRecDepth 100000 in
theorem lits_word (D n : Nat) : Try.prog.keyLits (D + 2) 29 (wc n).toList = some [.int .u64 (lb n 0 : Nat), .int .u64 (lb n 1 : Nat), .int .u64 (lb n 2 : Nat), .int .u64 (lb n 3 : Nat)] := by
  obtain ⟨h1, h2, _, _⟩ := cellsN
  have hr : List.range 4 = [0, 1, 2, 3] := rfl
  have k := fun i => lits_u64 Try.underlying26 D (lb n i) (lb_lt n i)
  have hw : (wc n).toList = [.int .u64 (lb n 0 : Nat), .int .u64 (lb n 1 : Nat), .int .u64 (lb n 2 : Nat), .int .u64 (lb n 3 : Nat)] := rfl
  rw [hw]
  unfold Program.keyLits
  simp [Try.underlying29, h1, h2, hr, k]
/-- The key of a nonce word of an address. -/
def kuL (a x : Nat) : Lit := .string (keyBytes [.int .u64 (a : Nat), .int .u64 (lb x 0 : Nat), .int .u64 (lb x 1 : Nat), .int .u64 (lb x 2 : Nat), .int .u64 (lb x 3 : Nat)])
set_option maxRecDepth 100000 in
theorem used_lits (D a x : Nat) (ha : a < 18446744073709551616) : Try.prog.keyLits (D + 3) 60 (okc a x).toList = some [.int .u64 (a : Nat), .int .u64 (lb x 0 : Nat), .int .u64 (lb x 1 : Nat), .int .u64 (lb x 2 : Nat), .int .u64 (lb x 3 : Nat)] := by
  obtain ⟨h1, h2, h3, h4⟩ := cellsN
  have k1 := lits_u64 Try.underlying27 (D + 1) a ha
  have k2 := lits_word D x
  have hf : ∃ f0 f1 : Field, Try.prog.underlying 60 = some (.struct #[f0, f1]) ∧ (f0.type = 27 ∧ f0.offset = 0 ∧ f0.name ≠ "_") ∧ (f1.type = 29 ∧ f1.offset = 1 ∧ f1.name ≠ "_") := ⟨_, _, Try.underlying60, ⟨rfl, rfl, by decide⟩, ⟨rfl, rfl, by decide⟩⟩
  obtain ⟨f0, f1, hu, ⟨t0, o0, n0⟩, ⟨t1, o1, n1⟩⟩ := hf
  have e0 : ((okc a x).toList.drop 0).take 1 = [.int .u64 (a : Nat)] := rfl
  have e1 : ((okc a x).toList.drop 1).take 4 = (wc x).toList := rfl
  have hl : (okc a x).toList.length = 5 := rfl
  unfold Program.keyLits
  simp only [hu]
  rw [if_pos ⟨by rw [hl, h4], by simp [n0, n1]⟩]
  simp only [List.mapM_cons, List.mapM_nil, t0, o0, t1, o1, h3, h1, e0, e1, k1, k2]
  rfl
set_option maxRecDepth 100000 in
theorem usedLaid : laidOutB Try.prog = true := by kernel_rfl
set_option maxRecDepth 100000 in
theorem usedRow : (60 : TypeId) < Try.prog.types.size := of_decide_eq_true (by kernel_rfl)
set_option maxRecDepth 100000 in
theorem usedSize : 2 ≤ Try.prog.types.size := of_decide_eq_true (by kernel_rfl)
set_option maxRecDepth 100000 in
theorem usedWide : (match Try.prog.underlying 60 with | some (.array _ _) | some (.struct _) => true | _ => false) = true := by rw [Try.underlying60]
set_option maxRecDepth 100000 in
theorem used_keyed : Keyed Try.prog 60 := Keyed.of_law (deep_law_laid usedLaid (m := 3) (by omega) usedRow (by kernel_rfl) usedWide)
set_option maxRecDepth 100000 in
theorem used_key {a x : Nat} (ha : a < 18446744073709551616) : keyOf Try.prog 60 (.agg (okc a x)) = some (kuL a x) := by
  obtain ⟨D, hD⟩ : ∃ D, Try.prog.types.size + 1 = D + 3 := ⟨Try.prog.types.size - 2, by have := usedSize; omega⟩
  have hk : Try.prog.keyType 60 = true := by kernel_rfl
  have hfm : (Value.agg (okc a x)).formed Try.prog 60 = true := by
    obtain ⟨_, _, _, h4⟩ := cellsN
    simp [Value.formed, Try.underlying60, h4, okc]
  unfold keyOf
  rw [Try.underlying60]
  simp only [hk, hfm, Bool.and_self, if_true, hD]
  have hc : (Value.agg (okc a x)).cells.toList = (okc a x).toList := rfl
  rw [hc, used_lits D a x ha]
  rfl
set_option maxRecDepth 100000 in
theorem kuL_inj {a x b y : Nat} (ha : a < 18446744073709551616) (hx : x < M256) (hb : b < 18446744073709551616) (hy : y < M256) (h : kuL a x = kuL b y) : a = b ∧ x = y := by
  have h1 := used_key (x := x) ha
  rw [h] at h1
  have e := used_keyed.inj h1 (used_key (x := y) hb)
  injection e with e
  have h0 : ∀ i : Nat, (okc a x)[i]? = (okc b y)[i]? := fun i => by rw [e]
  have e0 := h0 0
  have e1 := h0 1
  have e2 := h0 2
  have e3 := h0 3
  have e4 := h0 4
  simp [okc, lv] at e0 e1 e2 e3 e4
  refine ⟨by omega, lb_inj x y hx hy (fun i hi => ?_)⟩
  match i, hi with
  | 0, _ => omega
  | 1, _ => omega
  | 2, _ => omega
  | 3, _ => omega
/-! ### The map -/
def muD (l : List (Nat × Nat)) : DataW Unit := l.foldr (fun k m => m.put (kuL k.1 k.2) (.lit (.bool true))) (.map [])
set_option maxRecDepth 100000 in
theorem muD_map : ∀ l, IsMap (muD l)
  | [] => isMap_empty
  | _ :: l => (muD_map l).put _ _
def OkQ (l : List (Nat × Nat)) : Prop := ∀ q ∈ l, q.1 < 18446744073709551616 ∧ q.2 < M256
set_option maxRecDepth 100000 in
theorem muD_at (a x : Nat) (ha : a < 18446744073709551616) (hx : x < M256) : ∀ l, OkQ l → (muD l).atKey (kuL a x) (.lit (.bool false)) = .lit (.bool (decide ((a, x) ∈ l)))
  | [], _ => by simp [muD]; rfl
  | p :: l, ho => by
    have ih := muD_at a x ha hx l (fun q hq => ho q (List.mem_cons_of_mem _ hq))
    have hp := ho p List.mem_cons_self
    show ((muD l).put (kuL p.1 p.2) (.lit (.bool true))).atKey (kuL a x) (.lit (.bool false)) = _
    by_cases e : (a, x) = p
    · subst e
      rw [atKey_put_same (muD_map l) (by simp [WideAt.IsKeyLit, kuL])]
      simp
    · rw [atKey_put_other (fun h => e (by obtain ⟨h1, h2⟩ := kuL_inj ha hx hp.1 hp.2 h; rw [h1, h2])), ih]
      have : ((a, x) ∈ p :: l) ↔ ((a, x) ∈ l) := by
        rw [List.mem_cons]
        exact ⟨fun h => h.resolve_left e, .inr⟩
      simp only [this]
/-- Block b is such a map. -/
def MuM (w : World) (b : Nat) (l : List (Nat × Nat)) : Prop := w.ownsMap Try.prog 60 (plainElem Try.prog 4) b l.length (muD l)
set_option maxRecDepth 100000 in
theorem MuM.kept {w w' : World} {b : Nat} {l : List (Nat × Nat)} {row : Option Nat} (h : MuM w b l) (hg : w.grownBy w' row) (hne : some b ≠ row) : MuM w' b l := World.ownsMap.kept h hg hne
set_option maxRecDepth 100000 in
theorem MuM.ext {w w' : World} {b : Nat} {l : List (Nat × Nat)} (h : MuM w b l) (hE : Ext w w') : MuM w' b l := by
  obtain ⟨es, clock, hb, r⟩ := h
  exact ⟨es, clock, hE.block hb, r⟩
set_option maxRecDepth 100000 in
theorem MuM.lt {w : World} {b : Nat} {l : List (Nat × Nat)} (h : MuM w b l) : b < w.heap.size := by
  obtain ⟨es, clock, hb, r⟩ := h
  exact (Array.getElem?_eq_some_iff.1 hb).1
set_option maxRecDepth 100000 in
theorem MuM.ne {w : World} {b g : Nat} {l : List (Nat × Nat)} {t : TypeId} {cs : Array Value} (h : MuM w b l) (hg : Cs w g t cs) : g ≠ b := by
  rintro rfl
  obtain ⟨es, clock, hb, r⟩ := h
  rw [show w.heap[g]? = _ from hg] at hb
  cases hb
set_option maxRecDepth 100000 in
theorem wpList_met_put {w : World} {ops : Array Oper} {rest : List Oper} {o : Oper} {a : Act} {Q : Exit → Act → World → Prop}
    (hg : o.guard = none) (hd : o.dst = none) (m x v : Operand) (hop : o.op = Op.mapUpdate 58 m x v) (b : Nat) (l : List (Nat × Nat)) (hl : l.length ≤ 1000) (h : MuM w b l) (n k : Nat) (hn : n < 18446744073709551616)
    (hm : a.eval m = .map (some b)) (hx : a.eval x = .agg (okc n k)) (hv : a.eval v = .bool true)
    (hK : ∀ w', MuM w' b ((n, k) :: l) → w.grownBy w' (some b) → wpList Try.prog ops Q rest a w') : wpList Try.prog ops Q (o :: rest) a w :=
  wpList_mapUpdate_own w hg m x v _ hop _ 4 used_keyed Try.underlying58 _ b l.length (muD l) hm h (by unfold maxLen; omega) _ _ (kuL n k) hx hv (used_key hn) _ _ (plainElem_bool Try.underlying4 true) fun w' h1 h2 => by
    rw [hd]; exact hK w' h1 h2
set_option maxRecDepth 100000 in
theorem wpList_met_get {w : World} {ops : Array Oper} {rest : List Oper} {o : Oper} {a : Act} {Q : Exit → Act → World → Prop}
    (hgd : Region.wanted o (yielded ops a.tmps) = true) (m x : Operand) (hop : o.op = Op.lookup 58 m x false) (b : Nat) (l : List (Nat × Nat)) (ho : OkQ l) (h : MuM w b l) (n k : Nat) (hn : n < 18446744073709551616) (hk : k < M256)
    (hm : a.eval m = .map (some b)) (hx : a.eval x = .agg (okc n k))
    (hK : wpList Try.prog ops Q rest (a.put o.dst (.bool (decide ((n, k) ∈ l)))) w) : wpList Try.prog ops Q (o :: rest) a w := by
  have hz : (zeroValue 4).run Try.prog w = .ok (.bool false) w := by
    have h0 : (Try.prog.info? 4).map (fun i => i.zero) = some (some (.bool false)) := by kernel_rfl
    obtain ⟨inf, hi, hz0⟩ := Option.map_eq_some_iff.1 h0
    simp [zeroValue, typeInfo, hi, hz0]
  obtain ⟨y, ps, hrun, hy⟩ := World.ownsMap.lookup h used_keyed Try.underlying58 hz (plainElem_bool Try.underlying4 false) (used_key (x := k) hn)
  rw [muD_at n k hn hk l ho] at hy
  have e2 : y = .bool (decide ((n, k) ∈ l)) := by
    unfold plainElem at hy
    rw [Try.underlying4] at hy
    cases y <;> simp at hy
    rw [hy.1]
  refine wpList_step fun K' hK' => ?_
  rw [if_pos hgd]
  unfold Oper.wp
  simp [execOp, hop, hm, hx, hrun, Result.andThen]
  refine hK' _ _ ?_
  rw [e2]
  exact hK
end Go.Proofs.Ytepggbhibpjkpaa
