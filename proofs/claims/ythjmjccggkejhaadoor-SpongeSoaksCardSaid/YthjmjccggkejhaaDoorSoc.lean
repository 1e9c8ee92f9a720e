/- SpongeSoaks: parts of the padded bytes, and lanes that lie there. -/
import Derived.Test.YthjmjccggkejhaaDoorSob
import Derived.Test.YthjmjccggkejhaaDoorSqc
namespace Go.Proofs.YthjmjccggkejhaaDoor
open Go.RowKit Go.Shelf

theorem part_bs {W : World} {bb n c : Nat} {P : List UInt8} (h : Bs W (.slice (some ⟨bb, 0, none⟩) n c) P) (q m : Nat) (hq : q + m ≤ P.length) : Bs W (.slice (some ⟨bb, q, none⟩) m m) ((P.drop q).take m) := by
  obtain ⟨A', c', e, h1, h2, h3⟩ := h
  injection e with e1 e2 e3
  subst e1; subst e3
  have hl : ((P.drop q).take m).length = m := by rw [List.length_take, List.length_drop]; omega
  refine ⟨_, m, by rw [hl], by omega, by omega, fun hp => ⟨bb, q, rfl, fun i hi => ?_⟩⟩
  rw [hl] at hi hp
  obtain ⟨b, o, ea, hc⟩ := h3 (by omega)
  injection ea with ea
  injection ea with e4 e5
  subst e4; subst e5
  have := hc (q + i) (by omega)
  rw [Nat.zero_add] at this
  rw [this]
  congr 1
  simp [List.getD, hi]
theorem part_le (P : List UInt8) (q j : Nat) (hj : j < 17) : leS ((P.drop (q + 8 * j)).take (136 - 8 * j)) 0 8 = leS (P.drop q) (8 * j) 8 := by
  refine leS_congr _ _ _ _ _ fun k hk => ?_
  have h : k < 136 - 8 * j := by omega
  simp [List.getD, h, Nat.add_assoc]
theorem padL_take (b : List UInt8) : padL b = b ++ (padL b).drop b.length := by
  have e : (padL b).take b.length = b := by
    have hg := padN_gt b
    apply ext_getD
    · rw [List.length_take, padL_len]; omega
    · intro i hi
      rw [List.length_take, padL_len] at hi
      have h1 : i < b.length := by omega
      have h2 : ((padL b).take b.length).getD i 0 = (padL b).getD i 0 := by simp [List.getD, h1]
      rw [h2, padL_get b i (by omega), if_neg (by omega), if_neg (by omega)]
  conv => lhs; rw [← List.take_append_drop b.length (padL b), e]

/-- Lanes behind the blocks that were told. -/
def skL (P : List UInt8) (N : Nat) : List Nat → Nat → Nat := fun pre => pre.foldl (fun f x => prmF (laF f (P.drop (136 * (x % N))) 17) 24) (fun _ => 0)
theorem skL_snoc (P : List UInt8) (N : Nat) (pre : List Nat) (x : Nat) : skL P N (pre ++ [x]) = prmF (laF (skL P N pre) (P.drop (136 * (x % N))) 17) 24 := by
  unfold skL
  rw [List.foldl_append]
  rfl
theorem skL_lt (P : List UInt8) (N : Nat) (pre : List Nat) : Lok (skL P N pre) := by
  have h : ∀ f, Lok f → Lok (pre.foldl (fun f x => prmF (laF f (P.drop (136 * (x % N))) 17) 24) f) := by
    induction pre with
    | nil => exact fun f hf => hf
    | cons x pre ih => exact fun f hf => ih _ (prmF_lt _ (laF_lt _ _ hf 17) 24 (by omega))
  exact h _ (sk_lt P 0)
theorem skL_all (P : List UInt8) (N k : Nat) (hk : k ≤ N) (hP : P.length = 136 * N) : skL P N (List.range k) = sk P k := by
  induction k with
  | zero => rfl
  | succ k ih =>
    rw [List.range_succ, skL_snoc, ih (by omega), Nat.mod_eq_of_lt (by omega), sk_next P k (by omega)]

/-- Lanes that lie there, and what a round keeps. -/
def SoP (w3 : World) (f : Nat → Nat) (W0 W : World) : Prop := Ln W w3.heap.size f ∧ Ext w3 W ∧ w3.heap.size + 3 ≤ W.heap.size ∧ Stp (w3.heap.size + 1) (w3.heap.size + 2) W0 W
theorem SoP.ext {w3 : World} {f : Nat → Nat} {W0 W W' : World} (h : SoP w3 f W0 W) (he : Ext W W') : SoP w3 f W0 W' :=
  ⟨h.1.ext he, h.2.1.trans he, Nat.le_trans h.2.2.1 he.size, h.2.2.2.trans (Stp.ext he (by have := h.2.2.1; omega) (by have := h.2.2.1; omega))⟩
theorem SoP.lanes {w3 : World} {f f' : Nat → Nat} {W0 W W' : World} (h : SoP w3 f W0 W) (hk : Ln W' w3.heap.size f') (hg : W.grownBy W' (some w3.heap.size)) : SoP w3 f' W0 W' :=
  ⟨hk, h.2.1.grown hg (Nat.le_refl _), Nat.le_trans h.2.2.1 hg.size, h.2.2.2.trans (Stp.put hg h.1 (by have := h.2.2.1; omega) (by have := h.2.2.1; omega) (by omega) (by omega))⟩
theorem SoP.put {w3 : World} {f f' : Nat → Nat} {W0 W : World} (h : SoP w3 f W0 W) (p v : Nat) (hf : (fun i => if i = p then v else f i) = f') : SoP w3 f' W0 (W.setCell ⟨w3.heap.size, p, none⟩ (.int .u64 (v : Nat))) :=
  h.lanes (by rw [← hf]; exact h.1.set p v) (grown_set _ _ _ _)
theorem SoP.other {w3 : World} {f : Nat → Nat} {W0 W W' : World} {b : Nat} {t : TypeId} {cs : Array Value} (h : SoP w3 f W0 W) (hg : W.grownBy W' (some b)) (hc : Cs W b t cs) (hb : w3.heap.size + 3 ≤ b) : SoP w3 f W0 W' :=
  ⟨h.1.kept hg (some_ne (by omega)), h.2.1.grown hg (by omega), Nat.le_trans h.2.2.1 hg.size, h.2.2.2.trans (Stp.put hg hc (by have := h.2.2.1; omega) (by have := h.2.2.1; omega) (by omega) (by omega))⟩
/-- Lanes that lie there, between the rounds. -/
def SoI (w3 : World) (f : Nat → Nat) (W : World) : Prop := Ln W w3.heap.size f ∧ Ext w3 W ∧ w3.heap.size + 3 ≤ W.heap.size
theorem SoI.start {w3 : World} {f : Nat → Nat} {W : World} (h : SoI w3 f W) : SoP w3 f W W := ⟨h.1, h.2.1, h.2.2, Stp.refl _ _ _⟩
theorem SoP.over {w3 : World} {f : Nat → Nat} {W0 W : World} (h : SoP w3 f W0 W) : SoI w3 f W := ⟨h.1, h.2.1, h.2.2.1⟩
theorem SoI.own {w3 : World} {B : Nat} (hB : w3.heap.size + 3 ≤ B) (F : List Nat → Nat → Nat) : OwnFrom B (fun pre W => SoI w3 (F pre) W) := by
  intro s A A' row h hg hr
  exact ⟨h.1.kept hg (fun e => by have := (hr _ e.symm).1; omega), Below.grown h.2.1 hg h.2.1.size (fun g e => by have := (hr _ e).1; omega), Nat.le_trans h.2.2 hg.size⟩

theorem wpListIn_neq_lanes {F : Fence} {n : Nat} {ops : Array Oper} {rest : List Oper} {o : Oper} {a : Act} {w : World} {Q : Exit → Act → World → Prop} (hgd : o.guard = none) (x y : Operand) (ho : o.op = .binOp .neq 35 x y 35)
    (f g : Nat → Nat) (b : Bool) (hx : a.eval x = lnv f) (hy : a.eval y = lnv g) (hb : (!same25 f g) = b) (h : wpListIn F n Tryd.prog ops Q rest (a.put o.dst (.bool b)) w) : wpListIn F n Tryd.prog ops Q (o :: rest) a w := by
  refine wpListIn_plain hgd fun K hK => ?_
  unfold Oper.wpIn
  refine ⟨by simp [Oper.about, ho], ?_⟩
  rw [Oper.semAt_plain F _ _ (by rw [ho]; intro c hc'; cases hc')]
  simp only [execOp, ho, hx, hy, Sem.run_bind, run_guard_neq_lanes, Result.andThen_ok, run_neq_lanes f g, hb]
  exact hK _ _ h
theorem wpListIn_store_id {F : Fence} {n : Nat} {ops : Array Oper} {rest : List Oper} {o : Oper} {a : Act} {w : World} {Q : Exit → Act → World → Prop} (hgd : o.guard = none) (hd : o.dst = none) (x y : Operand) (ho : o.op = .store 27 x y)
    (g : Nat) (old : Array Value) (f : Nat → Nat) (hx : a.eval x = .pointer (some ⟨g, 0, none⟩)) (hy : a.eval y = idv f) (hg : Cs w g 27 old) (hold : old.size = 32)
    (h : ∀ w', Ib w' g f → w.grownBy w' (some g) → wpListIn F n Tryd.prog ops Q rest a w') : wpListIn F n Tryd.prog ops Q (o :: rest) a w := by
  have h' : ∀ w', Ib w' g f → w.grownBy w' (some g) → wpListIn F n Tryd.prog ops Q rest (a.put o.dst undef) w' := by rw [hd]; exact h
  refine wpListIn_plain hgd fun K hK => ?_
  unfold Oper.wpIn
  refine ⟨by simp [Oper.about, ho], ?_⟩
  rw [Oper.semAt_plain F _ _ (by rw [ho]; intro c hc'; cases hc')]
  have hi' : (Tryd.prog.info? 27).map (·.size) = some (ic f).size := iinfo
  simp only [execOp, ho, hx, hy, idv, Instr.storeAt, Instr.sureAddr, Sem.run_bind, Sem.run_pure, Result.andThen_ok, run_storeVar_row w g 27 27 old (ic f) hg hi' hold (ic_one f)]
  refine hK _ _ (h' _ ?_ ?_)
  · exact setRow_heap w g _ _ 27 (0, 0) hg
  · exact ⟨rfl, rfl, rfl, by simp [World.setRow], fun k _ hk => setRow_other w g k _ (fun e => hk (by simp [e]))⟩
end Go.Proofs.YthjmjccggkejhaaDoor
