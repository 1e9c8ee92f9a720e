/- Package access: what is passing is made of a spot and what it holds. -/
import Derived.Test.YtnjpdchmdimaaaaGreatQAcb
namespace Go.Proofs.YtnjpdchmdimaaaaGreat
open Go.ChangeShapes Go.WideShapes Go.ChangeAt Go.RowKit Go.Shelf

theorem wpList_store_one {P : Program} {ops : Array Oper} {rest : List Oper} {o : Oper} {a : Act} {w : World} {Q : Exit → Act → World → Prop} (hgd : o.guard = none) (hd : o.dst = none) (ty : TypeId) (x y : Operand) (ho : o.op = .store ty x y)
  (g k : Nat) (t : TypeId) (cur : Array Value) (v : Value) (hv : v.cells = #[v]) (hx : a.eval x = .pointer (some ⟨g, k, none⟩)) (hy : a.eval y = v) (hg : Cs w g t cur) (hi : (P.info? ty).map (·.size) = some 1) (hb : k + 1 ≤ cur.size) (h1 : v.oneCell' = true)
  (h : ∀ w', Cs w' g t (layC cur k #[v]) → w.grownBy w' (some g) → wpList P ops Q rest a w') : wpList P ops Q (o :: rest) a w := by
 have h' : ∀ w', Cs w' g t (layC cur k #[v]) → w.grownBy w' (some g) → wpList P ops Q rest (a.put o.dst undef) w' := by rw [hd]; exact h
 have hrun : (storeVar ty ⟨g, k, none⟩ v).run P w = .ok () (w.setRow g (layC cur k #[v])) := by
  have := run_storeCells_at (P := P) g k t [v] 0 cur w hg (by simpa using hb) (fun u hu => by rw [List.mem_singleton.1 hu]; exact h1)
  cases hq : P.info? ty with
  | none => simp [hq] at hi
  | some i =>
   have hs : i.size = 1 := by simpa [hq] using hi
   simp only [Nat.add_zero, List.length_singleton] at this
   simp [storeVar, sizeOf, typeInfo, hq, hv, hs]
   simpa [layC] using this
 refine wpList_plain hgd fun K hK => ?_
 unfold Oper.wp execOp
 simp only [ho, hx, hy, Instr.storeAt, Instr.sureAddr, Sem.run_bind, Sem.run_pure, Result.andThen_ok, hrun]
 exact hK _ _ (h' _ (setRow_heap w g _ _ t (0, 0) hg) ⟨rfl, rfl, rfl, by simp [World.setRow], fun q _ hq => setRow_other w g q _ (fun e => hq (by simp [e]))⟩)
end Go.Proofs.YtnjpdchmdimaaaaGreat
