/- Package access: rows of deeds; the access that goes on while deeds are done. -/
import Derived.Test.YtjampleddeidaaaQAei
import Derived.Test.YtjampleddeidaaaQAec
namespace Go.Proofs.Ytjampleddeidaaa
open Go.ChangeShapes Go.WideShapes Go.ChangeAt Go.RowKit Go.Shelf

def DER (cs : List Value) (d : De) : Prop := d.ok ∧ cs = (dec d).toList
def Des (W : World) (v : Value) (l : List De) : Prop := Sl W 10 DER v l
set_option maxRecDepth 100000 in
theorem Des.ext {W W' : World} {v : Value} {l : List De} (h : Des W v l) (he : Ext W W') : Des W' v l := Sl.mono h (fun _ _ hc => he.cell hc) fun _ _ h => h
set_option maxRecDepth 100000 in
theorem Des.len {W : World} {v : Value} {l : List De} (h : Des W v l) : ∃ A c, v = .slice A l.length c ∧ l.length ≤ c ∧ c ≤ maxLen := by
  obtain ⟨A, c, e, h1, h2, _⟩ := h
  exact ⟨A, c, e, h1, h2⟩
def de0 : De := ⟨0, pz0⟩
set_option maxRecDepth 100000 in
theorem Des.at {W : World} {A : Option Addr} {n c : Nat} {l : List De} (h : Des W (.slice A n c) l) (i : Nat) (hi : i < l.length) : ∃ b o, A = some ⟨b, o, none⟩ ∧ W.rangeAt b (o + i * 10) (dec (l.getD i de0)).toList ∧ (l.getD i de0).ok := by
  obtain ⟨A', c', e, _, _, h3⟩ := h
  injection e with e1 e2 e3
  subst e1
  obtain ⟨b, o, rfl, hc⟩ := h3 (by omega)
  obtain ⟨cs, _, ⟨k0, rfl⟩, k3⟩ := hc i _ (List.getElem?_eq_getElem hi)
  have e : l.getD i de0 = l[i] := by simp [List.getD, List.getElem?_eq_getElem hi]
  rw [e]
  exact ⟨b, o, rfl, k3, k0⟩
set_option maxRecDepth 100000 in
theorem deSinfo : (Try.prog.info? 52).map (·.size) = some 10 := by kernel_rfl
set_option maxRecDepth 100000 in
theorem wpList_loadDm {ops : Array Oper} {rest : List Oper} {o : Oper} {a : Act} {w : World} {Q : Exit → Act → World → Prop} (hgd : Region.wanted o (yielded ops a.tmps) = true) (x : Operand) (ho : o.op = .load 52 x)
    (g k : Nat) (d : De) (hx : a.eval x = .pointer (some ⟨g, k, none⟩)) (hg : w.rangeAt g k (dec d).toList) (h : wpList Try.prog ops Q rest (a.put o.dst (.agg (dec d))) w) : wpList Try.prog ops Q (o :: rest) a w := by
  refine wpList_step fun K hK => ?_
  rw [if_pos hgd]
  refine wp_load_mid 52 x ho g k hx (dec d).toList _ hg Try.underlying52 rfl deSinfo ?_
  exact hK _ _ h
set_option maxRecDepth 100000 in
theorem wpList_storeDm {ops : Array Oper} {rest : List Oper} {o : Oper} {a : Act} {w : World} {Q : Exit → Act → World → Prop} (hgd : o.guard = none) (hd : o.dst = none) (x y : Operand) (ho : o.op = .store 52 x y)
    (g : Nat) (p q : De) (hx : a.eval x = .pointer (some ⟨g, 0, none⟩)) (hy : a.eval y = .agg (dec q)) (hg : Cs w g 52 (dec p))
    (h : ∀ w', Cs w' g 52 (dec q) → w.grownBy w' (some g) → wpList Try.prog ops Q rest a w') : wpList Try.prog ops Q (o :: rest) a w := by
  have h' : ∀ w', Cs w' g 52 (dec q) → w.grownBy w' (some g) → wpList Try.prog ops Q rest (a.put o.dst undef) w' := by rw [hd]; exact h
  refine wpList_store_row hgd 52 x y ho g (dec q) hx hy 52 (dec p) hg deSinfo rfl (dec_one q) (h' _ ?_ ?_)
  · exact setRow_heap w g _ _ 52 (0, 0) hg
  · exact ⟨rfl, rfl, rfl, by simp [World.setRow], fun k _ hk => setRow_other w g k _ (fun e => hk (by simp [e]))⟩
def XvJ (w W : World) (a s p : Value) (x : Ax) : Prop := AxR w a s p x ∨ RetX w.heap.size W (.agg #[a, s, p]) x
set_option maxRecDepth 100000 in
theorem RetX.rowsS {lo : Nat} {W : World} {a s p : Value} {x : Ax} (h : RetX lo W (.agg #[a, s, p]) x) : AxR W a s p x := by
  obtain ⟨a', s', p', e, hx, _, _, _⟩ := h.ax
  injection e with e
  have e := congrArg Array.toList e
  simp only at e
  injection e with e1 e
  injection e with e2 e
  injection e with e3 _
  subst e1 e2 e3
  exact hx
set_option maxRecDepth 100000 in
theorem XvJ.rows {w W : World} {a s p : Value} {x : Ax} (h : XvJ w W a s p x) (he : Ext w W) : AxR W a s p x := h.elim (fun h => h.ext he) (fun h => h.rowsS)
set_option maxRecDepth 100000 in
theorem AxR.one {W : World} {a s p : Value} {x : Ax} (h : AxR W a s p x) : a.oneCell' = true ∧ s.oneCell' = true ∧ p.oneCell' = true := by
  obtain ⟨A1, c1, e1, _, _⟩ := h.1.len
  obtain ⟨A2, c2, e2, _, _⟩ := h.2.1.len
  obtain ⟨A3, c3, e3, _, _⟩ := h.2.2.len
  subst e1 e2 e3
  exact ⟨rfl, rfl, rfl⟩
set_option maxRecDepth 100000 in
theorem des_came {H : Type} {enc : TypeId × Value → H} {W : World} {v : Value} {d : DataW H} {p : List MemPlace}
    (h : DataW.Trod enc Try.prog W 0 (fun _ => true) true 50 v d p) (hv : v.cells.toList = [v]) : ∃ l : List De, Des W v l := by
  obtain ⟨fuel, hf⟩ := h
  obtain ⟨s, l, hc, hl⟩ := slice_came (α := De) (s := 10) Try.underlying50 (by kernel_rfl) (by decide) DER (fun _ _ _ h => deedX_trod h) hf
  rw [hv] at hc
  injection hc with hc _
  rw [hc]
  exact ⟨l, hl⟩
end Go.Proofs.Ytjampleddeidaaa
