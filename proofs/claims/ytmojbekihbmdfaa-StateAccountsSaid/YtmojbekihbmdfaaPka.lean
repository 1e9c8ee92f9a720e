/- Package pack: parts in memory; mayBe, Check, filled, number. -/
import Derived.Test.YtmojbekihbmdfaaSlc
import Derived.Test.YtmojbekihbmdfaaWrl
import Derived.Test.YtmojbekihbmdfaaWri
import Derived.Deep.MidRow
import Derived.Deep.Cut
namespace Go.Proofs.Ytmojbekihbmdfaa
open Go.RowKit Go.Shelf

/-! ### Parts -/
/-- A part: is it Long, its word, its bytes. -/
abbrev Pt := Bool × Nat × List UInt8
/-- Its cells; u is where its bytes are. -/
def ptc (p : Pt) (u : Value) : Array Value := #[.bool p.1, lv (lb p.2.1 0), lv (lb p.2.1 1), lv (lb p.2.1 2), lv (lb p.2.1 3), u]
/-- The cells cs read as the part p. -/
def PtR (W : World) (cs : List Value) (p : Pt) : Prop := p.2.1 < M256 ∧ ∃ u, cs = (ptc p u).toList ∧ Bs W u p.2.2
/-- A value that is a part. -/
def PtV (W : World) (v : Value) (p : Pt) : Prop := p.2.1 < M256 ∧ ∃ u, v = .agg (ptc p u) ∧ Bs W u p.2.2
/-- The slice v reads as the parts l. -/
def Pts (W : World) (v : Value) (l : List Pt) : Prop := Sl W 6 (PtR W) v l
set_option maxRecDepth 100000 in
theorem PtR.ext {W W' : World} {cs : List Value} {p : Pt} (h : PtR W cs p) (he : Ext W W') : PtR W' cs p := by
  obtain ⟨h0, u, e, hb⟩ := h
  exact ⟨h0, u, e, hb.ext he⟩
set_option maxRecDepth 100000 in
theorem Pts.ext {W W' : World} {v : Value} {l : List Pt} (h : Pts W v l) (he : Ext W W') : Pts W' v l :=
  Sl.mono h (fun _ _ hc => he.cell hc) fun _ _ h => h.ext he
set_option maxRecDepth 100000 in
theorem PtV.ext {W W' : World} {v : Value} {p : Pt} (h : PtV W v p) (he : Ext W W') : PtV W' v p := by
  obtain ⟨h0, u, e, hb⟩ := h
  exact ⟨h0, u, e, hb.ext he⟩
set_option maxRecDepth 100000 in
theorem Pts.len {W : World} {v : Value} {l : List Pt} (h : Pts W v l) : ∃ A c, v = .slice A l.length c ∧ l.length ≤ c ∧ c ≤ maxLen := by
  obtain ⟨A, c, e, h1, h2, _⟩ := h
  exact ⟨A, c, e, h1, h2⟩
set_option maxRecDepth 100000 in
theorem Pts.at {W : World} {A : Option Addr} {n c : Nat} {l : List Pt} (h : Pts W (.slice A n c) l) (i : Nat) (hi : i < l.length) : ∃ b o u, A = some ⟨b, o, none⟩ ∧ W.rangeAt b (o + i * 6) (ptc (l.getD i (false, 0, [])) u).toList ∧ Bs W u (l.getD i (false, 0, [])).2.2 ∧ (l.getD i (false, 0, [])).2.1 < M256 := by
  obtain ⟨A', c', e, _, _, h3⟩ := h
  injection e with e1 e2 e3
  subst e1
  obtain ⟨b, o, rfl, hc⟩ := h3 (by omega)
  obtain ⟨cs, _, ⟨k0, u, rfl, k2⟩, k3⟩ := hc i _ (List.getElem?_eq_getElem hi)
  have e : l.getD i (false, 0, []) = l[i] := by simp [List.getD, List.getElem?_eq_getElem hi]
  rw [e]
  exact ⟨b, o, u, rfl, k3, k2, k0⟩
set_option maxRecDepth 100000 in
theorem ptc_one (p : Pt) (u : Value) (hu : u.oneCell' = true) : (ptc p u).all (·.oneCell') = true := by simpa [ptc, lv, Value.oneCell'] using hu
set_option maxRecDepth 100000 in
theorem bs_one {W : World} {u : Value} {l : List UInt8} (h : Bs W u l) : u.oneCell' = true := by
  obtain ⟨A, c, rfl, _⟩ := h
  rfl
set_option maxRecDepth 100000 in
theorem wpList_load_wordIn {ops : Array Oper} {rest : List Oper} {o : Oper} {a : Act} {w : World} {Q : Exit → Act → World → Prop} (hgd : Region.wanted o (yielded ops a.tmps) = true) (x : Operand) (ho : o.op = .load 31 x)
    (g k n : Nat) (hx : a.eval x = .pointer (some ⟨g, k, none⟩)) (hg : w.rangeAt g k (wc n).toList) (h : wpList Try.prog ops Q rest (a.put o.dst (wv n)) w) : wpList Try.prog ops Q (o :: rest) a w := by
  refine wpList_step fun K hK => ?_
  rw [if_pos hgd]
  refine wp_load_mid 31 x ho g k hx (wc n).toList _ hg Try.underlying31 rfl winfo ?_
  exact hK _ _ h
/-- A block of a part that is nothing yet. -/
def pz : Array Value := #[.bool false, .int .u64 0, .int .u64 0, .int .u64 0, .int .u64 0, .slice none 0 0]

/-! ### filled, number -/
/-- With the noughts behind them. -/
def flN (n : Nat) : Nat := (n + 31) / 32 * 32
/-- The bytes of a number's word. -/
def nbL (n : Nat) : List UInt8 := bytL n (List.range 32)
set_option maxRecDepth 100000 in
theorem nbL_len (n : Nat) : (nbL n).length = 32 := by simp [nbL, bytL_len]
def mayB (p : Pt) : Bool := if p.1 then decide (p.2.1 = 0) && decide (p.2.2.length ≤ 200) else decide (p.2.2.length = 0)
/-- What Check answers. -/
def errP (l : List Pt) : Int := if 16 < l.length then 3 else if l.all mayB then 0 else 140
set_option maxRecDepth 100000 in
theorem errP_stop (l : List Pt) (k : Nat) (hl : ¬ 16 < l.length) (hk : k < l.length) (h : mayB (l.getD k (false, 0, [])) = false) : errP l = 140 := by
  unfold errP
  rw [if_neg hl, if_neg]
  intro e
  have h2 := List.all_eq_true.1 e (l.getD k (false, 0, [])) (by simp [List.getD, hk])
  rw [h] at h2
  cases h2
set_option maxRecDepth 100000 in
theorem errP_done (l : List Pt) (hl : ¬ 16 < l.length) (h : ∀ k, k < l.length → mayB (l.getD k (false, 0, [])) = true) : errP l = 0 := by
  unfold errP
  rw [if_neg hl, if_pos]
  rw [List.all_eq_true]
  intro p hp
  obtain ⟨i, hi, rfl⟩ := List.getElem_of_mem hp
  have := h i hi
  simpa [List.getD, hi] using this
end Go.Proofs.Ytmojbekihbmdfaa
