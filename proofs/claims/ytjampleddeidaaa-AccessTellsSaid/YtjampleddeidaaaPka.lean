/- Package pack: parts in memory; mayBe, Check, filled, number. What is read in blocks of the call's own alone: it stays whatever becomes of older ones. Rows of the call's own, of elements that point to more. No program's number is named here. A slice of one element of whatever size is built. No program's number is named here. A word that came in, as cells. -/
import Derived.Test.YtjampleddeidaaaByt
import Derived.Test.YtjampleddeidaaaWrl
import Derived.Test.YtjampleddeidaaaWri
import Derived.Deep.MidRow
import Derived.Deep.Cut
import Derived.Test.YtjampleddeidaaaWra
import Derived.Deep.Strs
namespace Go.Proofs.Ytjampleddeidaaa
open Go.RowKit Go.Shelf

/-! ### Parts -/
/-- A part: is it Long, its word, its bytes. -/
abbrev Pt := Bool × Nat × List UInt8
/-- Its cells; u is where its bytes are. -/
def ptc (p : Pt) (u : Value) : Array Value := #[.bool p.1, lv (lb p.2.1 0), lv (lb p.2.1 1), lv (lb p.2.1 2), lv (lb p.2.1 3), u]
/-- The cells cs read as the part p. -/
def PtR (W : World) (cs : List Value) (p : Pt) : Prop := p.2.1 < M256 ∧ ∃ u, cs = (ptc p u).toList ∧ Bs W u p.2.2
/-- A value that is a part. -/
def PtV (W : World) (v : Value) (p : Pt) : Prop := p.2.1 < M256 ∧ ∃ u, v = .agg (ptc p u) ∧ Bs W u p.2.2
/-- The slice v reads as the parts l. -/
def Pts (W : World) (v : Value) (l : List Pt) : Prop := Sl W 6 (PtR W) v l
set_option maxRecDepth 100000 in
theorem PtR.ext {W W' : World} {cs : List Value} {p : Pt} (h : PtR W cs p) (he : Ext W W') : PtR W' cs p := by
  obtain ⟨h0, u, e, hb⟩ := h
  exact ⟨h0, u, e, hb.ext he⟩
set_option maxRecDepth 100000 in
theorem Pts.ext {W W' : World} {v : Value} {l : List Pt} (h : Pts W v l) (he : Ext W W') : Pts W' v l :=
  Sl.mono h (fun _ _ hc => he.cell hc) fun _ _ h => h.ext he
set_option maxRecDepth 100000 in
theorem PtV.ext {W W' : World} {v : Value} {p : Pt} (h : PtV W v p) (he : Ext W W') : PtV W' v p := by
  obtain ⟨h0, u, e, hb⟩ := h
  exact ⟨h0, u, e, hb.ext he⟩
set_option maxRecDepth 100000 in
theorem Pts.len {W : World} {v : Value} {l : List Pt} (h : Pts W v l) : ∃ A c, v = .slice A l.length c ∧ l.length ≤ c ∧ c ≤ maxLen := by
  obtain ⟨A, c, e, h1, h2, _⟩ := h
  exact ⟨A, c, e, h1, h2⟩
set_option maxRecDepth 100000 in
theorem Pts.at {W : World} {A : Option Addr} {n c : Nat} {l : List Pt} (h : Pts W (.slice A n c) l) (i : Nat) (hi : i < l.length) : ∃ b o u, A = some ⟨b, o, none⟩ ∧ W.rangeAt b (o + i * 6) (ptc (l.getD i (false, 0, [])) u).toList ∧ Bs W u (l.getD i (false, 0, [])).2.2 ∧ (l.getD i (false, 0, [])).2.1 < M256 := by
  obtain ⟨A', c', e, _, _, h3⟩ := h
  injection e with e1 e2 e3
  subst e1
  obtain ⟨b, o, rfl, hc⟩ := h3 (by omega)
  obtain ⟨cs, _, ⟨k0, u, rfl, k2⟩, k3⟩ := hc i _ (List.getElem?_eq_getElem hi)
  have e : l.getD i (false, 0, []) = l[i] := by simp [List.getD, List.getElem?_eq_getElem hi]
  rw [e]
  exact ⟨b, o, u, rfl, k3, k2, k0⟩
set_option maxRecDepth 100000 in
theorem ptc_one (p : Pt) (u : Value) (hu : u.oneCell' = true) : (ptc p u).all (·.oneCell') = true := by simpa [ptc, lv, Value.oneCell'] using hu
set_option maxRecDepth 100000 in
theorem bs_one {W : World} {u : Value} {l : List UInt8} (h : Bs W u l) : u.oneCell' = true := by
  obtain ⟨A, c, rfl, _⟩ := h
  rfl
set_option maxRecDepth 100000 in
theorem wpList_load_wordIn {ops : Array Oper} {rest : List Oper} {o : Oper} {a : Act} {w : World} {Q : Exit → Act → World → Prop} (hgd : Region.wanted o (yielded ops a.tmps) = true) (x : Operand) (ho : o.op = .load 30 x)
    (g k n : Nat) (hx : a.eval x = .pointer (some ⟨g, k, none⟩)) (hg : w.rangeAt g k (wc n).toList) (h : wpList Try.prog ops Q rest (a.put o.dst (wv n)) w) : wpList Try.prog ops Q (o :: rest) a w := by
  refine wpList_step fun K hK => ?_
  rw [if_pos hgd]
  refine wp_load_mid 30 x ho g k hx (wc n).toList _ hg Try.underlying30 rfl winfo ?_
  exact hK _ _ h
/-- A block of a part that is nothing yet. -/
def pz : Array Value := #[.bool false, .int .u64 0, .int .u64 0, .int .u64 0, .int .u64 0, .slice none 0 0]

/-! ### filled, number -/
/-- With the noughts behind them. -/
def flN (n : Nat) : Nat := (n + 31) / 32 * 32
/-- The bytes of a number's word. -/
def nbL (n : Nat) : List UInt8 := bytL n (List.range 32)
set_option maxRecDepth 100000 in
theorem nbL_len (n : Nat) : (nbL n).length = 32 := by simp [nbL, bytL_len]
def mayB (p : Pt) : Bool := if p.1 then decide (p.2.1 = 0) && decide (p.2.2.length ≤ 200) else decide (p.2.2.length = 0)
/-- What Check answers. -/
def errP (l : List Pt) : Int := if 16 < l.length then 3 else if l.all mayB then 0 else 140
set_option maxRecDepth 100000 in
theorem errP_stop (l : List Pt) (k : Nat) (hl : ¬ 16 < l.length) (hk : k < l.length) (h : mayB (l.getD k (false, 0, [])) = false) : errP l = 140 := by
  unfold errP
  rw [if_neg hl, if_neg]
  intro e
  have h2 := List.all_eq_true.1 e (l.getD k (false, 0, [])) (by simp [List.getD, hk])
  rw [h] at h2
  cases h2
set_option maxRecDepth 100000 in
theorem errP_done (l : List Pt) (hl : ¬ 16 < l.length) (h : ∀ k, k < l.length → mayB (l.getD k (false, 0, [])) = true) : errP l = 0 := by
  unfold errP
  rw [if_neg hl, if_pos]
  rw [List.all_eq_true]
  intro p hp
  obtain ⟨i, hi, rfl⟩ := List.getElem_of_mem hp
  have := h i hi
  simpa [List.getD, hi] using this
end Go.Proofs.Ytjampleddeidaaa
namespace Go.Proofs.Ytjampleddeidaaa
open Go.RowKit

/-- What φ says of memory hangs on blocks from lo on alone, and on none of X. -/
def Far (lo : Nat) (X : Nat → Prop) (W : World) (φ : World → Prop) : Prop :=
  ∀ W' : World, W.heap.size ≤ W'.heap.size → (∀ g, lo ≤ g → g < W.heap.size → ¬ X g → W'.heap[g]? = W.heap[g]?) → φ W'
/-- No block. -/
def No : Nat → Prop := fun _ => False
/-- The block of a slice. -/
def Bk (v : Value) : Nat → Prop := fun g => v.ownBlock = some g
/-- One or the other. -/
def Or2 (X Y : Nat → Prop) : Nat → Prop := fun g => X g ∨ Y g
set_option maxRecDepth 100000 in
theorem Far.here {lo : Nat} {X : Nat → Prop} {W : World} {φ : World → Prop} (h : Far lo X W φ) : φ W := h W (Nat.le_refl _) (fun _ _ _ _ => rfl)
set_option maxRecDepth 100000 in
theorem Far.step {lo : Nat} {X X' : Nat → Prop} {W W' : World} {φ : World → Prop} {r : Option Nat} (h : Far lo X W φ) (hg : W.grownBy W' r) (hr : ∀ g, r = some g → lo ≤ g → g < W.heap.size → X g) (hX : ∀ g, X' g → X g ∨ W.heap.size ≤ g) : Far lo X' W' φ := by
  intro W2 hs ha
  refine h W2 (Nat.le_trans hg.size hs) fun g hlo hlt hx => ?_
  rw [ha g hlo (Nat.lt_of_lt_of_le hlt hg.size) (fun hx' => (hX g hx').elim hx (fun h => by omega))]
  exact hg.block g hlt (fun e => hx (hr g e.symm hlo hlt))
set_option maxRecDepth 100000 in
theorem Far.ext {lo : Nat} {X : Nat → Prop} {W W' : World} {φ : World → Prop} (h : Far lo X W φ) (he : Ext W W') : Far lo X W' φ :=
  h.step (grown_of_ext he none) (fun _ e => by cases e) (fun _ hx => .inl hx)
set_option maxRecDepth 100000 in
/-- A block is written that counts for nothing. -/
theorem Far.old {lo : Nat} {X : Nat → Prop} {W W' : World} {φ : World → Prop} {g : Nat} (h : Far lo X W φ) (hg : W.grownBy W' (some g)) (hl : g < lo ∨ X g ∨ W.heap.size ≤ g) : Far lo X W' φ :=
  h.step hg (fun g' e hlo hlt => by injection e with e; subst e; rcases hl with h | h | h; omega; exact h; omega) (fun _ hx => .inl hx)
set_option maxRecDepth 100000 in
theorem Far.less {lo : Nat} {X X' : Nat → Prop} {W : World} {φ : World → Prop} (h : Far lo X W φ) (hX : ∀ g, X' g → X g ∨ g < lo ∨ W.heap.size ≤ g) : Far lo X' W φ :=
  fun W' hs ha => h W' hs fun g hlo hlt hx => ha g hlo hlt (fun hx' => by rcases hX g hx' with h | h | h; exact hx h; omega; omega)
set_option maxRecDepth 100000 in
theorem Far.low {lo lo' : Nat} {X : Nat → Prop} {W : World} {φ : World → Prop} (h : Far lo X W φ) (hl : lo' ≤ lo) : Far lo' X W φ :=
  fun W' hs ha => h W' hs fun g hlo hlt hx => ha g (Nat.le_trans hl hlo) hlt hx
set_option maxRecDepth 100000 in
theorem Far.imp {lo : Nat} {X : Nat → Prop} {W : World} {φ ψ : World → Prop} (h : Far lo X W φ) (hi : ∀ W', φ W' → ψ W') : Far lo X W ψ := fun W' hs ha => hi W' (h W' hs ha)
set_option maxRecDepth 100000 in
theorem Far.both {lo : Nat} {X : Nat → Prop} {W : World} {φ ψ : World → Prop} (h : Far lo X W φ) (k : Far lo X W ψ) : Far lo X W (fun W => φ W ∧ ψ W) := fun W' hs ha => ⟨h W' hs ha, k W' hs ha⟩
set_option maxRecDepth 100000 in
theorem Far.true (lo : Nat) (X : Nat → Prop) (W : World) {φ : World → Prop} (h : ∀ W', φ W') : Far lo X W φ := fun W' _ _ => h W'
set_option maxRecDepth 100000 in
theorem Far.none {lo : Nat} {X : Nat → Prop} {W : World} {φ : World → Prop} (h : Far lo X W φ) : Far lo No W φ := h.less (fun _ hx => hx.elim)

set_option maxRecDepth 100000 in
/-- A row of the call's own. -/
theorem own_far {lo s n : Nat} {X : Nat → Prop} {W : World} {e : TypeId} {v : Value} {cs : List Value} (h : W.ownsRow lo e s v n cs) (hX : ∀ g, v.ownBlock = some g → ¬ X g) : Far lo X W (fun W => W.ownsRow lo e s v n cs) := by
  intro W' hs ha
  obtain ⟨h1, h2⟩ := h
  refine ⟨h1, ?_⟩
  rcases h2 with h2 | ⟨g, cap, cur, rfl, e2, hg, rest⟩
  · exact .inl h2
  · refine .inr ⟨g, cap, cur, rfl, e2, ?_, rest⟩
    rw [ha g e2 (Array.getElem?_eq_some_iff.1 hg).1 (hX g rfl)]
    exact hg
set_option maxRecDepth 100000 in
theorem Own.far {lo : Nat} {X : Nat → Prop} {W : World} {e : TypeId} {v : Value} {l : List UInt8} (h : Own W lo e v l) (hX : ∀ g, v.ownBlock = some g → ¬ X g) : Far lo X W (fun W => Bs W v l) :=
  (own_far h hX).imp fun _ h => Own.bs h

/-! ### Rows of the call's own whose elements may point to more -/
def RowO {α : Type} (E : TypeId) (s : Nat) (Rd : World → List Value → α → Prop) (X : Nat → Prop) (lo : Nat) (W : World) (v : Value) (l : List α) : Prop :=
  ∃ css : List (List Value), css.length = l.length ∧ (∀ cs ∈ css, cs.length = s) ∧ W.ownsRow lo E s v l.length css.flatten ∧ ∀ (i : Nat) cs x, css[i]? = some cs → l[i]? = some x → Far lo (Or2 X (Bk v)) W (fun W => Rd W cs x)

set_option maxRecDepth 100000 in
theorem RowO.nil {α : Type} (E : TypeId) (s : Nat) (Rd : World → List Value → α → Prop) (X : Nat → Prop) (lo : Nat) (W : World) : RowO E s Rd X lo W (.slice none 0 0) [] :=
  ⟨[], rfl, by simp, World.ownsRow_nil _ _ _ _, fun i cs x h => by simp at h⟩
set_option maxRecDepth 100000 in
theorem RowO.of_empty {α : Type} {E : TypeId} {s lo : Nat} {Rd : World → List Value → α → Prop} {X : Nat → Prop} {W : World} {v : Value} (h : W.ownsRow lo E s v 0 []) : RowO E s Rd X lo W v [] :=
  ⟨[], rfl, by simp, h, fun i cs x h => by simp at h⟩
set_option maxRecDepth 100000 in
theorem RowO.own {α : Type} {E : TypeId} {s lo : Nat} {Rd : World → List Value → α → Prop} {X : Nat → Prop} {W : World} {v : Value} {l : List α} (h : RowO E s Rd X lo W v l) : ∃ cs, W.ownsRow lo E s v l.length cs := by
  obtain ⟨css, _, _, h3, _⟩ := h
  exact ⟨_, h3⟩
set_option maxRecDepth 100000 in
theorem RowO.lt {α : Type} {E : TypeId} {s lo : Nat} {Rd : World → List Value → α → Prop} {X : Nat → Prop} {W : World} {v : Value} {l : List α} (h : RowO E s Rd X lo W v l) (g : Nat) (hg : v.ownBlock = some g) : lo ≤ g ∧ g < W.heap.size := by
  obtain ⟨cs, h⟩ := h.own
  exact h.lt g hg
set_option maxRecDepth 100000 in
theorem RowO.step {α : Type} {E : TypeId} {s lo : Nat} {Rd : World → List Value → α → Prop} {X X' : Nat → Prop} {W W' : World} {v : Value} {l : List α} {r : Option Nat} (h : RowO E s Rd X lo W v l) (hg : W.grownBy W' r)
    (hr : ∀ g, r = some g → lo ≤ g → g < W.heap.size → X g) (hv : ∀ g, r = some g → v.ownBlock ≠ some g) (hX : ∀ g, X' g → X g ∨ W.heap.size ≤ g) : RowO E s Rd X' lo W' v l := by
  obtain ⟨css, h1, h2, h3, h4⟩ := h
  refine ⟨css, h1, h2, World.ownsRow.kept h3 hg ?_, fun i cs x hc hx => (h4 i cs x hc hx).step hg (fun g e hlo hlt => .inl (hr g e hlo hlt)) (fun g hx => ?_)⟩
  · cases r with
    | none =>
      cases hb : v.ownBlock with
      | none => exact .inl rfl
      | some k => exact .inr (by simp)
    | some k => exact .inr (hv k rfl)
  · rcases hx with hx | hx
    · exact (hX g hx).elim (fun h => .inl (.inl h)) .inr
    · exact .inl (.inr hx)
set_option maxRecDepth 100000 in
theorem RowO.ext {α : Type} {E : TypeId} {s lo : Nat} {Rd : World → List Value → α → Prop} {X : Nat → Prop} {W W' : World} {v : Value} {l : List α} (h : RowO E s Rd X lo W v l) (he : Ext W W') : RowO E s Rd X lo W' v l :=
  h.step (grown_of_ext he none) (fun _ e => by cases e) (fun _ e => by cases e) (fun _ hx => .inl hx)
set_option maxRecDepth 100000 in
theorem RowO.old {α : Type} {E : TypeId} {s lo : Nat} {Rd : World → List Value → α → Prop} {X : Nat → Prop} {W W' : World} {v : Value} {l : List α} {g : Nat} (h : RowO E s Rd X lo W v l) (hg : W.grownBy W' (some g)) (hl : g < lo ∨ X g ∨ W.heap.size ≤ g) (hv : v.ownBlock ≠ some g) : RowO E s Rd X lo W' v l :=
  h.step hg (fun g' e hlo hlt => by injection e with e; subst e; rcases hl with h | h | h; omega; exact h; omega) (fun g' e => by injection e with e; subst e; exact hv) (fun _ hx => .inl hx)
set_option maxRecDepth 100000 in
theorem RowO.low {α : Type} {E : TypeId} {s lo lo' : Nat} {Rd : World → List Value → α → Prop} {X : Nat → Prop} {W : World} {v : Value} {l : List α} (h : RowO E s Rd X lo W v l) (hl : lo' ≤ lo) : RowO E s Rd X lo' W v l := by
  obtain ⟨css, h1, h2, h3, h4⟩ := h
  exact ⟨css, h1, h2, own_mono h3 hl, fun i cs x hc hx => (h4 i cs x hc hx).low hl⟩
set_option maxRecDepth 100000 in
theorem RowO.less {α : Type} {E : TypeId} {s lo : Nat} {Rd : World → List Value → α → Prop} {X X' : Nat → Prop} {W : World} {v : Value} {l : List α} (h : RowO E s Rd X lo W v l) (hX : ∀ g, X' g → X g ∨ g < lo ∨ W.heap.size ≤ g) : RowO E s Rd X' lo W v l := by
  obtain ⟨css, h1, h2, h3, h4⟩ := h
  refine ⟨css, h1, h2, h3, fun i cs x hc hx => (h4 i cs x hc hx).less fun g hg => ?_⟩
  rcases hg with hg | hg
  · exact (hX g hg).elim (fun h => .inl (.inl h)) .inr
  · exact .inl (.inr hg)

set_option maxRecDepth 100000 in
theorem flat_get {s : Nat} (css : List (List Value)) (hs : ∀ cs ∈ css, cs.length = s) (i : Nat) (cs : List Value) (hc : css[i]? = some cs) (j : Nat) (u : Value) (hu : cs[j]? = some u) : css.flatten[i * s + j]? = some u := by
  induction css generalizing i with
  | nil => simp at hc
  | cons c css ih =>
    have hcl := hs c List.mem_cons_self
    cases i with
    | zero =>
      simp at hc
      subst hc
      rw [List.flatten_cons, Nat.zero_mul, Nat.zero_add, List.getElem?_append_left (List.getElem?_eq_some_iff.1 hu).1]
      exact hu
    | succ i =>
      have := ih (fun x hx => hs x (List.mem_cons_of_mem _ hx)) i (by simpa using hc)
      rw [List.flatten_cons, Nat.succ_mul, List.getElem?_append_right (by omega), hcl, ← this]
      congr 1
      omega
set_option maxRecDepth 100000 in
theorem flat_len {s : Nat} (css : List (List Value)) (hs : ∀ cs ∈ css, cs.length = s) : css.flatten.length = css.length * s := by
  induction css with
  | nil => simp
  | cons c css ih => rw [List.flatten_cons, List.length_append, hs c List.mem_cons_self, ih (fun x hx => hs x (List.mem_cons_of_mem _ hx)), List.length_cons, Nat.succ_mul, Nat.add_comm]
set_option maxRecDepth 100000 in
/-- What such a row reads as. -/
theorem RowO.sl {α : Type} {E : TypeId} {s lo : Nat} {Rd : World → List Value → α → Prop} {X : Nat → Prop} {W : World} {v : Value} {l : List α} (h : RowO E s Rd X lo W v l) : Sl W s (Rd W) v l := by
  obtain ⟨css, h1, h2, h3, h4⟩ := h
  obtain ⟨h5, A, c, e, k1, k2, k3⟩ := Rs.of_own h3
  refine ⟨A, c, e, k1, k2, fun hp => ?_⟩
  obtain ⟨b, o, ea, hc⟩ := k3 hp
  refine ⟨b, o, ea, fun i x hx => ?_⟩
  have hi : i < css.length := by rw [h1]; exact (List.getElem?_eq_some_iff.1 hx).1
  have hcs : css[i]? = some css[i] := List.getElem?_eq_getElem hi
  refine ⟨css[i], h2 _ (List.getElem_mem hi), (h4 i _ x hcs hx).here, fun j u hu => ?_⟩
  have := hc (i * s + j) u (flat_get css h2 i _ hcs j u hu)
  rwa [← Nat.add_assoc] at this
set_option maxRecDepth 100000 in
theorem RowO.far {α : Type} {E : TypeId} {s lo : Nat} {Rd : World → List Value → α → Prop} {X : Nat → Prop} {W : World} {v : Value} {l : List α} (h : RowO E s Rd X lo W v l) (Y : Nat → Prop) (hY : ∀ g, Y g → X g) (hv : ∀ g, v.ownBlock = some g → ¬ Y g) : Far lo Y W (fun W => Sl W s (Rd W) v l) := by
  obtain ⟨css, h1, h2, h3, h4⟩ := h
  intro W' hs ha
  have h3' := own_far h3 hv W' hs ha
  refine RowO.sl (E := E) (X := No) (lo := lo) ⟨css, h1, h2, h3', fun i cs x hc hx W2 hs2 ha2 => ?_⟩
  refine h4 i cs x hc hx W2 (Nat.le_trans hs hs2) fun g hlo hlt hn => ?_
  rw [ha2 g hlo (Nat.lt_of_lt_of_le hlt hs) (fun hx => by rcases hx with hx | hx; exact hx.elim; exact hn (.inr hx))]
  exact ha g hlo hlt (fun hy => hn (.inl (hY g hy)))
set_option maxRecDepth 100000 in
theorem RowO.farNo {α : Type} {E : TypeId} {s lo : Nat} {Rd : World → List Value → α → Prop} {X : Nat → Prop} {W : World} {v : Value} {l : List α} (h : RowO E s Rd X lo W v l) : Far lo No W (fun W => Sl W s (Rd W) v l) :=
  h.far No (fun _ h => h.elim) (fun _ _ h => h)

set_option maxRecDepth 100000 in
/-- append(v, src...), v such a row: the run. -/
theorem run_append_rowO {α : Type} {P : Program} {w : World} (t ty : TypeId) (lo : Nat) (E : TypeId) (ht : P.underlying t = some (.slice E)) (z : Value) (s bytes : Nat)
    (hinfo : (P.info? E).map (fun i => (i.zero, i.size, i.bytes)) = some (some z, s, bytes)) (hzs : z.cells.size = s) (hsz : 0 < s) (Rd : World → List Value → α → Prop) (X : Nat → Prop)
    (v : Value) (l : List α) (hrow : RowO E s Rd X lo w v l) (sv : Value) (css : List (List Value)) (l2 : List α) (hl2 : css.length = l2.length) (hcs : ∀ cs ∈ css, cs.length = s) (hb : Rs w s sv l2.length css.flatten) (h1c : ∀ u ∈ css.flatten, u.oneCell' = true)
    (hfar : ∀ (i : Nat) cs x, css[i]? = some cs → l2[i]? = some x → Far lo (Or2 X (Bk v)) w (fun W => Rd W cs x)) (hlen : l.length + l2.length ≤ 1099511627776) (hby : bytes ≤ 128) (hbase : lo ≤ w.heap.size) :
    ∃ v' w', (Builtin.append_ #[t, t] ty #[v, sv]).run P w = .ok v' w' ∧ RowO E s Rd X lo w' v' (l ++ l2) ∧ w.grownBy w' v.ownBlock ∧ (v'.ownBlock = v.ownBlock ∨ v'.ownBlock = some w.heap.size) := by
  obtain ⟨css0, h1, h2, h3, h4⟩ := hrow
  obtain ⟨v', w', hr, ho, hg, hk⟩ := run_append_row t ty lo E ht z s bytes hinfo hzs hsz v l.length css0.flatten h3 sv l2.length css.flatten hb h1c hlen hby hbase
  have hst : ∀ (φ : World → Prop), Far lo (Or2 X (Bk v)) w φ → Far lo (Or2 X (Bk v')) w' φ := fun φ h => h.step hg (fun g e _ _ => .inr e) (fun g hx => by
    rcases hx with hx | hx
    · exact .inl (.inl hx)
    · rcases hk with hk | hk
      · exact .inl (.inr (by unfold Bk at hx ⊢; rw [← hk]; exact hx))
      · unfold Bk at hx
        rw [hk] at hx
        injection hx with hx
        exact .inr (by omega))
  refine ⟨v', w', hr, ⟨css0 ++ css, by simp [h1, hl2], fun cs hc => (List.mem_append.1 hc).elim (h2 cs) (hcs cs), by rw [List.length_append, List.flatten_append]; exact ho, fun i cs x hc hx => ?_⟩, hg, hk⟩
  by_cases hi : i < l.length
  · rw [List.getElem?_append_left (by omega)] at hc hx
    exact hst _ (h4 i cs x hc hx)
  · rw [List.getElem?_append_right (by omega)] at hc hx
    rw [h1] at hc
    exact hst _ (hfar _ cs x hc hx)
set_option maxRecDepth 100000 in
theorem wpList_append_rowO {α : Type} {P : Program} {w : World} {ops : Array Oper} {rest : List Oper} {o : Oper} {a : Act} {Q : Exit → Act → World → Prop} (hgd : Region.wanted o (yielded ops a.tmps) = true) (so x : Operand) (t : TypeId)
    (ho : o.op = .call { callee := .builtin .append, args := #[so, x], argTypes := #[t, t] }) (lo : Nat) (E : TypeId) (ht : P.underlying t = some (.slice E)) (z : Value) (s bytes : Nat)
    (hinfo : (P.info? E).map (fun i => (i.zero, i.size, i.bytes)) = some (some z, s, bytes)) (hzs : z.cells.size = s) (hsz : 0 < s) (Rd : World → List Value → α → Prop) (X : Nat → Prop)
    (v : Value) (l : List α) (hs : a.eval so = v) (hrow : RowO E s Rd X lo w v l) (sv : Value) (css : List (List Value)) (l2 : List α) (hx : a.eval x = sv) (hl2 : css.length = l2.length) (hcs : ∀ cs ∈ css, cs.length = s) (hb : Rs w s sv l2.length css.flatten) (h1c : ∀ u ∈ css.flatten, u.oneCell' = true)
    (hfar : ∀ (i : Nat) cs x, css[i]? = some cs → l2[i]? = some x → Far lo (Or2 X (Bk v)) w (fun W => Rd W cs x)) (hlen : l.length + l2.length ≤ 1099511627776) (hby : bytes ≤ 128) (hbase : lo ≤ w.heap.size)
    (hK : ∀ v' w', RowO E s Rd X lo w' v' (l ++ l2) → w.grownBy w' v.ownBlock → (v'.ownBlock = v.ownBlock ∨ v'.ownBlock = some w.heap.size) → wpList P ops Q rest (a.put o.dst v') w') :
    wpList P ops Q (o :: rest) a w := by
  obtain ⟨v', w', hr, h4, h5, h6⟩ := run_append_rowO t o.type lo E ht z s bytes hinfo hzs hsz Rd X v l hrow sv css l2 hl2 hcs hb h1c hfar hlen hby hbase
  refine wpList_step fun K hK' => ?_
  rw [if_pos hgd]
  unfold Oper.wp
  simp [execOp, ho, resolve, invoke, builtin, hs, hx, hr, Result.andThen]
  exact hK' _ _ (hK v' w' h4 h5 h6)
set_option maxRecDepth 100000 in
/-- append(v, x). -/
theorem wpList_append_one {α : Type} {P : Program} {w : World} {ops : Array Oper} {rest : List Oper} {o : Oper} {a : Act} {Q : Exit → Act → World → Prop} (hgd : Region.wanted o (yielded ops a.tmps) = true) (so x : Operand) (t : TypeId)
    (ho : o.op = .call { callee := .builtin .append, args := #[so, x], argTypes := #[t, t] }) (lo : Nat) (E : TypeId) (ht : P.underlying t = some (.slice E)) (z : Value) (s bytes : Nat)
    (hinfo : (P.info? E).map (fun i => (i.zero, i.size, i.bytes)) = some (some z, s, bytes)) (hzs : z.cells.size = s) (hsz : 0 < s) (Rd : World → List Value → α → Prop) (X : Nat → Prop)
    (v : Value) (l : List α) (hs : a.eval so = v) (hrow : RowO E s Rd X lo w v l) (g : Nat) (cs : List Value) (x0 : α) (hx : a.eval x = .slice (some ⟨g, 0, none⟩) 1 1) (hcs : cs.length = s) (hb : w.heap[g]? = some (.cells cs.toArray E (0, 0))) (h1c : ∀ u ∈ cs, u.oneCell' = true)
    (hfar : Far lo (Or2 X (Bk v)) w (fun W => Rd W cs x0)) (hlen : l.length + 1 ≤ 1099511627776) (hby : bytes ≤ 128) (hbase : lo ≤ w.heap.size)
    (hK : ∀ v' w', RowO E s Rd X lo w' v' (l ++ [x0]) → w.grownBy w' v.ownBlock → (v'.ownBlock = v.ownBlock ∨ v'.ownBlock = some w.heap.size) → wpList P ops Q rest (a.put o.dst v') w') :
    wpList P ops Q (o :: rest) a w := by
  refine wpList_append_rowO hgd so x t ho lo E ht z s bytes hinfo hzs hsz Rd X v l hs hrow _ [cs] [x0] hx rfl (by simp [hcs]) ⟨by simp [hcs], _, _, rfl, Nat.le_refl _, by unfold maxLen; omega, fun _ => ⟨g, 0, rfl, fun i u hu => ?_⟩⟩ (by simpa using h1c) (fun i c y hc hy => ?_) hlen hby hbase hK
  · rw [cell_of_row w g _ cs.toArray E (0, 0) hb, Nat.zero_add]
    simpa using hu
  · have : i = 0 := by
      have := (List.getElem?_eq_some_iff.1 hc).1
      simp at this
      exact this
    subst this
    simp at hc hy
    rw [← hc, ← hy]
    exact hfar
end Go.Proofs.Ytjampleddeidaaa
namespace Go.Proofs.Ytjampleddeidaaa
open Go.RowKit

set_option maxRecDepth 100000 in
theorem set_all (l : List Value) : ∀ (k : Nat) (base : Array Value) (i : Nat), ((l.zipIdx k).foldl (fun a (p : Value × Nat) => a.setIfInBounds p.2 p.1) base)[i]? = if k ≤ i ∧ i < k + l.length ∧ i < base.size then l[i - k]? else base[i]? := by
  induction l with
  | nil =>
    intro k base i
    simp
    intro h1 h2
    omega
  | cons c l ih =>
    intro k base i
    rw [List.zipIdx_cons, List.foldl_cons, ih]
    have hs : (base.setIfInBounds k c).size = base.size := by simp
    rw [hs]
    by_cases h2 : k + 1 ≤ i ∧ i < k + 1 + l.length ∧ i < base.size
    · rw [if_pos h2, if_pos (by simp; omega), show i - k = (i - (k + 1)) + 1 by omega]
      rfl
    · rw [if_neg h2]
      by_cases h1 : k = i
      · subst h1
        by_cases h3 : k < base.size
        · rw [if_pos (by simp; omega)]
          simp [h3]
        · rw [if_neg (by omega)]
          simp [h3]
      · rw [if_neg (by simp; omega), Array.getElem?_setIfInBounds]
        simp [h1]
set_option maxRecDepth 100000 in
theorem fill_one (cs base : Array Value) (h : base.size = cs.size) : cs.zipIdx.foldl (fun a (p : Value × Nat) => a.setIfInBounds p.2 p.1) base = cs := by
  apply Array.ext_getElem?
  intro i
  have := set_all cs.toList 0 base i
  have e : (cs.toList.zipIdx 0).foldl (fun a (p : Value × Nat) => a.setIfInBounds p.2 p.1) base = cs.zipIdx.foldl (fun a (p : Value × Nat) => a.setIfInBounds p.2 p.1) base := by
    rw [← Array.foldl_toList, Array.toList_zipIdx]
  rw [← e, this]
  by_cases hi : i < cs.size
  · rw [if_pos (by simp; omega)]
    simp
  · rw [if_neg (by simp; omega)]
    rw [Array.getElem?_eq_none (by omega), Array.getElem?_eq_none (by omega)]
set_option maxRecDepth 100000 in
theorem run_build_one {P : Program} {W : World} (T E : TypeId) (hT : P.underlying T = some (.slice E)) (z : Value) (s bytes : Nat) (hinfo : (P.info? E).map (fun i => (i.zero, i.size, i.bytes)) = some (some z, s, bytes)) (h0 : 0 < s) (hs : s ≤ 1000) (cs : Array Value) (hcs : cs.size = s) :
    (Instr.buildSlice T 1 #[(0, .agg cs)]).run P W = .ok (.slice (some ⟨W.heap.size, 0, none⟩) 1 1) (W.alloc (.cells cs E)) := by
  obtain ⟨i0, hi, hz0, hz1, hz2⟩ := info_parts hinfo
  have hb : ∀ base : Array Value, base.size = s → Array.foldl (fun a (p : Value × Nat) => a.setIfInBounds p.2 p.1) base cs.zipIdx 0 s = cs := fun base h => by
    have := fill_one cs base (by omega)
    simpa [hcs] using this
  have hn : ¬ s = 0 := by omega
  have hl : ¬ 16777216 < s := by omega
  unfold Instr.buildSlice
  simp [go_sem, run_underlying hT, sizeOf, typeInfo, zeroValue, hi, hz0, hz1, Instr.fill, hn, hl, Value.cells, hcs]
  rw [hb _ (by simp)]
set_option maxRecDepth 100000 in
/-- []T{x}. -/
theorem wpList_build_one {P : Program} {ops : Array Oper} {rest : List Oper} {o : Oper} {a : Act} {W : World} {Q : Exit → Act → World → Prop} (hgd : Region.wanted o (yielded ops a.tmps) = true) (x : Operand) (T E : TypeId) (ho : o.op = .buildSlice T 1 #[(0, x)])
    (hT : P.underlying T = some (.slice E)) (z : Value) (s bytes : Nat) (hinfo : (P.info? E).map (fun i => (i.zero, i.size, i.bytes)) = some (some z, s, bytes)) (h0 : 0 < s) (hs : s ≤ 1000) (cs : Array Value) (hcs : cs.size = s) (hx : a.eval x = .agg cs)
    (h : wpList P ops Q rest (a.put o.dst (.slice (some ⟨W.heap.size, 0, none⟩) 1 1)) (W.alloc (.cells cs E))) : wpList P ops Q (o :: rest) a W := by
  refine wpList_step fun K hK' => ?_
  rw [if_pos hgd]
  have hK := hK' _ _ h
  have hp : (#[(0, x)] : Array (Nat × Operand)).map (fun (i, x) => (i, a.eval x)) = #[(0, .agg cs)] := by simp [hx]
  have hrun : (execOp a.eval o).run P W = .ok (.value (.slice (some ⟨W.heap.size, 0, none⟩) 1 1)) (W.alloc (.cells cs E)) := by
    simp only [execOp, ho]
    rw [hp]
    have := run_build_one (P := P) (W := W) T E hT z s bytes hinfo h0 hs cs hcs
    generalize Instr.buildSlice T 1 #[(0, .agg cs)] = X at this ⊢
    simp [go_sem, this]
  unfold Oper.wp
  rw [hrun]
  exact hK
set_option maxRecDepth 100000 in
/-- A value of some cells is stored into a block of its type. -/
theorem wpList_store_agg {P : Program} {ops : Array Oper} {rest : List Oper} {o : Oper} {a : Act} {w : World} {Q : Exit → Act → World → Prop} (hgd : o.guard = none) (hd : o.dst = none) (ty : TypeId) (x y : Operand) (ho : o.op = .store ty x y) {s : Nat} (hi : (P.info? ty).map (·.size) = some s)
    (g : Nat) (old new : Array Value) (hone : new.all (·.oneCell') = true) (hx : a.eval x = .pointer (some ⟨g, 0, none⟩)) (hy : a.eval y = .agg new) (hg : Cs w g ty old) (hold : old.size = s) (hnew : new.size = s)
    (h : ∀ w', Cs w' g ty new → w.grownBy w' (some g) → wpList P ops Q rest a w') : wpList P ops Q (o :: rest) a w := by
  have h' : ∀ w', Cs w' g ty new → w.grownBy w' (some g) → wpList P ops Q rest (a.put o.dst undef) w' := by rw [hd]; exact h
  refine wpList_store_row hgd ty x y ho g new hx hy ty old hg (by rw [hi, hnew]) (by rw [hold, hnew]) hone (h' _ ?_ ?_)
  · exact setRow_heap w g _ _ ty (0, 0) hg
  · exact ⟨rfl, rfl, rfl, by simp [World.setRow], fun k _ hk => setRow_other w g k _ (fun e => hk (by simp [e]))⟩
end Go.Proofs.Ytjampleddeidaaa
namespace Go.Proofs.Ytjampleddeidaaa
open Go.ChangeShapes Go.WideShapes Go.ChangeAt Go.RowKit

set_option maxRecDepth 100000 in
theorem word_trod {H : Type} {enc : TypeId × Value → H} {W : World} {base fuel : Nat} {f : Nat → Bool} {b : Bool} {cs : List Value} {x : DataW H × List MemPlace} (h : DataW.trod enc Try.prog W base f b fuel 30 cs = some x) : ∃ z, z < M256 ∧ cs.length = 4 ∧ ∀ j, j < 4 → cs[j]? = some (.int .u64 (lb z j : Nat)) := by
  obtain ⟨xs, k, _, _, hlen, hxl, hel⟩ := DataW.trod_array Try.underlying30 h
  have hce : Try.prog.cellsOf 27 = 1 := by kernel_rfl
  have hC : Try.prog.cellsOf 30 = 4 := by kernel_rfl
  rw [hC] at hlen
  have ez : ∀ j, j < 4 → ∃ z : Nat, z < 18446744073709551616 ∧ cs[j]? = some (.int .u64 (z : Nat)) := by
    intro j hj
    have hh := hel j hj
    rw [hce, Nat.mul_one] at hh
    have hxj : xs[j]? = some (xs[j]'(by omega)) := List.getElem?_eq_getElem (by omega)
    rw [hxj] at hh
    obtain ⟨z, e0, _, wz⟩ := DataW.trod_int Try.underlying27 hh
    have hb : 0 ≤ z ∧ z ≤ 18446744073709551615 := by simpa [Lit.wf, IntKind.min, IntKind.max, IntKind.signed, IntKind.bits] using wz
    refine ⟨z.toNat, by omega, ?_⟩
    have e1 : (List.take 1 (List.drop j cs))[0]? = cs[j]? := by rw [List.getElem?_take, if_pos (by omega), List.getElem?_drop, Nat.add_zero]
    rw [e0] at e1
    rw [← e1, Int.toNat_of_nonneg hb.1]
    rfl
  obtain ⟨z0, b0, e0⟩ := ez 0 (by omega)
  obtain ⟨z1, b1, e1⟩ := ez 1 (by omega)
  obtain ⟨z2, b2, e2⟩ := ez 2 (by omega)
  obtain ⟨z3, b3, e3⟩ := ez 3 (by omega)
  obtain ⟨l0, l1, l2, l3⟩ := lb_ofL z0 z1 z2 z3 b0 b1 b2 b3
  refine ⟨ofL z0 z1 z2 z3, ofL_lt _ _ _ _ b0 b1 b2 b3, hlen, fun j hj => ?_⟩
  match j, hj with
  | 0, _ => rw [l0]; exact e0
  | 1, _ => rw [l1]; exact e1
  | 2, _ => rw [l2]; exact e2
  | 3, _ => rw [l3]; exact e3
set_option maxRecDepth 100000 in
theorem wc_list (z : Nat) (cs : List Value) (hl : cs.length = 4) (h : ∀ j, j < 4 → cs[j]? = some (.int .u64 (lb z j : Nat))) : cs = (wc z).toList := by
  apply List.ext_getElem?
  intro j
  by_cases hj : j < 4
  · rw [h j hj]
    have := wc_get z j hj
    rw [← Array.getElem?_toList] at this
    exact this.symm
  · rw [List.getElem?_eq_none (by omega), List.getElem?_eq_none (by simp [wc]; omega)]
end Go.Proofs.Ytjampleddeidaaa
