/- Package pack: parts in memory; mayBe, Check, filled, number. What is read in blocks of the call's own alone: it stays whatever becomes of older ones. Rows of the call's own, of elements that point to more. No program's number is named here. A slice of one element of whatever size is built. No program's number is named here. A word that came in, as cells. -/
import Derived.Test.YtnjpdchmdimaaaaGreatQByt
import Derived.Test.YtnjpdchmdimaaaaGreatQInw
import Derived.Test.YtnjpdchmdimaaaaGreatQWri
import Derived.Deep.MidRow
import Derived.Deep.Cut
import Derived.Test.YtnjpdchmdimaaaaGreatQWra
import Derived.Deep.Strs
namespace Go.Proofs.YtnjpdchmdimaaaaGreat
open Go.RowKit Go.Shelf

abbrev Pt := Bool × Nat × List UInt8
theorem bs_one {W : World} {u : Value} {l : List UInt8} (h : Bs W u l) : u.oneCell' = true := by
 obtain ⟨A, c, rfl, _⟩ := h
 rfl
set_option maxRecDepth 100000 in
theorem wpList_load_wordIn {ops : Array Oper} {rest : List Oper} {o : Oper} {a : Act} {w : World} {Q : Exit → Act → World → Prop} (hgd : Region.wanted o (yielded ops a.tmps) = true) (x : Operand) (ho : o.op = .load 75 x)
  (g k n : Nat) (hx : a.eval x = .pointer (some ⟨g, k, none⟩)) (hg : w.rangeAt g k (wc n).toList) (h : wpList Tryz.prog ops Q rest (a.put o.dst (wv n)) w) : wpList Tryz.prog ops Q (o :: rest) a w := by
 refine wpList_step fun K hK => ?_
 rw [if_pos hgd]
 refine wp_load_mid 75 x ho g k hx (wc n).toList _ hg Tryz.underlying75 rfl winfo ?_
 exact hK _ _ h
def mayB (p : Pt) : Bool := if p.1 then decide (p.2.1 = 0) && decide (p.2.2.length ≤ 200) else decide (p.2.2.length = 0)
end Go.Proofs.YtnjpdchmdimaaaaGreat
namespace Go.Proofs.YtnjpdchmdimaaaaGreat
open Go.RowKit

def Far (lo : Nat) (X : Nat → Prop) (W : World) (φ : World → Prop) : Prop :=
 ∀ W' : World, W.heap.size ≤ W'.heap.size → (∀ g, lo ≤ g → g < W.heap.size → ¬ X g → W'.heap[g]? = W.heap[g]?) → φ W'
def No : Nat → Prop := fun _ => False
def Bk (v : Value) : Nat → Prop := fun g => v.ownBlock = some g
def Or2 (X Y : Nat → Prop) : Nat → Prop := fun g => X g ∨ Y g
theorem Far.here {lo : Nat} {X : Nat → Prop} {W : World} {φ : World → Prop} (h : Far lo X W φ) : φ W := h W (Nat.le_refl _) (fun _ _ _ _ => rfl)
theorem Far.step {lo : Nat} {X X' : Nat → Prop} {W W' : World} {φ : World → Prop} {r : Option Nat} (h : Far lo X W φ) (hg : W.grownBy W' r) (hr : ∀ g, r = some g → lo ≤ g → g < W.heap.size → X g) (hX : ∀ g, X' g → X g ∨ W.heap.size ≤ g) : Far lo X' W' φ := by
 intro W2 hs ha
 refine h W2 (Nat.le_trans hg.size hs) fun g hlo hlt hx => ?_
 rw [ha g hlo (Nat.lt_of_lt_of_le hlt hg.size) (fun hx' => (hX g hx').elim hx (fun h => by omega))]
 exact hg.block g hlt (fun e => hx (hr g e.symm hlo hlt))
theorem Far.ext {lo : Nat} {X : Nat → Prop} {W W' : World} {φ : World → Prop} (h : Far lo X W φ) (he : Ext W W') : Far lo X W' φ :=
 h.step (grown_of_ext he none) (fun _ e => by cases e) (fun _ hx => .inl hx)
theorem Far.old {lo : Nat} {X : Nat → Prop} {W W' : World} {φ : World → Prop} {g : Nat} (h : Far lo X W φ) (hg : W.grownBy W' (some g)) (hl : g < lo ∨ X g ∨ W.heap.size ≤ g) : Far lo X W' φ :=
 h.step hg (fun g' e hlo hlt => by injection e with e; subst e; rcases hl with h | h | h; omega; exact h; omega) (fun _ hx => .inl hx)
theorem Far.less {lo : Nat} {X X' : Nat → Prop} {W : World} {φ : World → Prop} (h : Far lo X W φ) (hX : ∀ g, X' g → X g ∨ g < lo ∨ W.heap.size ≤ g) : Far lo X' W φ :=
 fun W' hs ha => h W' hs fun g hlo hlt hx => ha g hlo hlt (fun hx' => by rcases hX g hx' with h | h | h; exact hx h; omega; omega)
theorem Far.low {lo lo' : Nat} {X : Nat → Prop} {W : World} {φ : World → Prop} (h : Far lo X W φ) (hl : lo' ≤ lo) : Far lo' X W φ :=
 fun W' hs ha => h W' hs fun g hlo hlt hx => ha g (Nat.le_trans hl hlo) hlt hx
theorem Far.imp {lo : Nat} {X : Nat → Prop} {W : World} {φ ψ : World → Prop} (h : Far lo X W φ) (hi : ∀ W', φ W' → ψ W') : Far lo X W ψ := fun W' hs ha => hi W' (h W' hs ha)
theorem Far.both {lo : Nat} {X : Nat → Prop} {W : World} {φ ψ : World → Prop} (h : Far lo X W φ) (k : Far lo X W ψ) : Far lo X W (fun W => φ W ∧ ψ W) := fun W' hs ha => ⟨h W' hs ha, k W' hs ha⟩
theorem Far.true (lo : Nat) (X : Nat → Prop) (W : World) {φ : World → Prop} (h : ∀ W', φ W') : Far lo X W φ := fun W' _ _ => h W'
theorem own_far {lo s n : Nat} {X : Nat → Prop} {W : World} {e : TypeId} {v : Value} {cs : List Value} (h : W.ownsRow lo e s v n cs) (hX : ∀ g, v.ownBlock = some g → ¬ X g) : Far lo X W (fun W => W.ownsRow lo e s v n cs) := by
 intro W' hs ha
 obtain ⟨h1, h2⟩ := h
 refine ⟨h1, ?_⟩
 rcases h2 with h2 | ⟨g, cap, cur, rfl, e2, hg, rest⟩
 ·exact .inl h2
 ·refine .inr ⟨g, cap, cur, rfl, e2, ?_, rest⟩
  rw [ha g e2 (Array.getElem?_eq_some_iff.1 hg).1 (hX g rfl)]
  exact hg
theorem Own.far {lo : Nat} {X : Nat → Prop} {W : World} {e : TypeId} {v : Value} {l : List UInt8} (h : Own W lo e v l) (hX : ∀ g, v.ownBlock = some g → ¬ X g) : Far lo X W (fun W => Bs W v l) :=
 (own_far h hX).imp fun _ h => Own.bs h

def RowO {α : Type} (E : TypeId) (s : Nat) (Rd : World → List Value → α → Prop) (X : Nat → Prop) (lo : Nat) (W : World) (v : Value) (l : List α) : Prop :=
 ∃ css : List (List Value), css.length = l.length ∧ (∀ cs ∈ css, cs.length = s) ∧ W.ownsRow lo E s v l.length css.flatten ∧ ∀ (i : Nat) cs x, css[i]? = some cs → l[i]? = some x → Far lo (Or2 X (Bk v)) W (fun W => Rd W cs x)

theorem RowO.nil {α : Type} (E : TypeId) (s : Nat) (Rd : World → List Value → α → Prop) (X : Nat → Prop) (lo : Nat) (W : World) : RowO E s Rd X lo W (.slice none 0 0) [] :=
 ⟨[], rfl, by simp, World.ownsRow_nil _ _ _ _, fun i cs x h => by simp at h⟩
theorem RowO.of_empty {α : Type} {E : TypeId} {s lo : Nat} {Rd : World → List Value → α → Prop} {X : Nat → Prop} {W : World} {v : Value} (h : W.ownsRow lo E s v 0 []) : RowO E s Rd X lo W v [] :=
 ⟨[], rfl, by simp, h, fun i cs x h => by simp at h⟩
theorem RowO.own {α : Type} {E : TypeId} {s lo : Nat} {Rd : World → List Value → α → Prop} {X : Nat → Prop} {W : World} {v : Value} {l : List α} (h : RowO E s Rd X lo W v l) : ∃ cs, W.ownsRow lo E s v l.length cs := by
 obtain ⟨css, _, _, h3, _⟩ := h
 exact ⟨_, h3⟩
theorem RowO.lt {α : Type} {E : TypeId} {s lo : Nat} {Rd : World → List Value → α → Prop} {X : Nat → Prop} {W : World} {v : Value} {l : List α} (h : RowO E s Rd X lo W v l) (g : Nat) (hg : v.ownBlock = some g) : lo ≤ g ∧ g < W.heap.size := by
 obtain ⟨cs, h⟩ := h.own
 exact h.lt g hg
theorem RowO.step {α : Type} {E : TypeId} {s lo : Nat} {Rd : World → List Value → α → Prop} {X X' : Nat → Prop} {W W' : World} {v : Value} {l : List α} {r : Option Nat} (h : RowO E s Rd X lo W v l) (hg : W.grownBy W' r)
  (hr : ∀ g, r = some g → lo ≤ g → g < W.heap.size → X g) (hv : ∀ g, r = some g → v.ownBlock ≠ some g) (hX : ∀ g, X' g → X g ∨ W.heap.size ≤ g) : RowO E s Rd X' lo W' v l := by
 obtain ⟨css, h1, h2, h3, h4⟩ := h
 refine ⟨css, h1, h2, World.ownsRow.kept h3 hg ?_, fun i cs x hc hx => (h4 i cs x hc hx).step hg (fun g e hlo hlt => .inl (hr g e hlo hlt)) (fun g hx => ?_)⟩
 ·cases r with
  | none =>
   cases hb : v.ownBlock with
   | none => exact .inl rfl
   | some k => exact .inr (by simp)
  | some k => exact .inr (hv k rfl)
 ·rcases hx with hx | hx
  ·exact (hX g hx).elim (fun h => .inl (.inl h)) .inr
  ·exact .inl (.inr hx)
theorem RowO.ext {α : Type} {E : TypeId} {s lo : Nat} {Rd : World → List Value → α → Prop} {X : Nat → Prop} {W W' : World} {v : Value} {l : List α} (h : RowO E s Rd X lo W v l) (he : Ext W W') : RowO E s Rd X lo W' v l :=
 h.step (grown_of_ext he none) (fun _ e => by cases e) (fun _ e => by cases e) (fun _ hx => .inl hx)
theorem RowO.old {α : Type} {E : TypeId} {s lo : Nat} {Rd : World → List Value → α → Prop} {X : Nat → Prop} {W W' : World} {v : Value} {l : List α} {g : Nat} (h : RowO E s Rd X lo W v l) (hg : W.grownBy W' (some g)) (hl : g < lo ∨ X g ∨ W.heap.size ≤ g) (hv : v.ownBlock ≠ some g) : RowO E s Rd X lo W' v l :=
 h.step hg (fun g' e hlo hlt => by injection e with e; subst e; rcases hl with h | h | h; omega; exact h; omega) (fun g' e => by injection e with e; subst e; exact hv) (fun _ hx => .inl hx)
theorem RowO.low {α : Type} {E : TypeId} {s lo lo' : Nat} {Rd : World → List Value → α → Prop} {X : Nat → Prop} {W : World} {v : Value} {l : List α} (h : RowO E s Rd X lo W v l) (hl : lo' ≤ lo) : RowO E s Rd X lo' W v l := by
 obtain ⟨css, h1, h2, h3, h4⟩ := h
 exact ⟨css, h1, h2, own_mono h3 hl, fun i cs x hc hx => (h4 i cs x hc hx).low hl⟩
theorem RowO.less {α : Type} {E : TypeId} {s lo : Nat} {Rd : World → List Value → α → Prop} {X X' : Nat → Prop} {W : World} {v : Value} {l : List α} (h : RowO E s Rd X lo W v l) (hX : ∀ g, X' g → X g ∨ g < lo ∨ W.heap.size ≤ g) : RowO E s Rd X' lo W v l := by
 obtain ⟨css, h1, h2, h3, h4⟩ := h
 refine ⟨css, h1, h2, h3, fun i cs x hc hx => (h4 i cs x hc hx).less fun g hg => ?_⟩
 rcases hg with hg | hg
 ·exact (hX g hg).elim (fun h => .inl (.inl h)) .inr
 ·exact .inl (.inr hg)

theorem flat_get {s : Nat} (css : List (List Value)) (hs : ∀ cs ∈ css, cs.length = s) (i : Nat) (cs : List Value) (hc : css[i]? = some cs) (j : Nat) (u : Value) (hu : cs[j]? = some u) : css.flatten[i * s + j]? = some u := by
 induction css generalizing i with
 | nil => simp at hc
 | cons c css ih =>
  have hcl := hs c List.mem_cons_self
  cases i with
  | zero =>
   simp at hc
   subst hc
   rw [List.flatten_cons, Nat.zero_mul, Nat.zero_add, List.getElem?_append_left (List.getElem?_eq_some_iff.1 hu).1]
   exact hu
  | succ i =>
   have := ih (fun x hx => hs x (List.mem_cons_of_mem _ hx)) i (by simpa using hc)
   rw [List.flatten_cons, Nat.succ_mul, List.getElem?_append_right (by omega), hcl, ← this]
   congr 1
   omega
theorem flat_len {s : Nat} (css : List (List Value)) (hs : ∀ cs ∈ css, cs.length = s) : css.flatten.length = css.length * s := by
 induction css with
 | nil => simp
 | cons c css ih => rw [List.flatten_cons, List.length_append, hs c List.mem_cons_self, ih (fun x hx => hs x (List.mem_cons_of_mem _ hx)), List.length_cons, Nat.succ_mul, Nat.add_comm]
theorem RowO.sl {α : Type} {E : TypeId} {s lo : Nat} {Rd : World → List Value → α → Prop} {X : Nat → Prop} {W : World} {v : Value} {l : List α} (h : RowO E s Rd X lo W v l) : Sl W s (Rd W) v l := by
 obtain ⟨css, h1, h2, h3, h4⟩ := h
 obtain ⟨h5, A, c, e, k1, k2, k3⟩ := Rs.of_own h3
 refine ⟨A, c, e, k1, k2, fun hp => ?_⟩
 obtain ⟨b, o, ea, hc⟩ := k3 hp
 refine ⟨b, o, ea, fun i x hx => ?_⟩
 have hi : i < css.length := by rw [h1]; exact (List.getElem?_eq_some_iff.1 hx).1
 have hcs : css[i]? = some css[i] := List.getElem?_eq_getElem hi
 refine ⟨css[i], h2 _ (List.getElem_mem hi), (h4 i _ x hcs hx).here, fun j u hu => ?_⟩
 have := hc (i * s + j) u (flat_get css h2 i _ hcs j u hu)
 rwa [← Nat.add_assoc] at this
theorem RowO.far {α : Type} {E : TypeId} {s lo : Nat} {Rd : World → List Value → α → Prop} {X : Nat → Prop} {W : World} {v : Value} {l : List α} (h : RowO E s Rd X lo W v l) (Y : Nat → Prop) (hY : ∀ g, Y g → X g) (hv : ∀ g, v.ownBlock = some g → ¬ Y g) : Far lo Y W (fun W => Sl W s (Rd W) v l) := by
 obtain ⟨css, h1, h2, h3, h4⟩ := h
 intro W' hs ha
 have h3' := own_far h3 hv W' hs ha
 refine RowO.sl (E := E) (X := No) (lo := lo) ⟨css, h1, h2, h3', fun i cs x hc hx W2 hs2 ha2 => ?_⟩
 refine h4 i cs x hc hx W2 (Nat.le_trans hs hs2) fun g hlo hlt hn => ?_
 rw [ha2 g hlo (Nat.lt_of_lt_of_le hlt hs) (fun hx => by rcases hx with hx | hx; exact hx.elim; exact hn (.inr hx))]
 exact ha g hlo hlt (fun hy => hn (.inl (hY g hy)))
theorem RowO.farNo {α : Type} {E : TypeId} {s lo : Nat} {Rd : World → List Value → α → Prop} {X : Nat → Prop} {W : World} {v : Value} {l : List α} (h : RowO E s Rd X lo W v l) : Far lo No W (fun W => Sl W s (Rd W) v l) :=
 h.far No (fun _ h => h.elim) (fun _ _ h => h)

end Go.Proofs.YtnjpdchmdimaaaaGreat
namespace Go.Proofs.YtnjpdchmdimaaaaGreat
open Go.RowKit

theorem set_all (l : List Value) : ∀ (k : Nat) (base : Array Value) (i : Nat), ((l.zipIdx k).foldl (fun a (p : Value × Nat) => a.setIfInBounds p.2 p.1) base)[i]? = if k ≤ i ∧ i < k + l.length ∧ i < base.size then l[i - k]? else base[i]? := by
 induction l with
 | nil =>
  intro k base i
  simp
  intro h1 h2
  omega
 | cons c l ih =>
  intro k base i
  rw [List.zipIdx_cons, List.foldl_cons, ih]
  have hs : (base.setIfInBounds k c).size = base.size := by simp
  rw [hs]
  by_cases h2 : k + 1 ≤ i ∧ i < k + 1 + l.length ∧ i < base.size
  ·rw [if_pos h2, if_pos (by simp; omega), show i - k = (i - (k + 1)) + 1 by omega]
   rfl
  ·rw [if_neg h2]
   by_cases h1 : k = i
   ·subst h1
    by_cases h3 : k < base.size
    ·rw [if_pos (by simp; omega)]
     simp [h3]
    ·rw [if_neg (by omega)]
     simp [h3]
   ·rw [if_neg (by simp; omega), Array.getElem?_setIfInBounds]
    simp [h1]
theorem fill_one (cs base : Array Value) (h : base.size = cs.size) : cs.zipIdx.foldl (fun a (p : Value × Nat) => a.setIfInBounds p.2 p.1) base = cs := by
 apply Array.ext_getElem?
 intro i
 have := set_all cs.toList 0 base i
 have e : (cs.toList.zipIdx 0).foldl (fun a (p : Value × Nat) => a.setIfInBounds p.2 p.1) base = cs.zipIdx.foldl (fun a (p : Value × Nat) => a.setIfInBounds p.2 p.1) base := by
  rw [← Array.foldl_toList, Array.toList_zipIdx]
 rw [← e, this]
 by_cases hi : i < cs.size
 ·rw [if_pos (by simp; omega)]
  simp
 ·rw [if_neg (by simp; omega)]
  rw [Array.getElem?_eq_none (by omega), Array.getElem?_eq_none (by omega)]
theorem run_build_one {P : Program} {W : World} (T E : TypeId) (hT : P.underlying T = some (.slice E)) (z : Value) (s bytes : Nat) (hinfo : (P.info? E).map (fun i => (i.zero, i.size, i.bytes)) = some (some z, s, bytes)) (h0 : 0 < s) (hs : s ≤ 1000) (cs : Array Value) (hcs : cs.size = s) :
  (Instr.buildSlice T 1 #[(0, .agg cs)]).run P W = .ok (.slice (some ⟨W.heap.size, 0, none⟩) 1 1) (W.alloc (.cells cs E)) := by
 obtain ⟨i0, hi, hz0, hz1, hz2⟩ := info_parts hinfo
 have hb : ∀ base : Array Value, base.size = s → Array.foldl (fun a (p : Value × Nat) => a.setIfInBounds p.2 p.1) base cs.zipIdx 0 s = cs := fun base h => by
  have := fill_one cs base (by omega)
  simpa [hcs] using this
 have hn : ¬ s = 0 := by omega
 have hl : ¬ 16777216 < s := by omega
 unfold Instr.buildSlice
 simp [go_sem, run_underlying hT, sizeOf, typeInfo, zeroValue, hi, hz0, hz1, Instr.fill, hn, hl, Value.cells, hcs]
 rw [hb _ (by simp)]
theorem wpList_build_one {P : Program} {ops : Array Oper} {rest : List Oper} {o : Oper} {a : Act} {W : World} {Q : Exit → Act → World → Prop} (hgd : Region.wanted o (yielded ops a.tmps) = true) (x : Operand) (T E : TypeId) (ho : o.op = .buildSlice T 1 #[(0, x)])
  (hT : P.underlying T = some (.slice E)) (z : Value) (s bytes : Nat) (hinfo : (P.info? E).map (fun i => (i.zero, i.size, i.bytes)) = some (some z, s, bytes)) (h0 : 0 < s) (hs : s ≤ 1000) (cs : Array Value) (hcs : cs.size = s) (hx : a.eval x = .agg cs)
  (h : wpList P ops Q rest (a.put o.dst (.slice (some ⟨W.heap.size, 0, none⟩) 1 1)) (W.alloc (.cells cs E))) : wpList P ops Q (o :: rest) a W := by
 refine wpList_step fun K hK' => ?_
 rw [if_pos hgd]
 have hK := hK' _ _ h
 have hp : (#[(0, x)] : Array (Nat × Operand)).map (fun (i, x) => (i, a.eval x)) = #[(0, .agg cs)] := by simp [hx]
 have hrun : (execOp a.eval o).run P W = .ok (.value (.slice (some ⟨W.heap.size, 0, none⟩) 1 1)) (W.alloc (.cells cs E)) := by
  simp only [execOp, ho]
  rw [hp]
  have := run_build_one (P := P) (W := W) T E hT z s bytes hinfo h0 hs cs hcs
  generalize Instr.buildSlice T 1 #[(0, .agg cs)] = X at this ⊢
  simp [go_sem, this]
 unfold Oper.wp
 rw [hrun]
 exact hK
theorem wpList_store_agg {P : Program} {ops : Array Oper} {rest : List Oper} {o : Oper} {a : Act} {w : World} {Q : Exit → Act → World → Prop} (hgd : o.guard = none) (hd : o.dst = none) (ty : TypeId) (x y : Operand) (ho : o.op = .store ty x y) {s : Nat} (hi : (P.info? ty).map (·.size) = some s)
  (g : Nat) (old new : Array Value) (hone : new.all (·.oneCell') = true) (hx : a.eval x = .pointer (some ⟨g, 0, none⟩)) (hy : a.eval y = .agg new) (hg : Cs w g ty old) (hold : old.size = s) (hnew : new.size = s)
  (h : ∀ w', Cs w' g ty new → w.grownBy w' (some g) → wpList P ops Q rest a w') : wpList P ops Q (o :: rest) a w := by
 have h' : ∀ w', Cs w' g ty new → w.grownBy w' (some g) → wpList P ops Q rest (a.put o.dst undef) w' := by rw [hd]; exact h
 refine wpList_store_row hgd ty x y ho g new hx hy ty old hg (by rw [hi, hnew]) (by rw [hold, hnew]) hone (h' _ ?_ ?_)
 ·exact setRow_heap w g _ _ ty (0, 0) hg
 ·exact ⟨rfl, rfl, rfl, by simp [World.setRow], fun k _ hk => setRow_other w g k _ (fun e => hk (by simp [e]))⟩
end Go.Proofs.YtnjpdchmdimaaaaGreat
namespace Go.Proofs.YtnjpdchmdimaaaaGreat
open Go.ChangeShapes Go.WideShapes Go.ChangeAt Go.RowKit

set_option maxRecDepth 100000 in
theorem word_trod {H : Type} {enc : TypeId × Value → H} {W : World} {base fuel : Nat} {f : Nat → Bool} {b : Bool} {cs : List Value} {x : DataW H × List MemPlace} (h : DataW.trod enc Tryz.prog W base f b fuel 75 cs = some x) : ∃ z, z < M256 ∧ cs.length = 4 ∧ ∀ j, j < 4 → cs[j]? = some (.int .u64 (lb z j : Nat)) := by
 obtain ⟨xs, k, _, _, hlen, hxl, hel⟩ := DataW.trod_array Tryz.underlying75 h
 have hce : Tryz.prog.cellsOf 44 = 1 := by kernel_rfl
 have hC : Tryz.prog.cellsOf 75 = 4 := by kernel_rfl
 rw [hC] at hlen
 have ez : ∀ j, j < 4 → ∃ z : Nat, z < 18446744073709551616 ∧ cs[j]? = some (.int .u64 (z : Nat)) := by
  intro j hj
  have hh := hel j hj
  rw [hce, Nat.mul_one] at hh
  have hxj : xs[j]? = some (xs[j]'(by omega)) := List.getElem?_eq_getElem (by omega)
  rw [hxj] at hh
  obtain ⟨z, e0, _, wz⟩ := DataW.trod_int Tryz.underlying44 hh
  have hb : 0 ≤ z ∧ z ≤ 18446744073709551615 := by simpa [Lit.wf, IntKind.min, IntKind.max, IntKind.signed, IntKind.bits] using wz
  refine ⟨z.toNat, by omega, ?_⟩
  have e1 : (List.take 1 (List.drop j cs))[0]? = cs[j]? := by rw [List.getElem?_take, if_pos (by omega), List.getElem?_drop, Nat.add_zero]
  rw [e0] at e1
  rw [← e1, Int.toNat_of_nonneg hb.1]
  rfl
 obtain ⟨z0, b0, e0⟩ := ez 0 (by omega)
 obtain ⟨z1, b1, e1⟩ := ez 1 (by omega)
 obtain ⟨z2, b2, e2⟩ := ez 2 (by omega)
 obtain ⟨z3, b3, e3⟩ := ez 3 (by omega)
 obtain ⟨l0, l1, l2, l3⟩ := lb_ofL z0 z1 z2 z3 b0 b1 b2 b3
 refine ⟨ofL z0 z1 z2 z3, ofL_lt _ _ _ _ b0 b1 b2 b3, hlen, fun j hj => ?_⟩
 match j, hj with
 | 0, _ => rw [l0]; exact e0
 | 1, _ => rw [l1]; exact e1
 | 2, _ => rw [l2]; exact e2
 | 3, _ => rw [l3]; exact e3
theorem wc_list (z : Nat) (cs : List Value) (hl : cs.length = 4) (h : ∀ j, j < 4 → cs[j]? = some (.int .u64 (lb z j : Nat))) : cs = (wc z).toList := by
 apply List.ext_getElem?
 intro j
 by_cases hj : j < 4
 ·rw [h j hj]
  have := wc_get z j hj
  rw [← Array.getElem?_toList] at this
  exact this.symm
 ·rw [List.getElem?_eq_none (by omega), List.getElem?_eq_none (by simp [wc]; omega)]
end Go.Proofs.YtnjpdchmdimaaaaGreat
