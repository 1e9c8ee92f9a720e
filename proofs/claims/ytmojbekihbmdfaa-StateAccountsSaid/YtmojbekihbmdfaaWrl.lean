/- What the laws of layer 2 share: words that come in, answers under names of their own, and what a region that draws its order keeps. -/
import Derived.Test.YtmojbekihbmdfaaWrk
import Derived.Test.YtmojbekihbmdfaaWrn
import Derived.Deep.RegionHeld3
namespace Go.Proofs.Ytmojbekihbmdfaa
open Go.ChangeShapes Go.WideShapes Go.ChangeAt Go.RowKit

set_option maxRecDepth 100000 in
/-- A word that came in. -/
theorem word_came {H : Type} {enc : TypeId × Value → H} {W : World} {base : Nat} {v : Value} {d : DataW H} {p : List MemPlace}
    (hval : Value.okWide Try.prog W .any base 31 v) (h : DataW.Trod enc Try.prog W 0 (fun _ => true) true 31 v d p) : ∃ n, n < M256 ∧ v = wv n := by
  obtain ⟨zs, hl, rfl, hz⟩ := arr_came Try.underlying31 Try.underlying28 (by kernel_rfl) (by kernel_rfl) hval h
  have hb : ∀ z ∈ zs, 0 ≤ z ∧ z ≤ 18446744073709551615 := fun z h => by simpa [Lit.wf, IntKind.min, IntKind.max, IntKind.signed, IntKind.bits] using hz z h
  match zs, hl with
  | [a, b, c, d], _ =>
    have h0 := hb a (by simp)
    have h1 := hb b (by simp)
    have h2 := hb c (by simp)
    have h3 := hb d (by simp)
    refine ⟨ofL a.toNat b.toNat c.toNat d.toNat, ofL_lt _ _ _ _ (by omega) (by omega) (by omega) (by omega), ?_⟩
    unfold wv
    rw [wc_ofL _ _ _ _ (by omega) (by omega) (by omega) (by omega)]
    simp only [lv, Int.toNat_of_nonneg h0.1, Int.toNat_of_nonneg h1.1, Int.toNat_of_nonneg h2.1, Int.toNat_of_nonneg h3.1]
    rfl

/-! ### The answers, under names that no rewriting opens -/
def notN (a : Nat) : Nat := M256 - 1 - a
def andN (a b : Nat) : Nat := a &&& b
def orN (a b : Nat) : Nat := a ||| b
def xorN (a b : Nat) : Nat := a ^^^ b
def addN (a b : Nat) : Nat := (a + b) % M256
def subN (a b : Nat) : Nat := (a + M256 - b) % M256

/-- A call that answers the word r. -/
def RetW (w : World) (r : Nat) (e : Ending) (w' : World) : Prop := e = .returned (wv r) ∧ r < M256 ∧ Ext w w'
/-- A call that answers the word r, and b. -/
def RetWB (w : World) (r : Nat) (b : Bool) (e : Ending) (w' : World) : Prop := e = .returned (.tuple #[wv r, .bool b]) ∧ r < M256 ∧ Ext w w'

set_option maxRecDepth 100000 in
theorem notN_lt (a : Nat) : notN a < M256 := by unfold notN M256; omega
set_option maxRecDepth 100000 in
theorem andN_lt (a b : Nat) (hb : b < M256) : andN a b < M256 := by unfold andN; rw [M256_pow] at *; exact Nat.and_lt_two_pow _ hb
set_option maxRecDepth 100000 in
theorem orN_lt (a b : Nat) (ha : a < M256) (hb : b < M256) : orN a b < M256 := by unfold orN; rw [M256_pow] at *; exact Nat.or_lt_two_pow ha hb
set_option maxRecDepth 100000 in
theorem xorN_lt (a b : Nat) (ha : a < M256) (hb : b < M256) : xorN a b < M256 := by unfold xorN; rw [M256_pow] at *; exact Nat.xor_lt_two_pow ha hb
set_option maxRecDepth 100000 in
theorem addN_lt (a b : Nat) : addN a b < M256 := Nat.mod_lt _ (by decide)
set_option maxRecDepth 100000 in
theorem subN_lt (a b : Nat) : subN a b < M256 := Nat.mod_lt _ (by decide)

set_option maxRecDepth 100000 in
theorem add_w (a b : Nat) (w : World) (ha : a < M256) (hb : b < M256) : Calls Try.prog 30 #[wv a, wv b] w (RetWB w (addN a b) (ovr a b)) := (add_any a b w ha hb).mono fun _ _ h => ⟨h.1, addN_lt a b, h.2⟩
set_option maxRecDepth 100000 in
theorem mulN_lt (a b : Nat) : mulN a b < M256 := Nat.mod_lt _ (by decide)
set_option maxRecDepth 100000 in
theorem sub_w (a b : Nat) (w : World) (ha : a < M256) (hb : b < M256) : Calls Try.prog 31 #[wv a, wv b] w (RetWB w (subN a b) (und a b)) := (sub_any a b w ha hb).mono fun _ _ h => ⟨h.1, subN_lt a b, h.2⟩

/-- A word, its cells written out. -/
abbrev lit (n : Nat) : Value := .agg #[.int .u64 (lb n 0 : Nat), .int .u64 (lb n 1 : Nat), .int .u64 (lb n 2 : Nat), .int .u64 (lb n 3 : Nat)]

set_option maxRecDepth 100000 in
theorem eql_yes (n m : Nat) (h : n = m) (hm : m < M256) (u : World) : (binOp .eql 31 (.agg (wc n)) (.agg (wc m))).run Try.prog u = .ok (.bool true) u := by
  subst h
  rw [run_eql_word n n hm hm]
  simp
set_option maxRecDepth 100000 in
theorem neq_no (n m : Nat) (h : n = m) (hm : m < M256) (u : World) : (binOp .neq 31 (.agg (wc n)) (.agg (wc m))).run Try.prog u = .ok (.bool false) u := by
  subst h
  rw [run_neq_word n n hm hm]
  simp

/-- The four cells of a word, one by one. -/
def F4 (W : World) (g n : Nat) : Prop := W.cell? ⟨g, 0, none⟩ = some (.int .u64 (lb n 0 : Nat)) ∧ W.cell? ⟨g, 1, none⟩ = some (.int .u64 (lb n 1 : Nat)) ∧ W.cell? ⟨g, 2, none⟩ = some (.int .u64 (lb n 2 : Nat)) ∧ W.cell? ⟨g, 3, none⟩ = some (.int .u64 (lb n 3 : Nat))
set_option maxRecDepth 100000 in
theorem Wd.f4 {W : World} {g : Nat} {t : TypeId} {n : Nat} (h : Wd W g t n) : F4 W g n := h.cs.four
/-- Words that lie in memory, and what was there. -/
def Ks (w : World) (l : List (Nat × Nat)) (W : World) : Prop := (∀ x ∈ l, Wd W x.1 31 x.2) ∧ Ext w W
set_option maxRecDepth 100000 in
theorem Ks.ext {w : World} {l : List (Nat × Nat)} {W W' : World} (h : Ks w l W) (he : Ext W W') : Ks w l W' := ⟨fun x hx => (h.1 x hx).ext he, h.2.trans he⟩
set_option maxRecDepth 100000 in
theorem Ks.al {w : World} {l : List (Nat × Nat)} {W : World} (h : Ks w l W) (o : Obj) : Ks w l (W.alloc o) := h.ext ((Ext.refl W).alloc o)
set_option maxRecDepth 100000 in
theorem Ks.sub {w : World} {l : List (Nat × Nat)} {W : World} (h : Ks w l W) (l' : List (Nat × Nat)) (hs : ∀ x ∈ l', x ∈ l) : Ks w l' W := ⟨fun x hx => h.1 x (hs x hx), h.2⟩
set_option maxRecDepth 100000 in
theorem Ks.drew {w : World} {l : List (Nat × Nat)} {W : World} (h : Ks w l W) : Ks w l W.drew := h.ext (Ext.refl W).drew
set_option maxRecDepth 100000 in
theorem Ks.far {w : World} {l : List (Nat × Nat)} {W W' : World} {g : Nat} (h : Ks w l W) (hg : W.grownBy W' (some g)) (hw : w.heap.size ≤ g) (hn : ∀ x ∈ l, x.1 ≠ g) : Ks w l W' := ⟨fun x hx => (h.1 x hx).kept hg (some_ne (hn x hx)), h.2.grown hg hw⟩
set_option maxRecDepth 100000 in
theorem Ks.lt {w : World} {l : List (Nat × Nat)} {W : World} (h : Ks w l W) {g n : Nat} (hx : (g, n) ∈ l) : g < W.heap.size := (h.1 _ hx).lt
set_option maxRecDepth 100000 in
theorem Ks.at {w : World} {l : List (Nat × Nat)} {W : World} (h : Ks w l W) (g n : Nat) (hx : (g, n) ∈ l) : Wd W g 31 n := h.1 _ hx
set_option maxRecDepth 100000 in
theorem Ks.sc {w : World} {l : List (Nat × Nat)} {W : World} (h : Ks w l W) (p : Addr) (v : Value) (hw : w.heap.size ≤ p.block) (hn : ∀ x ∈ l, x.1 ≠ p.block) : Ks w l (W.setCell p v) :=
  ⟨fun x hx => (h.1 x hx).kept (row := some p.block) ⟨rfl, rfl, rfl, by simp, fun k _ hk => heap_setCell_other W p k v (fun e => hk (by simp [e]))⟩ (some_ne (hn x hx)), h.2.grown (g := p.block) ⟨rfl, rfl, rfl, by simp, fun k _ hk => heap_setCell_other W p k v (fun e => hk (by simp [e]))⟩ hw⟩
set_option maxRecDepth 100000 in
theorem Ks.fresh {w : World} {l : List (Nat × Nat)} {W : World} (h : Ks w l W) : ∀ x ∈ l, x.1 ≠ W.heap.size := fun x hx => Nat.ne_of_lt (h.1 x hx).lt
/-- A word's block that is nought. -/
def Zb (W : World) (g : Nat) : Prop := Cs W g 31 (wc 0)
set_option maxRecDepth 100000 in
theorem Zb.new (W : World) : Zb (W.alloc (.cells #[.int .u64 0, .int .u64 0, .int .u64 0, .int .u64 0] 31)) W.heap.size := Cs.new _ _ _ _ rfl
set_option maxRecDepth 100000 in
theorem Zb.ext {W W' : World} {g : Nat} (h : Zb W g) (he : Ext W W') : Zb W' g := Cs.ext h he
set_option maxRecDepth 100000 in
theorem Zb.al {W : World} {g : Nat} (h : Zb W g) (o : Obj) : Zb (W.alloc o) g := Cs.alloc h o
set_option maxRecDepth 100000 in
theorem Zb.drew {W : World} {g : Nat} (h : Zb W g) : Zb W.drew g := h
set_option maxRecDepth 100000 in
theorem Zb.c0 {W : World} {g : Nat} (h : Zb W g) : W.cell? ⟨g, 0, none⟩ = some (.int .u64 0) := Cs.cell h 0 _ rfl
set_option maxRecDepth 100000 in
theorem Zb.c1 {W : World} {g : Nat} (h : Zb W g) : W.cell? ⟨g, 1, none⟩ = some (.int .u64 0) := Cs.cell h 1 _ rfl
set_option maxRecDepth 100000 in
theorem Zb.c2 {W : World} {g : Nat} (h : Zb W g) : W.cell? ⟨g, 2, none⟩ = some (.int .u64 0) := Cs.cell h 2 _ rfl
set_option maxRecDepth 100000 in
theorem Zb.c3 {W : World} {g : Nat} (h : Zb W g) : W.cell? ⟨g, 3, none⟩ = some (.int .u64 0) := Cs.cell h 3 _ rfl
set_option maxRecDepth 100000 in
theorem Zb.f {W : World} {g : Nat} (h : Zb W g) (i : Nat) : W.frozen? ⟨g, i, none⟩ = false := Cs.frozen h i
set_option maxRecDepth 100000 in
theorem Zb.sc {W : World} {g : Nat} (h : Zb W g) (p : Addr) (v : Value) (hn : ¬ p.block = g) : Zb (W.setCell p v) g := Cs.kept (row := some p.block) h ⟨rfl, rfl, rfl, by simp, fun k _ hk => heap_setCell_other W p k v (fun e => hk (by simp [e]))⟩ (some_ne (fun e => hn e.symm))
set_option maxRecDepth 100000 in
theorem Wd.sc {W : World} {g n : Nat} {t : TypeId} (h : Wd W g t n) (p : Addr) (v : Value) (hn : ¬ p.block = g) : Wd (W.setCell p v) g t n := Wd.kept (row := some p.block) h ⟨rfl, rfl, rfl, by simp, fun k _ hk => heap_setCell_other W p k v (fun e => hk (by simp [e]))⟩ (some_ne (fun e => hn e.symm))
set_option maxRecDepth 100000 in
theorem Wd.al {W : World} {g n : Nat} {t : TypeId} (h : Wd W g t n) (o : Obj) : Wd (W.alloc o) g t n := Cs.alloc h o
set_option maxRecDepth 100000 in
theorem Zb.laid {W : World} {g : Nat} (h : Zb W g) (n : Nat) : Wd ((((W.setCell ⟨g, 0, none⟩ (.int .u64 (lb n 0 : Nat))).setCell ⟨g, 1, none⟩ (.int .u64 (lb n 1 : Nat))).setCell ⟨g, 2, none⟩ (.int .u64 (lb n 2 : Nat))).setCell ⟨g, 3, none⟩ (.int .u64 (lb n 3 : Nat))) g 31 n :=
  (((Cs.set h 0 _).set 1 _).set 2 _).set 3 _

set_option maxRecDepth 100000 in
/-- A new word is laid. -/
theorem Ks.put {w : World} {l : List (Nat × Nat)} {W W' : World} {o : Obj} {n : Nat} (h : Ks w l W) (hg : (W.alloc o).grownBy W' (some W.heap.size)) (k : Wd W' W.heap.size 31 n) : Ks w ((W.heap.size, n) :: l) W' :=
  ⟨fun x hx => by
    rcases List.mem_cons.1 hx with rfl | hx
    · exact k
    · exact ((h.1 x hx).cs.alloc o).kept hg (some_ne (Nat.ne_of_lt (h.1 x hx).lt)), (h.2.alloc o).grown hg h.2.size⟩
set_option maxRecDepth 100000 in
/-- Two new words are laid. -/
theorem Ks.put2 {w : World} {l : List (Nat × Nat)} {W W1 W2 : World} {o o' : Obj} {n m : Nat} (h : Ks w l W) (hg : ((W.alloc o).alloc o').grownBy W1 (some W.heap.size)) (k : Wd W1 W.heap.size 31 n) (hg2 : W1.grownBy W2 (some (W.heap.size + 1))) (k2 : Wd W2 (W.heap.size + 1) 31 m) : Ks w ((W.heap.size, n) :: (W.heap.size + 1, m) :: l) W2 :=
  ⟨fun x hx => by
    rcases List.mem_cons.1 hx with rfl | hx
    · exact k.kept hg2 (some_ne (by simp))
    · rcases List.mem_cons.1 hx with rfl | hx
      · exact k2
      · have := (h.1 x hx).lt
        exact ((((h.1 x hx).cs.alloc o).alloc o').kept hg (some_ne (by omega))).kept hg2 (some_ne (by omega)), (((h.2.alloc o).alloc o').grown hg h.2.size).grown hg2 (by have := h.2.size; omega)⟩
set_option maxRecDepth 100000 in
theorem Ks.cons {w : World} {l : List (Nat × Nat)} {W : World} (h : Ks w l W) {g n : Nat} (hg : Wd W g 31 n) : Ks w ((g, n) :: l) W := ⟨fun x hx => by rcases List.mem_cons.1 hx with rfl | hx; exact hg; exact h.1 x hx, h.2⟩

set_option maxRecDepth 100000 in
theorem Ks.two {w : World} {l : List (Nat × Nat)} {W : World} {g n g' n' : Nat} (h : Ks w l W) (h1 : Wd W g 31 n) (h2 : Wd W g' 31 n') : Ks w ((g, n) :: (g', n') :: l) W := (h.cons h2).cons h1

end Go.Proofs.Ytmojbekihbmdfaa
