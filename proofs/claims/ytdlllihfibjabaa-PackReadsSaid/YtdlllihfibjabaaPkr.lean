/- Maps of booleans that the call makes: an entry more, and a look-up. No program's number is named here. Package pack: forms. -/
import Derived.Test.YtdlllihfibjabaaByt
import Derived.MapKept
import Derived.WideLaws
import Derived.Test.YtdlllihfibjabaaPkq
namespace Go.Proofs.Ytdlllihfibjabaa
open Go.RowKit

set_option maxRecDepth 100000 in
theorem run_checkKey_bool {P : Program} (w : World) (emp : Bool) (K : TypeId) (hK : P.underlying K = some .bool) (b : Bool) : (Instr.checkKey emp 10000 K (.bool b)).run P w = .ok () w := by
  unfold Instr.checkKey
  simp [run_underlying hK]
/-- The entries, none of them of the key b. -/
def noKey (b : Bool) (es : List MapEntry) : Prop := Instr.findNow .bool (.bool b) es 0 = some none
set_option maxRecDepth 100000 in
theorem run_insert_bool {P : Program} {w : World} (T K E : TypeId) (hT : P.underlying T = some (.map K E)) (hK : P.underlying K = some .bool) (r : Nat) (es : Array MapEntry) (clock : Nat) (hb : w.heap[r]? = some (.map es clock)) (b : Bool) (v : Value) (hn : noKey b es.toList) :
    (Instr.mapUpdate T (.map (some r)) (.bool b) v).run P w = .ok () { w with heap := w.heap.setIfInBounds r (.map (es.push ⟨.bool b, v, clock⟩) (clock + 1)) } := by
  unfold noKey at hn
  unfold Instr.mapUpdate
  simp [run_underlying hT, MapKept.run_getObj_map hb, run_checkKey_bool w _ K hK b, Instr.findKey, run_underlying hK, hn, MapKept.run_setObj_map _ hb]
set_option maxRecDepth 100000 in
/-- An entry more. -/
theorem wpList_insert_bool {P : Program} {w : World} {ops : Array Oper} {rest : List Oper} {o : Oper} {a : Act} {Q : Exit → Act → World → Prop} (hgd : Region.wanted o (yielded ops a.tmps) = true) (hd : o.dst = none) (T K E : TypeId) (m k x : Operand)
    (ho : o.op = .insert T m k x) (hT : P.underlying T = some (.map K E)) (hK : P.underlying K = some .bool) (r : Nat) (es : Array MapEntry) (clock : Nat) (hb : w.heap[r]? = some (.map es clock)) (b : Bool) (v : Value) (hn : noKey b es.toList)
    (hm : a.eval m = .map (some r)) (hk : a.eval k = .bool b) (hx : a.eval x = v)
    (h : ∀ w', w'.heap[r]? = some (.map (es.push ⟨.bool b, v, clock⟩) (clock + 1)) → w.grownBy w' (some r) → wpList P ops Q rest a w') : wpList P ops Q (o :: rest) a w := by
  have hr := run_insert_bool T K E hT hK r es clock hb b v hn
  refine wpList_step fun K' hK' => ?_
  rw [if_pos hgd]
  unfold Oper.wp
  have h2 := h { w with heap := w.heap.setIfInBounds r (.map (es.push ⟨.bool b, v, clock⟩) (clock + 1)) } (by
    obtain ⟨hlt, _⟩ := Array.getElem?_eq_some_iff.1 hb
    simp [hlt]) ⟨rfl, rfl, rfl, by simp, fun i _ hi => by
    have : ¬ r = i := fun e => hi (by rw [e])
    simp [this]⟩
  have h3 : ∀ w', wpList P ops Q rest a w' → wpList P ops Q rest (a.put o.dst undef) w' := by
    intro w' h
    rw [hd]
    exact h
  simp [execOp, ho, hm, hk, hx, hr, Result.andThen]
  exact hK' _ _ (h3 _ h2)
set_option maxRecDepth 100000 in
/-- A look-up. -/
theorem wpList_lookup_bool {P : Program} {w : World} {ops : Array Oper} {rest : List Oper} {o : Oper} {a : Act} {Q : Exit → Act → World → Prop} (hgd : Region.wanted o (yielded ops a.tmps) = true) (T K E : TypeId) (m k : Operand)
    (ho : o.op = .lookup T m k false) (hT : P.underlying T = some (.map K E)) (hK : P.underlying K = some .bool) (r : Nat) (es : Array MapEntry) (clock : Nat) (hb : w.heap[r]? = some (.map es clock)) (b : Bool) (i : Nat) (v : Value) (hn : Instr.findNow .bool (.bool b) es.toList 0 = some (some (i, v)))
    (hm : a.eval m = .map (some r)) (hk : a.eval k = .bool b)
    (h : wpList P ops Q rest (a.put o.dst v) w) : wpList P ops Q (o :: rest) a w := by
  have hr : (Instr.lookup T (.map (some r)) (.bool b) false).run P w = .ok v w := by
    unfold Instr.lookup
    simp [run_underlying hT, MapKept.run_getObj_map hb, run_checkKey_bool w _ K hK b, Instr.findKey, run_underlying hK, hn]
  refine wpList_step fun K' hK' => ?_
  rw [if_pos hgd]
  unfold Oper.wp
  simp [execOp, ho, hm, hk, hr, Result.andThen]
  exact hK' _ _ h
end Go.Proofs.Ytdlllihfibjabaa
namespace Go.Proofs.Ytdlllihfibjabaa
open Go.RowKit Go.Shelf

/-- What forms answers: by which method a part is read. -/
def fmE (g : Nat) : Array MapEntry := #[⟨.bool false, .func (.func 109) #[.pointer (some ⟨g, 0, none⟩)] #[], 0⟩, ⟨.bool true, .func (.func 110) #[.pointer (some ⟨g, 0, none⟩)] #[], 1⟩]
set_option maxRecDepth 100000 in
theorem forms_any (g : Nat) (w : World) : Calls Try.prog 69 #[.pointer (some ⟨g, 0, none⟩)] w fun e w' => e = .returned (.map (some w.heap.size)) ∧ w'.heap[w.heap.size]? = some (.map (fmE g) 2) ∧ Ext w w' := by
  have hmm := @run_makeMap Try.prog
  have H0 := Lib.hid (heap_alloc_new w (.map #[] 0))
  have HE := Lib.hid ((Ext.refl w).alloc (.map #[] 0))
  go_enter Try.func69, Try.ntmps69
  go_wp2_with (first
    | ((with_reducible refine wpList_insert_bool ?_ ?_ _ 4 _ (.tmp 3) (.const (.bool false)) (.tmp 5) ?_ Try.underlying112 Try.underlying4 w.heap.size #[] 0 H0.out false (.func (.func 109) #[.pointer (some ⟨g, 0, none⟩)] #[]) ?_ ?_ ?_ ?_ ?_); (exact rfl); (exact rfl); (exact rfl); (exact rfl); (exact rfl); (exact rfl); (exact rfl); intro w1 k1 g1; have K1 := Lib.hid k1; have E1 := Lib.hid (HE.out.grown g1 (Nat.le_refl _)); clear k1 g1)
    | ((with_reducible refine wpList_insert_bool ?_ ?_ _ 4 _ (.tmp 3) (.const (.bool true)) (.tmp 7) ?_ Try.underlying112 Try.underlying4 w.heap.size _ 1 K1.out true (.func (.func 110) #[.pointer (some ⟨g, 0, none⟩)] #[]) ?_ ?_ ?_ ?_ ?_); (exact rfl); (exact rfl); (exact rfl); (exact rfl); (exact rfl); (exact rfl); (exact rfl); intro w2 k2 g2; have K2 := Lib.hid k2; have E2 := Lib.hid (E1.out.grown g2 (Nat.le_refl _)); clear k2 g2))
  go_ret
  exact ⟨rfl, K2.out, E2.out⟩
end Go.Proofs.Ytdlllihfibjabaa
