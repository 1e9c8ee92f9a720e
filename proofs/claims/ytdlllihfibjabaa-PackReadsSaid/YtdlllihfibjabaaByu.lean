/- More on rows in memory: spare room, rows of 64-bit numbers, one store. -/
import Derived.Test.YtdlllihfibjabaaByt
namespace Go.Proofs.Ytdlllihfibjabaa
open Go.RowKit

/-- make([]byte, n, m). -/
theorem wpList_make_room {P : Program} {w : World} {ops : Array Oper} {rest : List Oper} {o : Oper} {a : Act} {Q : Exit → Act → World → Prop}
    (hg : Region.wanted o (yielded ops a.tmps) = true) (l c : Operand) (t : TypeId) (hop : o.op = Op.makeSlice t l c) (e : TypeId) (h1 : P.underlying t = some (.slice e))
    (hinfo : (P.info? e).map (fun i => (i.zero, i.size, i.bytes)) = some (some (.int .u8 0), 1, 1)) (kl kc : IntKind) (L C : Int) (n m : Nat) (hl : a.eval l = .int kl L) (hc : a.eval c = .int kc C) (hL : L = (n : Int)) (hC : C = (m : Int)) (hnm : n ≤ m) (hn : m ≤ 140737488355328)
    (hK : ∀ w', Row w' w.heap.size e (List.replicate m 0) → Ext w w' → wpList P ops Q rest (a.put o.dst (.slice (some ⟨w.heap.size, 0, none⟩) n m)) w') :
    wpList P ops Q (o :: rest) a w := by
  obtain ⟨i0, hi, hz0, hz1, hz2⟩ := info_parts hinfo
  subst hL
  subst hC
  have hr := run_make (P := P) w t e i0 (.int .u8 0) h1 hi hz0 kl kc n m (by omega) (by omega) (by rw [hz2]; omega) (by omega)
  simp only [Int.toNat_natCast] at hr
  refine wpList_step fun K hK' => ?_
  rw [if_pos hg]
  unfold Oper.wp
  simp [execOp, hop, hl, hc, hr, Result.andThen]
  refine hK' _ _ (hK _ ?_ ((Ext.refl w).alloc _))
  unfold Row
  rw [heap_alloc_new, hz1]
  congr 2
  apply Array.toList_inj.1
  have hm := toList_madeCells_one (.int .u8 0) (m * 1)
  have e : Value.cells (.int .u8 0) = #[.int .u8 0] := rfl
  rw [e, hm]
  simp [bv]

/-- copy(row[:n], src). -/
theorem wpList_copy_part {P : Program} {w : World} {ops : Array Oper} {rest : List Oper} {o : Oper} {a : Act} {Q : Exit → Act → World → Prop} (hgd : o.guard = none) (d s : Operand) (dT sT : TypeId)
    (ho : o.op = .call { callee := .builtin .copy, args := #[d, s], argTypes := #[dT, sT] }) (e : TypeId) (hu : P.underlying dT = some (.slice e)) (hsz : (P.info? e).map (·.size) = some 1)
    (g n cap : Nat) (l : List UInt8) (hd : a.eval d = .slice (some ⟨g, 0, none⟩) n cap) (hn : n ≤ l.length) (hr : Row w g e l) (sv : Value) (x : List UInt8) (hs : a.eval s = sv) (hx : Bs w sv x) (hxn : x.length = n)
    (hK : ∀ w', Row w' g e (lay l 0 x) → w.grownBy w' (some g) → wpList P ops Q rest (a.put o.dst (goInt n)) w') :
    wpList P ops Q (o :: rest) a w := by
  obtain ⟨A, c, rfl, hh⟩ := id hx
  by_cases h0 : n = 0
  · have h0' : x.length = 0 := by omega
    refine wpList_copy_nothing hgd d s dT sT ho e hu hsz _ _ _ _ _ _ hd hs (by simp [h0, h0']) ?_
    have := hK w (by rw [List.eq_nil_of_length_eq_zero h0', lay_none]; exact hr) (World.grownBy.refl _ _)
    rw [h0] at this
    exact this
  · obtain ⟨ad, rfl, hc⟩ := hx.src x.length (Nat.le_refl _) (by omega)
    rw [List.take_length] at hc
    refine wpList_copy_own hgd d s dT sT ho e hu hsz g 0 n cap ad x.length c hd hs _ e hr (x.map bv) (by simp [hxn]) hc (by simp; omega) (bv_all _) ?_
    rw [List.length_map, hxn]
    refine hK _ ?_ ⟨rfl, rfl, rfl, by simp [World.setRow], fun k _ hk => setRow_other w g k _ (fun e => hk (by simp [e]))⟩
    unfold Row
    rw [setRow_heap w g _ _ e (0, 0) hr]
    congr 3
    have hlay : lay l 0 x = x ++ l.drop n := by
      apply ext_getD (by rw [lay_length]; simp; omega)
      intro i hi
      rw [lay_length] at hi
      rw [lay_getD _ _ _ _ hi, getD_append_if, getD_drop]
      by_cases hc : i < x.length
      · rw [if_pos (by omega), if_pos hc]; rfl
      · rw [if_neg (by omega), if_neg hc]
        congr 1
        omega
    rw [hlay]
    simp [List.map_drop]

/-- What can be done with a row of the call's own that has a byte. -/
theorem Own.form {w : World} {base : Nat} {e : TypeId} {v : Value} {l : List UInt8} (h : Own w base e v l) (hp : 0 < l.length) :
    ∃ g cap, v = .slice (some ⟨g, 0, none⟩) l.length cap ∧ base ≤ g ∧ (∀ j, j < l.length → w.cell? ⟨g, j, none⟩ = some (bv (l.getD j 0))) ∧ (∀ j, w.frozen? ⟨g, j, none⟩ = false) ∧
      ∀ j c, Own (w.setCell ⟨g, j, none⟩ (bv c)) base e v (l.set j c) ∧ w.grownBy (w.setCell ⟨g, j, none⟩ (bv c)) (some g) := by
  rcases h.2 with ⟨rfl, hn⟩ | ⟨g, cap, cur, rfl, hb, hg, hnc, hcm, hcs, htake⟩
  · omega
  · refine ⟨g, cap, rfl, hb, fun j hj => ?_, fun j => World.ownsRow.frozenAt h j, fun j c => ?_⟩
    · have := World.ownsRow.cellAt h j (by omega)
      rw [this]
      simp [List.getD, List.getElem?_eq_getElem hj]
    · have := World.ownsRow.stored h j (bv c)
      refine ⟨?_, this.2⟩
      unfold Own
      rw [List.length_set, List.map_set]
      exact this.1

/-- The slice v reads as the 64-bit numbers us. -/
def Us (w : World) (v : Value) (us : List Nat) : Prop :=
  ∃ A c, v = .slice A us.length c ∧ us.length ≤ c ∧ c ≤ maxLen ∧ (0 < us.length → ∃ b o, A = some ⟨b, o, none⟩ ∧ ∀ i, i < us.length → w.cell? ⟨b, o + i, none⟩ = some (.int .u64 (us.getD i 0 : Nat)) ∧ us.getD i 0 < 18446744073709551616)

theorem Us.ext {w w' : World} {v : Value} {l : List Nat} (h : Us w v l) (he : Ext w w') : Us w' v l := by
  obtain ⟨A, c, e, h1, h2, h3⟩ := h
  refine ⟨A, c, e, h1, h2, fun hp => ?_⟩
  obtain ⟨b, o, ea, hc⟩ := h3 hp
  exact ⟨b, o, ea, fun i hi => ⟨he.cell (hc i hi).1, (hc i hi).2⟩⟩
end Go.Proofs.Ytdlllihfibjabaa
