/- Rows of cells in memory, for elements of whatever size: no program's number is named here. -/
import Derived.Test.YtmojbekihbmdfaaByt
namespace Go.Proofs.Ytmojbekihbmdfaa
open Go.RowKit

/-- The slice v has n elements of s cells each, and reads as the cells cs. -/
def Rs (w : World) (s : Nat) (v : Value) (n : Nat) (cs : List Value) : Prop :=
  cs.length = n * s ∧ ∃ A c, v = .slice A n c ∧ n ≤ c ∧ c ≤ maxLen ∧ (0 < n → ∃ b o, A = some ⟨b, o, none⟩ ∧ ∀ i u, cs[i]? = some u → w.cell? ⟨b, o + i, none⟩ = some u)

theorem Rs.ext {w w' : World} {s n : Nat} {v : Value} {cs : List Value} (h : Rs w s v n cs) (he : Ext w w') : Rs w' s v n cs := by
  obtain ⟨h0, A, c, e, h1, h2, h3⟩ := h
  refine ⟨h0, A, c, e, h1, h2, fun hp => ?_⟩
  obtain ⟨b, o, ea, hc⟩ := h3 hp
  exact ⟨b, o, ea, fun i u hu => he.cell (hc i u hu)⟩
theorem Rs.nil (w : World) (s : Nat) : Rs w s (.slice none 0 0) 0 [] := ⟨by simp, none, 0, rfl, Nat.le_refl _, Nat.zero_le _, fun h => absurd h (by simp)⟩
theorem Rs.of_own {w : World} {base s n : Nat} {e : TypeId} {v : Value} {cs : List Value} (h : w.ownsRow base e s v n cs) : Rs w s v n cs := by
  obtain ⟨h1, h2⟩ := h
  rcases h2 with ⟨rfl, hn⟩ | ⟨g, cap, cur, rfl, hb, hg, hnc, hcm, hcs, htake⟩
  · subst hn
    exact ⟨h1, none, 0, rfl, Nat.le_refl _, Nat.zero_le _, fun h => absurd h (by simp)⟩
  · refine ⟨h1, _, _, rfl, hnc, hcm, fun _ => ⟨g, 0, rfl, fun i u hu => ?_⟩⟩
    rw [cell_of_row w g _ cur e (0, 0) hg, Nat.zero_add]
    rw [← htake, List.getElem?_take] at hu
    split at hu
    · simpa using hu
    · cases hu
/-- A block that was just made. -/
theorem Rs.new (w : World) (cs : List Value) (t : TypeId) (s n : Nat) (hl : cs.length = n * s) (hn : n ≤ maxLen) : Rs (w.alloc (.cells cs.toArray t)) s (.slice (some ⟨w.heap.size, 0, none⟩) n n) n cs :=
  ⟨hl, _, _, rfl, Nat.le_refl _, hn, fun _ => ⟨_, 0, rfl, fun i u hu => by
    rw [cell_of_row _ w.heap.size _ cs.toArray t (0, 0) (heap_alloc_new _ _), Nat.zero_add]
    simpa using hu⟩⟩
theorem Rs.cell {w : World} {s n : Nat} {A : Option Addr} {c : Nat} {cs : List Value} (h : Rs w s (.slice A n c) n cs) (hp : 0 < n) : ∃ b o, A = some ⟨b, o, none⟩ ∧ ∀ i u, cs[i]? = some u → w.cell? ⟨b, o + i, none⟩ = some u := by
  obtain ⟨_, A', c', e, _, _, h3⟩ := h
  injection e with e1 e2 e3
  subst e1
  exact h3 hp
/-- The first k elements. -/
theorem Rs.take {w : World} {s n : Nat} {A : Option Addr} {c : Nat} {cs : List Value} (h : Rs w s (.slice A n c) n cs) (k : Nat) (hk : k ≤ n) : Rs w s (.slice A k c) k (cs.take (k * s)) := by
  obtain ⟨h0, A', c', e, h1, h2, h3⟩ := h
  injection e with e1 e2 e3
  subst e1
  subst e3
  refine ⟨?_, A, c, rfl, by omega, h2, fun hp => ?_⟩
  · rw [List.length_take, h0]
    exact Nat.min_eq_left (Nat.mul_le_mul_right _ hk)
  · obtain ⟨b, o, ea, hc⟩ := h3 (by omega)
    refine ⟨b, o, ea, fun i u hu => hc i u ?_⟩
    rw [List.getElem?_take] at hu
    split at hu
    · exact hu
    · cases hu
/-- All from the element k on, as the model has it: at k = cap the address stays. -/
theorem Rs.drop {w : World} {s n : Nat} {A : Option Addr} {c : Nat} {cs : List Value} (h : Rs w s (.slice A n c) n cs) (k : Nat) (hk : k ≤ n) :
    Rs w s (.slice (if c = k then A else A.map (·.add (k * s))) (n - k) (c - k)) (n - k) (cs.drop (k * s)) := by
  obtain ⟨h0, A', c', e, h1, h2, h3⟩ := h
  injection e with e1 e2 e3
  subst e1
  subst e3
  refine ⟨by rw [List.length_drop, h0, Nat.sub_mul], _, _, rfl, by omega, by omega, fun hp => ?_⟩
  obtain ⟨b, o, rfl, hc⟩ := h3 (by omega)
  rw [if_neg (by omega)]
  refine ⟨b, o + k * s, ?_, fun i u hu => ?_⟩
  · show some (Addr.add _ _) = _
    unfold Addr.add
    split <;> simp_all
  · rw [List.getElem?_drop] at hu
    rw [Nat.add_assoc]
    exact hc _ _ hu

theorem own_ext {w w' : World} {base s n : Nat} {e : TypeId} {v : Value} {cs : List Value} (h : w.ownsRow base e s v n cs) (he : Ext w w') : w'.ownsRow base e s v n cs := by
  obtain ⟨h1, h2⟩ := h
  refine ⟨h1, ?_⟩
  rcases h2 with hn | ⟨g, cap, cur, e1, e2, hg, rest⟩
  · exact .inl hn
  · exact .inr ⟨g, cap, cur, e1, e2, he.block hg, rest⟩
theorem own_mono {w : World} {base base' s n : Nat} {e : TypeId} {v : Value} {cs : List Value} (h : w.ownsRow base e s v n cs) (hb : base' ≤ base) : w.ownsRow base' e s v n cs := by
  obtain ⟨h1, h2⟩ := h
  refine ⟨h1, ?_⟩
  rcases h2 with hn | ⟨g, cap, cur, e1, e2, rest⟩
  · exact .inl hn
  · exact .inr ⟨g, cap, cur, e1, by omega, rest⟩
theorem Ext.appendR {a w w' : World} {s n : Nat} {e : TypeId} {v : Value} {cs : List Value} (h : Ext a w) (ho : w.ownsRow a.heap.size e s v n cs) (k : w.grownBy w' v.ownBlock) : Ext a w' :=
  Below.grown h k h.size (fun j hj => (ho.lt j hj).1)
/-- A block below the row stays. -/
theorem own_block {w w' : World} {base s n : Nat} {e : TypeId} {v : Value} {cs : List Value} (ho : w.ownsRow base e s v n cs) (k : w.grownBy w' v.ownBlock) {g : Nat} (hg : g < base) {o : Obj} (h : w.heap[g]? = some o) : w'.heap[g]? = some o :=
  (k.block g (Array.getElem?_eq_some_iff.1 h).1 (fun e => by have := (ho.lt g e.symm).1; omega)).trans h

/-- append(v, src...), v a row of the call's own: the run. -/
theorem run_append_row {P : Program} {w : World} (t ty : TypeId) (base : Nat) (e : TypeId) (ht : P.underlying t = some (.slice e)) (z : Value) (sz bytes : Nat)
    (hinfo : (P.info? e).map (fun i => (i.zero, i.size, i.bytes)) = some (some z, sz, bytes)) (hzs : z.cells.size = sz) (hsz : 0 < sz)
    (v : Value) (n : Nat) (cs : List Value) (hown : w.ownsRow base e sz v n cs) (sv : Value) (m : Nat) (ds : List Value) (hb : Rs w sz sv m ds) (h1c : ∀ u ∈ ds, u.oneCell' = true)
    (hlen : n + m ≤ 1099511627776) (hby : bytes ≤ 128) (hbase : base ≤ w.heap.size) :
    ∃ v' w', (Builtin.append_ #[t, t] ty #[v, sv]).run P w = .ok v' w' ∧ w'.ownsRow base e sz v' (n + m) (cs ++ ds) ∧ w.grownBy w' v.ownBlock ∧ (v'.ownBlock = v.ownBlock ∨ v'.ownBlock = some w.heap.size) := by
  obtain ⟨i0, hi, hz0, hz1, hz2⟩ := info_parts hinfo
  obtain ⟨h0, A, c, rfl, h1, h2, h3⟩ := id hb
  have hbb : (n + m) * bytes ≤ 140737488355328 := Nat.le_trans (Nat.mul_le_mul hlen hby) (by decide)
  by_cases hm0 : m = 0
  · subst hm0
    obtain rfl : ds = [] := List.eq_nil_of_length_eq_zero (by rw [h0]; simp)
    have hrun : (Builtin.append_ #[t, t] ty #[v, .slice A 0 c]).run P w = .ok v w := by
      rcases hown.2 with ⟨rfl, hn⟩ | ⟨g, cap, cur, rfl, _, _, hnc, _⟩
      · rcases A with _ | ad <;> simp [Builtin.append_, run_underlying ht, sizeOf, typeInfo, hi, Builtin.lenOf, Builtin.firstCells, loadCells, loadCellsFrom]
      · rcases A with _ | ad <;> simp [Builtin.append_, run_underlying ht, sizeOf, typeInfo, hi, Builtin.lenOf, Builtin.firstCells, hnc, storeCells, loadCells, loadCellsFrom]
    exact ⟨v, w, hrun, by simpa using hown, World.grownBy.refl _ _, .inl rfl⟩
  · obtain ⟨b, o', rfl, hc⟩ := h3 (by omega)
    have hc' : ∀ j u, ds[j]? = some u → w.cell? ((⟨b, o', none⟩ : Addr).add j) = some u := by
      intro j u hu
      have hadd : (⟨b, o', none⟩ : Addr).add j = ⟨b, o' + j, none⟩ := by unfold Addr.add; split <;> simp_all
      rw [hadd]
      exact hc j u hu
    obtain ⟨v', w', hr, ho', hg', _, hat⟩ := run_append_own_at (P := P) w base t ty e i0 z sz bytes ht hi hz0 hz1 hz2 hzs hsz v n cs hown ⟨b, o', none⟩ m c ds h0 hc' h1c (by unfold maxLen; omega) hbb hbase
    exact ⟨v', w', hr, ho', hg', hat⟩
/-- append(v, src...), as a step of its own. -/
theorem step_append_row {P : Program} {w : World} {ops : Array Oper} {o : Oper} {a : Act} {K : Act → World → Prop} {Q : Exit → Act → World → Prop} (hgd : Region.wanted o (yielded ops a.tmps) = true) (s x : Operand) (t : TypeId)
    (ho : o.op = .call { callee := .builtin .append, args := #[s, x], argTypes := #[t, t] }) (base : Nat) (e : TypeId) (ht : P.underlying t = some (.slice e)) (z : Value) (sz bytes : Nat)
    (hinfo : (P.info? e).map (fun i => (i.zero, i.size, i.bytes)) = some (some z, sz, bytes)) (hzs : z.cells.size = sz) (hsz : 0 < sz)
    (v : Value) (n : Nat) (cs : List Value) (hs : a.eval s = v) (hown : w.ownsRow base e sz v n cs) (sv : Value) (m : Nat) (ds : List Value) (hx : a.eval x = sv) (hb : Rs w sz sv m ds) (h1c : ∀ u ∈ ds, u.oneCell' = true)
    (hlen : n + m ≤ 1099511627776) (hby : bytes ≤ 128) (hbase : base ≤ w.heap.size)
    (hK : ∀ v' w', w'.ownsRow base e sz v' (n + m) (cs ++ ds) → w.grownBy w' v.ownBlock → (v'.ownBlock = v.ownBlock ∨ v'.ownBlock = some w.heap.size) → K (a.put o.dst v') w') :
    if Region.wanted o (yielded ops a.tmps) = true then Oper.wp P o a w K Q else K (a.put o.dst undef) w := by
  obtain ⟨v', w', hr, h4, h5, h6⟩ := run_append_row (P := P) t o.type base e ht z sz bytes hinfo hzs hsz v n cs hown sv m ds hb h1c hlen hby hbase
  rw [if_pos hgd]
  unfold Oper.wp
  simp [execOp, ho, resolve, invoke, builtin, hs, hx, hr, Result.andThen]
  exact hK v' w' h4 h5 h6
/-- append(v, src...), v a row of the call's own. -/
theorem wpList_append_row {P : Program} {w : World} {ops : Array Oper} {rest : List Oper} {o : Oper} {a : Act} {Q : Exit → Act → World → Prop} (hgd : Region.wanted o (yielded ops a.tmps) = true) (s x : Operand) (t : TypeId)
    (ho : o.op = .call { callee := .builtin .append, args := #[s, x], argTypes := #[t, t] }) (base : Nat) (e : TypeId) (ht : P.underlying t = some (.slice e)) (z : Value) (sz bytes : Nat)
    (hinfo : (P.info? e).map (fun i => (i.zero, i.size, i.bytes)) = some (some z, sz, bytes)) (hzs : z.cells.size = sz) (hsz : 0 < sz)
    (v : Value) (n : Nat) (cs : List Value) (hs : a.eval s = v) (hown : w.ownsRow base e sz v n cs) (sv : Value) (m : Nat) (ds : List Value) (hx : a.eval x = sv) (hb : Rs w sz sv m ds) (h1c : ∀ u ∈ ds, u.oneCell' = true)
    (hlen : n + m ≤ 1099511627776) (hby : bytes ≤ 128) (hbase : base ≤ w.heap.size)
    (hK : ∀ v' w', w'.ownsRow base e sz v' (n + m) (cs ++ ds) → w.grownBy w' v.ownBlock → (v'.ownBlock = v.ownBlock ∨ v'.ownBlock = some w.heap.size) → wpList P ops Q rest (a.put o.dst v') w') :
    wpList P ops Q (o :: rest) a w :=
  wpList_step fun _ hK' => step_append_row hgd s x t ho base e ht z sz bytes hinfo hzs hsz v n cs hs hown sv m ds hx hb h1c hlen hby hbase fun v' w' h4 h5 h6 => hK' _ _ (hK v' w' h4 h5 h6)

/-- Whole numbers as cells. -/
def iv (n : Nat) : Value := .int .i64 (n : Int)
theorem iv_one (l : List Nat) : ∀ u ∈ l.map iv, u.oneCell' = true := by
  intro u hu
  obtain ⟨n, _, rfl⟩ := List.mem_map.1 hu
  rfl
/-- A row of whole numbers of the call's own. -/
def OwnI (w : World) (base : Nat) (e : TypeId) (v : Value) (l : List Nat) : Prop := w.ownsRow base e 1 v l.length (l.map iv)
theorem OwnI.rs {w : World} {base : Nat} {e : TypeId} {v : Value} {l : List Nat} (h : OwnI w base e v l) : Rs w 1 v l.length (l.map iv) := Rs.of_own h
end Go.Proofs.Ytmojbekihbmdfaa
