/- Rows of words: the append of many, and a store into the row. -/
import Derived.Test.YtjampleddeidaaaWsp
import Derived.Test.YtjampleddeidaaaByt
import Derived.Laws.CopyRow
namespace Go.Proofs.Ytjampleddeidaaa
open Go.ChangeShapes Go.WideShapes Go.ChangeAt Go.RowKit

set_option maxRecDepth 100000 in
theorem winfo3 : (Try.prog.info? 30).map (fun i => (i.zero, i.size, i.bytes)) = some (some (.agg #[.int .u64 0, .int .u64 0, .int .u64 0, .int .u64 0]), 4, 32) := by kernel_rfl

/-- The cells of words, one behind the other. -/
def wcs (l : List Nat) : List Value := l.flatMap fun n => (wc n).toList
set_option maxRecDepth 100000 in
theorem wcs_length (l : List Nat) : (wcs l).length = l.length * 4 := by
  unfold wcs
  induction l with
  | nil => rfl
  | cons x l ih => rw [List.flatMap_cons, List.length_append, ih]; simp [wc]; omega
set_option maxRecDepth 100000 in
theorem wcs_get (l : List Nat) : ∀ i j, i < l.length → j < 4 → (wcs l)[i * 4 + j]? = some (.int .u64 (lb (l.getD i 0) j : Nat)) := by
  induction l with
  | nil => intro i j h; simp at h
  | cons x l ih =>
    intro i j hi hj
    unfold wcs
    rw [List.flatMap_cons]
    have hx : (wc x).toList.length = 4 := rfl
    cases i with
    | zero =>
      rw [List.getElem?_append_left (by rw [hx]; omega)]
      have := wc_get x j hj
      simpa [List.getD, lv] using this
    | succ i =>
      rw [List.getElem?_append_right (by rw [hx]; omega), hx, show (i + 1) * 4 + j - 4 = i * 4 + j by omega]
      simpa [List.getD, wcs] using ih i j (by simpa using hi) hj
set_option maxRecDepth 100000 in
theorem wcs_one (l : List Nat) : ∀ u ∈ wcs l, u.oneCell' = true := by
  intro u hu
  unfold wcs at hu
  obtain ⟨n, _, hn⟩ := List.mem_flatMap.1 hu
  simp [wc, lv] at hn
  rcases hn with rfl | rfl | rfl | rfl <;> rfl

/-- A row of words of the call's own, in the block g. -/
def Bwk (W : World) (g n : Nat) (f : Nat → Nat) : Prop := ∃ cur, Cs W g 30 cur ∧ ∀ i, i < n → ∀ j, j < 4 → cur[i * 4 + j]? = some (.int .u64 (lb (f i) j : Nat))
set_option maxRecDepth 100000 in
theorem Bwk.ext {W W' : World} {g n : Nat} {f : Nat → Nat} (h : Bwk W g n f) (he : Ext W W') : Bwk W' g n f := by
  obtain ⟨cur, h1, h2⟩ := h
  exact ⟨cur, h1.ext he, h2⟩
set_option maxRecDepth 100000 in
theorem Bwk.ws {W : World} {g n cap : Nat} {l : List Nat} (h : Bwk W g n fun i => l.getD i 0) (hn : l.length = n) (h1 : n ≤ cap) (h2 : cap ≤ maxLen) (hl : ∀ x ∈ l, x < M256) : Ws W (.slice (some ⟨g, 0, none⟩) n cap) l := by
  obtain ⟨cur, hc, hg⟩ := h
  refine ⟨_, cap, by rw [hn], by omega, h2, fun hp => ⟨g, 0, rfl, fun i hi j hj => ?_⟩, fun i hi => ?_⟩
  · rw [Nat.zero_add]
    exact hc.cell _ _ (hg i (by omega) j hj)
  · apply hl
    simp [List.getD, List.getElem?_eq_getElem hi]

set_option maxRecDepth 100000 in
theorem Ws.src {w : World} {A : Option Addr} {n c : Nat} {l : List Nat} (h : Ws w (.slice A n c) l) (hp : 0 < l.length) :
    ∃ ad, A = some ad ∧ ∀ j u, (wcs l)[j]? = some u → w.cell? (ad.add j) = some u := by
  obtain ⟨A', c', e, h1, h2, h3, h4⟩ := h
  injection e with e1 e2 e3
  subst e1
  obtain ⟨b, o, rfl, hc⟩ := h3 hp
  refine ⟨_, rfl, fun j u hu => ?_⟩
  have hj : j < l.length * 4 := by
    have := (List.getElem?_eq_some_iff.1 hu).1
    rwa [wcs_length] at this
  have hadd : (⟨b, o, none⟩ : Addr).add j = ⟨b, o + j, none⟩ := by unfold Addr.add; split <;> simp_all
  have := wcs_get l (j / 4) (j % 4) (by omega) (by omega)
  rw [show j / 4 * 4 + j % 4 = j by omega, hu] at this
  rw [hadd, this, ← hc (j / 4) (by omega) (j % 4) (by omega)]
  congr 2
  omega

set_option maxRecDepth 100000 in
/-- append([]Word{}, src...). -/
theorem wpList_append_words {w : World} {ops : Array Oper} {rest : List Oper} {o : Oper} {a : Act} {Q : Exit → Act → World → Prop} (hgd : Region.wanted o (yielded ops a.tmps) = true) (s x : Operand) (t : TypeId)
    (ho : o.op = .call { callee := .builtin .append, args := #[s, x], argTypes := #[t, t] }) (base g0 : Nat) (ht : Try.prog.underlying t = some (.slice 30))
    (hs : a.eval s = .slice (some ⟨g0, 0, none⟩) 0 0) (hg0 : Cs w g0 30 #[]) (hb0 : base ≤ g0) (sv : Value) (l : List Nat) (hx : a.eval x = sv) (hb : Ws w sv l) (hlen : l.length ≤ 1000000)
    (hK : ∀ g cap w', Bwk w' g l.length (fun i => l.getD i 0) → l.length ≤ cap → cap ≤ maxLen → base ≤ g → w.grownBy w' (some g0) → wpList Try.prog ops Q rest (a.put o.dst (.slice (some ⟨g, 0, none⟩) l.length cap)) w') :
    wpList Try.prog ops Q (o :: rest) a w := by
  obtain ⟨i0, hi, hz0, hz1, hz2⟩ := info_parts winfo3
  have hown : w.ownsRow base 30 4 (.slice (some ⟨g0, 0, none⟩) 0 0) 0 [] := ⟨by simp, .inr ⟨g0, 0, #[], rfl, hb0, hg0, Nat.le_refl _, Nat.zero_le _, by simp, by simp⟩⟩
  obtain ⟨A, c, rfl, h1, h2, h3, h4⟩ := id hb
  have hrun : ∃ g cap w', (Builtin.append_ #[t, t] o.type #[.slice (some ⟨g0, 0, none⟩) 0 0, .slice A l.length c]).run Try.prog w = .ok (.slice (some ⟨g, 0, none⟩) l.length cap) w' ∧ Bwk w' g l.length (fun i => l.getD i 0) ∧ l.length ≤ cap ∧ cap ≤ maxLen ∧ base ≤ g ∧ w.grownBy w' (some g0) := by
    by_cases h0 : l.length = 0
    · obtain rfl : l = [] := List.eq_nil_of_length_eq_zero h0
      refine ⟨g0, 0, w, ?_, ⟨_, hg0, fun i h => absurd h (by simp)⟩, Nat.le_refl _, Nat.zero_le _, hb0, World.grownBy.refl _ _⟩
      rcases A with _ | ad <;> simp [Builtin.append_, run_underlying ht, sizeOf, typeInfo, hi, Builtin.lenOf, Builtin.firstCells, storeCells, loadCells, loadCellsFrom]
    · obtain ⟨ad, rfl, hc⟩ := hb.src (by omega)
      obtain ⟨v', w', hr, ho', hg', _, hat⟩ := run_append_own_at (P := Try.prog) w base t o.type 30 i0 _ 4 32 ht hi hz0 hz1 hz2 rfl (by omega) _ 0 [] hown ad l.length c (wcs l) (wcs_length l) hc (wcs_one l) (by unfold maxLen; omega) (by omega) (Nat.le_trans hb0 (Nat.le_of_lt hg0.lt))
      rcases ho'.2 with ⟨rfl, hn⟩ | ⟨g, cap, cur, rfl, hbg, hgg, hnc, hcm, hcs, htake⟩
      · omega
      · rw [Nat.zero_add] at hr hnc htake
        refine ⟨g, cap, w', hr, ⟨cur, hgg, fun i hi' j hj => ?_⟩, hnc, hcm, hbg, hg'⟩
        have := wcs_get l i j hi' hj
        rw [List.nil_append] at htake
        rw [← htake, List.getElem?_take] at this
        split at this
        · simpa using this
        · cases this
  obtain ⟨g, cap, w', hr, k1, k2, k3, k4, k5⟩ := hrun
  refine wpList_step fun K hK' => ?_
  rw [if_pos hgd]
  unfold Oper.wp
  simp [execOp, ho, resolve, invoke, builtin, hs, hx, hr, Result.andThen]
  exact hK' _ _ (hK g cap w' k1 k2 k3 k4 k5)

set_option maxRecDepth 100000 in
theorem run_storeVar_elem {P : Program} (w : World) (g o : Nat) (t ty : TypeId) (cur cells : Array Value) (hg : Cs w g t cur) (hi : (P.info? ty).map (·.size) = some cells.size) (hb : o + cells.size ≤ cur.size) (h1 : cells.all (·.oneCell') = true) :
    (storeVar ty ⟨g, o, none⟩ (.agg cells)).run P w = .ok () (w.setRow g (cur.toList.take o ++ cells.toList ++ cur.toList.drop (o + cells.size)).toArray) := by
  have := run_storeCells_at (P := P) g o t cells.toList 0 cur w hg (by simpa using hb) (fun v hv => (Array.all_eq_true_iff_forall_mem.1 h1) v (by simpa using hv))
  cases hq : P.info? ty with
  | none => simp [hq] at hi
  | some i =>
    have hs : cells.size = i.size := by simp [hq] at hi; omega
    simp only [Nat.add_zero, Array.length_toList] at this
    simp [storeVar, sizeOf, typeInfo, hq, Value.cells, hs]
    simpa [hs] using this

set_option maxRecDepth 100000 in
theorem Bwk.size {W : World} {g n : Nat} {f : Nat → Nat} (h : Bwk W g n f) : ∃ cur, Cs W g 30 cur ∧ n * 4 ≤ cur.size ∧ ∀ i, i < n → ∀ j, j < 4 → cur[i * 4 + j]? = some (.int .u64 (lb (f i) j : Nat)) := by
  obtain ⟨cur, h1, h2⟩ := h
  refine ⟨cur, h1, ?_, h2⟩
  by_cases h0 : n = 0
  · omega
  · have := (Array.getElem?_eq_some_iff.1 (h2 (n - 1) (by omega) 3 (by omega))).1
    omega

set_option maxRecDepth 100000 in
/-- A word is stored into a row of words. -/
theorem wpList_store_elem {ops : Array Oper} {rest : List Oper} {o : Oper} {a : Act} {w : World} {Q : Exit → Act → World → Prop} (hgd : o.guard = none) (hd : o.dst = none) (x y : Operand) (ho : o.op = .store 30 x y)
    (g N : Nat) (f : Nat → Nat) (k n : Nat) (hxo : ∃ off, a.eval x = .pointer (some ⟨g, off, none⟩) ∧ off = k * 4) (hy : a.eval y = wv n) (hg : Bwk w g N f) (hk : k < N)
    (h : ∀ w', Bwk w' g N (fun i => if i = k then n else f i) → w.grownBy w' (some g) → wpList Try.prog ops Q rest a w') : wpList Try.prog ops Q (o :: rest) a w := by
  have h' : ∀ w', Bwk w' g N (fun i => if i = k then n else f i) → w.grownBy w' (some g) → wpList Try.prog ops Q rest (a.put o.dst undef) w' := by rw [hd]; exact h
  obtain ⟨cur, h1, h2, h3⟩ := hg.size
  obtain ⟨off, hx, rfl⟩ := hxo
  have hsz : (wc n).size = 4 := rfl
  have hrun := run_storeVar_elem (P := Try.prog) w g (k * 4) 30 30 cur (wc n) h1 winfo (by rw [hsz]; omega) (wc_one n)
  refine wpList_plain hgd fun K hK => ?_
  unfold Oper.wp execOp
  simp only [ho, hx, hy, wv, Instr.storeAt, Instr.sureAddr, Sem.run_bind, Sem.run_pure, Result.andThen_ok, hrun]
  refine hK _ _ (h' _ ⟨_, setRow_heap w g _ _ 30 (0, 0) h1, fun i hi j hj => ?_⟩ ⟨rfl, rfl, rfl, by simp [World.setRow], fun q _ hq => setRow_other w g q _ (fun e => hq (by simp [e]))⟩)
  have hl1 : (cur.toList.take (k * 4)).length = k * 4 := by simp; omega
  have hl2 : (wc n).toList.length = 4 := rfl
  rw [hsz]
  simp only [List.getElem?_toArray]
  by_cases hik : i = k
  · subst hik
    rw [if_pos rfl, List.getElem?_append_left (by rw [List.length_append, hl1, hl2]; omega), List.getElem?_append_right (by rw [hl1]; omega), hl1, show i * 4 + j - i * 4 = j by omega]
    simpa [lv] using wc_get n j hj
  · rw [if_neg hik, ← h3 i hi j hj]
    by_cases hlt : i < k
    · rw [List.getElem?_append_left (by rw [List.length_append, hl1, hl2]; omega), List.getElem?_append_left (by rw [hl1]; omega), List.getElem?_take, if_pos (by omega)]
      simp
    · rw [List.getElem?_append_right (by rw [List.length_append, hl1, hl2]; omega), List.length_append, hl1, hl2, List.getElem?_drop, show k * 4 + 4 + (i * 4 + j - (k * 4 + 4)) = i * 4 + j by omega]
      simp

set_option maxRecDepth 100000 in
theorem Ks.app {w W W' : World} {l : List (Nat × Nat)} {row : Option Nat} (h : Ks w l W) (he : Ext w W') (hg : W.grownBy W' row) (hn : ∀ x ∈ l, some x.1 ≠ row) : Ks w l W' := ⟨fun x hx => (h.1 x hx).kept hg (hn x hx), he⟩
set_option maxRecDepth 100000 in
theorem wcs_snoc (l : List Nat) (n : Nat) : wcs l ++ (wc n).toList = wcs (l ++ [n]) := by simp [wcs]
set_option maxRecDepth 100000 in
theorem wc_ones (n : Nat) : ∀ u ∈ (wc n).toList, u.oneCell' = true := fun u hu => Array.all_eq_true_iff_forall_mem.1 (wc_one n) u (by simpa using hu)
set_option maxRecDepth 100000 in
/-- A row of words of the call's own reads as these words. -/
theorem own_ws {W : World} {base n : Nat} {t : TypeId} {v : Value} {l : List Nat} (h : W.ownsRow base t 4 v n (wcs l)) (hn : n = l.length) (hl : ∀ x ∈ l, x < M256) : Ws W v l := by
  subst hn
  obtain ⟨_, A, c, e, h1, h2, h3⟩ := Rs.of_own h
  refine ⟨A, c, e, h1, h2, fun hp => ?_, fun i hi => hl _ (by simp [List.getD, List.getElem?_eq_getElem hi])⟩
  obtain ⟨b, o, ea, hc⟩ := h3 hp
  exact ⟨b, o, ea, fun i hi j hj => by rw [Nat.add_assoc]; exact hc _ _ (wcs_get l i j hi hj)⟩
end Go.Proofs.Ytjampleddeidaaa
