/- Words in memory, within a fence; and the contract of Div. -/
import Derived.Test.YtgmmkoahnednfaaWrf
namespace Go.Proofs.Ytgmmkoahnednfaa
open Go.RowKit Go.Shelf
attribute [local go_sem] Oper.semAt_some

set_option maxRecDepth 100000 in
theorem wpListIn_load_word {F : Fence} {n : Nat} {P : Program} {ops : Array Oper} {rest : List Oper} {o : Oper} {a : Act} {w : World} {Q : Exit → Act → World → Prop} (hgd : o.guard = none) (ty e : TypeId) (x : Operand) (ho : o.op = .load ty x)
    (hu : P.underlying ty = some (.array 4 e)) (hi : (P.info? ty).map (·.size) = some 4) (g m : Nat) (hx : a.eval x = .pointer (some ⟨g, 0, none⟩)) (hg : Wd w g ty m)
    (h : wpListIn F n P ops Q rest (a.put o.dst (wv m)) w) : wpListIn F n P ops Q (o :: rest) a w := by
  refine wpListIn_plain hgd fun K hK => ?_
  unfold Oper.wpIn
  refine ⟨by simp [Oper.about, ho], ?_⟩
  rw [Oper.semAt_plain F _ _ (by rw [ho]; intro c hc'; cases hc')]
  simp only [execOp, ho, hx, Instr.loadAt, Instr.sureAddr, Sem.run_bind, Sem.run_pure, Result.andThen_ok, run_loadVar_row w g ty ty (wc m) (0, 0) _ hg hu rfl hi]
  exact hK _ _ h

set_option maxRecDepth 100000 in
theorem wpListIn_store_word {F : Fence} {n : Nat} {P : Program} {ops : Array Oper} {rest : List Oper} {o : Oper} {a : Act} {w : World} {Q : Exit → Act → World → Prop} (hgd : o.guard = none) (hd : o.dst = none) (ty : TypeId) (x y : Operand) (ho : o.op = .store ty x y)
    (hi : (P.info? ty).map (·.size) = some 4) (g : Nat) (old : Array Value) (m : Nat) (hx : a.eval x = .pointer (some ⟨g, 0, none⟩)) (hy : a.eval y = wv m) (hg : Cs w g ty old) (hold : old.size = 4)
    (h : ∀ w', Wd w' g ty m → w.grownBy w' (some g) → wpListIn F n P ops Q rest a w') : wpListIn F n P ops Q (o :: rest) a w := by
  have h' : ∀ w', Wd w' g ty m → w.grownBy w' (some g) → wpListIn F n P ops Q rest (a.put o.dst undef) w' := by rw [hd]; exact h
  refine wpListIn_plain hgd fun K hK => ?_
  unfold Oper.wpIn
  refine ⟨by simp [Oper.about, ho], ?_⟩
  rw [Oper.semAt_plain F _ _ (by rw [ho]; intro c hc'; cases hc')]
  have hi' : (P.info? ty).map (·.size) = some (wc m).size := hi
  simp only [execOp, ho, hx, hy, wv, Instr.storeAt, Instr.sureAddr, Sem.run_bind, Sem.run_pure, Result.andThen_ok, run_storeVar_row w g ty ty old (wc m) hg hi' hold (wc_one m)]
  refine hK _ _ (h' _ ?_ ?_)
  · exact setRow_heap w g _ _ ty (0, 0) hg
  · exact ⟨rfl, rfl, rfl, by simp [World.setRow], fun k _ hk => setRow_other w g k _ (fun e => hk (by simp [e]))⟩

set_option maxRecDepth 100000 in
theorem wpListIn_eql_word {F : Fence} {n : Nat} {ops : Array Oper} {rest : List Oper} {o : Oper} {a : Act} {w : World} {Q : Exit → Act → World → Prop} (hgd : o.guard = none) (x y : Operand) (ho : o.op = .binOp .eql 27 x y 27)
    (k m : Nat) (hn : k < M256) (hm : m < M256) (hx : a.eval x = wv k) (hy : a.eval y = wv m) (h : wpListIn F n Try.prog ops Q rest (a.put o.dst (.bool (k == m))) w) : wpListIn F n Try.prog ops Q (o :: rest) a w := by
  refine wpListIn_plain hgd fun K hK => ?_
  unfold Oper.wpIn
  refine ⟨by simp [Oper.about, ho], ?_⟩
  rw [Oper.semAt_plain F _ _ (by rw [ho]; intro c hc'; cases hc')]
  simp only [execOp, ho, hx, hy, wv, Sem.run_bind, run_guard_eql, Result.andThen_ok, run_eql_word k m hn hm]
  exact hK _ _ h

/-- What a round of a loop over bits leaves: whatever is no cells, and the two blocks g and h. -/
def Stp (g h : Nat) (W W' : World) : Prop := KeepsOthers W W' ∧ Kp2 g h W W'
set_option maxRecDepth 100000 in
theorem Stp.refl (g h : Nat) (W : World) : Stp g h W W := ⟨KeepsOthers.refl W, rfl, rfl⟩
set_option maxRecDepth 100000 in
theorem Stp.trans {g h : Nat} {A B C : World} (x : Stp g h A B) (y : Stp g h B C) : Stp g h A C := ⟨x.1.trans y.1, y.2.1.trans x.2.1, y.2.2.trans x.2.2⟩
set_option maxRecDepth 100000 in
theorem Stp.ext {g h : Nat} {W W' : World} (he : Ext W W') (hg : g < W.heap.size) (hh : h < W.heap.size) : Stp g h W W' :=
  ⟨KeepsOthers.of_grownBy (grown_of_ext he none) (fun j o e => by cases e), Below.block he g hg, Below.block he h hh⟩
set_option maxRecDepth 100000 in
theorem Stp.put {g h b : Nat} {t : TypeId} {cs : Array Value} {W W' : World} (hr : W.grownBy W' (some b)) (hc : Cs W b t cs) (hg : g < W.heap.size) (hh : h < W.heap.size) (n1 : g ≠ b) (n2 : h ≠ b) : Stp g h W W' :=
  ⟨KeepsOthers.of_grownBy hr (fun j o e ho => by injection e with e; subst e; unfold Cs at hc; rw [hc] at ho; injection ho with ho; subst ho; rfl), hr.block g hg (by intro e; injection e with e; exact n1 e), hr.block h hh (by intro e; injection e with e; exact n2 e)⟩

set_option maxRecDepth 100000 in
theorem Kp2.tr {g h : Nat} {A B C : World} (x : Kp2 g h A B) (y : Kp2 g h B C) : Kp2 g h A C := ⟨y.1.trans x.1, y.2.trans x.2⟩
set_option maxRecDepth 100000 in
theorem Kp2.putObj {g h B : Nat} (hg : g < B) (hh : h < B) (W : World) (l : Nat) (o o' : Obj) (hl : B ≤ l) (_ : W.heap[l]? = some o) (_ : o.isCells = false) (_ : o.isWalk = false) : Kp2 g h W (W.putObj l o') :=
  ⟨World.putObj_heap_other (by omega), World.putObj_heap_other (by omega)⟩

set_option maxRecDepth 100000 in
theorem two_laid {W : World} {g h : Nat} {t : TypeId} {m m' : Nat} (hg : Cs W g t (wc m)) (hh : Cs W h t (wc m')) (hne : g ≠ h) (q r : Nat) (Y : World)
    (hY : Y = ((((((((W.setCell ⟨g, 0, none⟩ (.int .u64 (lb q 0 : Nat))).setCell ⟨g, 1, none⟩ (.int .u64 (lb q 1 : Nat))).setCell ⟨g, 2, none⟩ (.int .u64 (lb q 2 : Nat))).setCell ⟨g, 3, none⟩ (.int .u64 (lb q 3 : Nat))).setCell ⟨h, 0, none⟩ (.int .u64 (lb r 0 : Nat))).setCell ⟨h, 1, none⟩ (.int .u64 (lb r 1 : Nat))).setCell ⟨h, 2, none⟩ (.int .u64 (lb r 2 : Nat))).setCell ⟨h, 3, none⟩ (.int .u64 (lb r 3 : Nat))).drew) :
    Wd Y g t q ∧ Wd Y h t r ∧ KeepsOthers W Y ∧ ∀ a : World, Ext a W → a.heap.size ≤ g → a.heap.size ≤ h → Ext a Y := by
  subst hY
  refine ⟨?_, ?_, ?_, ?_⟩
  · have h1 := (((hg.set 0 (.int .u64 (lb q 0 : Nat))).set 1 (.int .u64 (lb q 1 : Nat))).set 2 (.int .u64 (lb q 2 : Nat))).set 3 (.int .u64 (lb q 3 : Nat))
    exact ((((h1.kept (grown_set _ h 0 _) (some_ne hne)).kept (grown_set _ h 1 _) (some_ne hne)).kept (grown_set _ h 2 _) (some_ne hne)).kept (grown_set _ h 3 _) (some_ne hne)).drew
  · have h1 := (((hh.kept (grown_set _ g 0 (.int .u64 (lb q 0 : Nat))) (some_ne hne.symm)).kept (grown_set _ g 1 (.int .u64 (lb q 1 : Nat))) (some_ne hne.symm)).kept (grown_set _ g 2 (.int .u64 (lb q 2 : Nat))) (some_ne hne.symm)).kept (grown_set _ g 3 (.int .u64 (lb q 3 : Nat))) (some_ne hne.symm)
    exact ((((h1.set 0 _).set 1 _).set 2 _).set 3 _).drew
  · exact ((((((((KeepsOthers.setCell _ _ _).trans (KeepsOthers.setCell _ _ _)).trans (KeepsOthers.setCell _ _ _)).trans (KeepsOthers.setCell _ _ _)).trans (KeepsOthers.setCell _ _ _)).trans (KeepsOthers.setCell _ _ _)).trans (KeepsOthers.setCell _ _ _)).trans (KeepsOthers.setCell _ _ _)).trans (KeepsOthers.drew _)
  · intro a he h1 h2
    exact ((((((((he.grown (grown_set _ _ _ _) h1).grown (grown_set _ _ _ _) h1).grown (grown_set _ _ _ _) h1).grown (grown_set _ _ _ _) h1).grown (grown_set _ _ _ _) h2).grown (grown_set _ _ _ _) h2).grown (grown_set _ _ _ _) h2).grown (grown_set _ _ _ _) h2).drew

/-- One round of a division: what was there, and what is left. -/
def divS (a b : Nat) (s : Nat × Nat) (k : Nat) : Nat × Nat :=
  if b ≤ ((s.2 + s.2) % M256 ||| dBits a 1 k * 2 ^ 0) then (s.1 ||| 1 * 2 ^ dAt 1 k, (((s.2 + s.2) % M256 ||| dBits a 1 k * 2 ^ 0) + M256 - b) % M256) else (s.1, (s.2 + s.2) % M256 ||| dBits a 1 k * 2 ^ 0)
/-- What the rounds of pre come to. -/
def divL (a b : Nat) (pre : List Nat) : Nat × Nat := pre.foldl (divS a b) (0, 0)
set_option maxRecDepth 100000 in
theorem divL_snoc (a b : Nat) (pre : List Nat) (k : Nat) : divL a b (pre ++ [k]) = divS a b (divL a b pre) k := by simp [divL]

set_option maxRecDepth 100000 in
theorem dBits_lt (n wd k : Nat) : dBits n wd k < 2 ^ wd := Nat.mod_lt _ (Nat.two_pow_pos _)
set_option maxRecDepth 100000 in
theorem divR_lt (a r k : Nat) : (r % M256 ||| dBits a 1 k * 2 ^ 0) < M256 := by
  have h := dBits_lt a 1 k
  rw [M256_pow]
  refine Nat.or_lt_two_pow (Nat.mod_lt _ (Nat.two_pow_pos _)) ?_
  have : (2 : Nat) ^ 1 ≤ 2 ^ 256 := Nat.pow_le_pow_right (by decide) (by decide)
  omega
set_option maxRecDepth 100000 in
theorem divS_lt (a b : Nat) (s : Nat × Nat) (k : Nat) (h1 : s.1 < M256) (_h2 : s.2 < M256) : (divS a b s k).1 < M256 ∧ (divS a b s k).2 < M256 := by
  unfold divS
  split
  · refine ⟨?_, Nat.mod_lt _ (by decide)⟩
    rw [M256_pow] at *
    refine Nat.or_lt_two_pow h1 ?_
    rw [Nat.one_mul]
    exact Nat.pow_lt_pow_right (by decide) (by unfold dAt; omega)
  · exact ⟨h1, divR_lt _ _ _⟩
set_option maxRecDepth 100000 in
theorem divL_lt (a b : Nat) (pre : List Nat) : (divL a b pre).1 < M256 ∧ (divL a b pre).2 < M256 := by
  unfold divL
  suffices h : ∀ s : Nat × Nat, s.1 < M256 → s.2 < M256 → (pre.foldl (divS a b) s).1 < M256 ∧ (pre.foldl (divS a b) s).2 < M256 from h (0, 0) (by decide) (by decide)
  induction pre with
  | nil => exact fun s h1 h2 => ⟨h1, h2⟩
  | cons k pre ih => exact fun s h1 h2 => ih _ (divS_lt a b s k h1 h2).1 (divS_lt a b s k h1 h2).2

/-- What lies between two rounds of a division that began at w. -/
def DvI (w : World) (b q r : Nat) (W : World) : Prop :=
  w.heap.size + 8 ≤ W.heap.size ∧ Wd W (w.heap.size + 1) 27 b ∧ Cs W (w.heap.size + 1 + 1) 27 (wc 0) ∧ Cs W (w.heap.size + 1 + 1 + 1) 27 (wc 0) ∧ Wd W (w.heap.size + 1 + 1 + 1 + 1) 27 q ∧ Wd W (w.heap.size + 1 + 1 + 1 + 1 + 1) 27 r ∧ Ext w W
set_option maxRecDepth 100000 in
theorem DvI.ext {w : World} {b q r : Nat} {W W' : World} (h : DvI w b q r W) (he : Ext W W') : DvI w b q r W' := by
  obtain ⟨h0, h1, h2, h3, h4, h5, h6⟩ := h
  exact ⟨Nat.le_trans h0 he.size, h1.ext he, h2.ext he, h3.ext he, h4.ext he, h5.ext he, h6.trans he⟩
set_option maxRecDepth 100000 in
theorem DvI.far {w : World} {b q r : Nat} {W W' : World} {row : Option Nat} (h : DvI w b q r W) (he : W.grownBy W' row) (hg : ∀ g, row = some g → w.heap.size + 8 ≤ g) : DvI w b q r W' := by
  obtain ⟨h0, h1, h2, h3, h4, h5, h6⟩ := h
  have hn : ∀ j, j < w.heap.size + 8 → some j ≠ row := fun j hj e => by have := hg j e.symm; omega
  exact ⟨Nat.le_trans h0 he.size, h1.kept he (hn _ (by omega)), h2.kept he (hn _ (by omega)), h3.kept he (hn _ (by omega)), h4.kept he (hn _ (by omega)), h5.kept he (hn _ (by omega)), Below.grown h6 he h6.size (fun j hj => by have := hg j hj; omega)⟩
set_option maxRecDepth 100000 in
theorem DvI.setR {w : World} {b q r r' : Nat} {W W' : World} (h : DvI w b q r W) (he : W.grownBy W' (some (w.heap.size + 1 + 1 + 1 + 1 + 1))) (hr : Wd W' (w.heap.size + 1 + 1 + 1 + 1 + 1) 27 r') : DvI w b q r' W' := by
  obtain ⟨h0, h1, h2, h3, h4, h5, h6⟩ := h
  exact ⟨Nat.le_trans h0 he.size, h1.kept he (some_ne (by omega)), h2.kept he (some_ne (by omega)), h3.kept he (some_ne (by omega)), h4.kept he (some_ne (by omega)), hr, h6.grown he (by omega)⟩
set_option maxRecDepth 100000 in
theorem DvI.setQ {w : World} {b q r q' : Nat} {W W' : World} (h : DvI w b q r W) (he : W.grownBy W' (some (w.heap.size + 1 + 1 + 1 + 1))) (hr : Wd W' (w.heap.size + 1 + 1 + 1 + 1) 27 q') : DvI w b q' r W' := by
  obtain ⟨h0, h1, h2, h3, h4, h5, h6⟩ := h
  exact ⟨Nat.le_trans h0 he.size, h1.kept he (some_ne (by omega)), h2.kept he (some_ne (by omega)), h3.kept he (some_ne (by omega)), hr, h5.kept he (some_ne (by omega)), h6.grown he (by omega)⟩
set_option maxRecDepth 100000 in
theorem DvI.own {w : World} {b : Nat} {B : Nat} (hB : w.heap.size + 8 ≤ B) (f : List Nat → Nat × Nat) : OwnFrom B (fun pre W => DvI w b (f pre).1 (f pre).2 W) := by
  intro s A A' row h hg hr
  exact h.far hg (fun g e => Nat.le_trans hB (hr g e).1)

set_option maxRecDepth 100000 in
set_option maxHeartbeats 2000000 in
theorem div_some (a b : Nat) (w : World) (hb : b < M256) (hb0 : (b == 0) = false) :
    Calls Try.prog 24 #[wv a, wv b] w fun e w' => e = .returned (.tuple #[wv (divL a b (List.range 256)).1, wv (divL a b (List.range 256)).2]) ∧ Ext w w' := by
  refine (callsIn_wide (n := 9)).1 ?_
  refine callsIn_of_wp_marks Try.func24 rfl trivial ?_ rfl
  simp only [Try.ntmps24, List.size_toArray, List.length_cons, List.length_nil, Nat.reduceAdd, Nat.reduceSub, Array.replicate_succ, Array.replicate_zero, List.push_toArray, List.append_toArray, List.nil_append, List.cons_append]
  unfold wv
  gi_wp2_with (first
    | ((with_reducible refine wpListIn_load_word rfl 27 25 (.tmp 3) rfl Try.underlying27 winfo (w.heap.size + 1) b ?_ ?_ ?_); (exact rfl); (exact ((((Cs.new _ _ _ _ (by simp)).alloc _).alloc _).alloc _).alloc _))
    | ((with_reducible refine wpListIn_load_word rfl 27 25 (.tmp 6) rfl Try.underlying27 winfo (w.heap.size + 1 + 1 + 1 + 1) 0 ?_ ?_ ?_); (exact rfl); (exact (Cs.new _ _ _ _ (by simp)).alloc _))
    | ((with_reducible refine wpListIn_load_word rfl 27 25 (.tmp 2) rfl Try.underlying27 winfo w.heap.size a ?_ ?_ ?_); (exact rfl); (exact (((((Cs.new _ _ _ _ (by simp)).alloc _).alloc _).alloc _).alloc _).alloc _))
    | ((with_reducible refine wpListIn_eql_word rfl (.tmp 12) (.tmp 13) rfl b 0 hb (by decide) ?_ ?_ ?_); (exact rfl); (exact rfl); rw [hb0]))
  refine ⟨trivial, ?_⟩
  refine (callsIn_wide.2 (downward_any a 1 _ rfl _)).mono ?_
  rintro e w1 ⟨g, h, rfl, hg, hh, c1, c2, hz, he⟩
  have hg' : g = w.heap.size + 7 := by rw [hg]; simp
  have hh' : h = w.heap.size + 6 := by rw [hh]; simp
  have hz' : w1.heap.size = w.heap.size + 8 := by rw [hz]; simp
  have hI0 : DvI w b 0 0 w1 :=
    ⟨by omega, Cs.ext (((((Cs.new _ _ _ _ (by simp)).alloc _).alloc _).alloc _).alloc _) he, Cs.ext ((((Cs.new _ _ _ _ (by simp)).alloc _).alloc _).alloc _) he, Cs.ext (((Cs.new _ _ _ _ (by simp)).alloc _).alloc _) he, Cs.ext ((Cs.new _ _ _ _ (by simp)).alloc _) he, Cs.ext (Cs.new _ _ _ _ (by simp)) he, Ext.trans (((((((Ext.refl w).alloc _).alloc _).alloc _).alloc _).alloc _).alloc _) he⟩
  clear hg hh hz he
  have HI0 : Hid (DvI w b (divL a b []).1 (divL a b []).2 w1) := hI0
  clear hI0
  subst hg'
  subst hh'
  gi_wp2_with fail
  refine wpIn_rangeFunc_ownG rfl (by decide) (gf := 87) (lb := #[.pointer (some ⟨w.heap.size + 7, 0, none⟩), .pointer (some ⟨w.heap.size + 6, 0, none⟩)]) rfl trivial (enters_of Try.func87 (by kernel_rfl) rfl)
    (down1_stops 8 a 1 256 (w.heap.size + 7) (w.heap.size + 6) (by decide) (by decide) (by decide) (by decide) (by decide) w1 c1 c2) Kp2.tr (Kp2.putObj (by omega) (by omega)) (Below.refl _ _) (fun _ => rfl)
    (fun pre W => DvI w b (divL a b pre).1 (divL a b pre).2 W) (fun _ _ _ => False) (DvI.own (by omega) (divL a b)) (fun _ _ _ _ _ hs _ _ => hs) HI0.out
    (fun x => { tmps := #[.agg (wc a), .agg (wc b), .pointer (some ⟨w.heap.size, 0, none⟩), .pointer (some ⟨w.heap.size + 1, 0, none⟩), .pointer (some ⟨w.heap.size + 1 + 1, 0, none⟩), .pointer (some ⟨w.heap.size + 1 + 1 + 1, 0, none⟩), .pointer (some ⟨w.heap.size + 1 + 1 + 1 + 1, 0, none⟩), .pointer (some ⟨w.heap.size + 1 + 1 + 1 + 1 + 1, 0, none⟩), .int .i64 (dAt 1 x : Nat), .int .u64 (dBits a 1 x : Nat), undef, undef, wv b, wv 0, .bool false, undef, undef, wv a, .func (.func 87) #[] #[.pointer (some ⟨w.heap.size + 7, 0, none⟩), .pointer (some ⟨w.heap.size + 6, 0, none⟩)], .int .i64 (dAt 1 x : Nat), .int .u64 (dBits a 1 x : Nat), undef, undef, undef, undef, undef, undef, undef, undef, undef, undef, undef, undef, undef, undef, undef, undef, undef, undef, undef, undef, undef, undef, undef, undef], defers := [] }) ?assign ?body ?done ?stop
  case assign =>
    intro l x W K hK
    unfold dEnc
    gi_wp2
    exact hK
  case body =>
    rintro l pre x W hI _
    obtain ⟨hq, hr⟩ := divL_lt a b pre
    obtain ⟨q, r, hqr⟩ : ∃ q r, divL a b pre = (q, r) := ⟨_, _, rfl⟩
    rw [hqr] at hI hq hr
    dsimp only at hI hq hr
    have HQR := Lib.hid hqr
    clear hqr
    have hz := hI.1
    obtain ⟨_, h1, h2, h3, h4, h5, h6⟩ := id hI
    have HI := Lib.hid hI
    clear hI h2 h3 h6
    gi_wp2_with ((with_reducible refine wpListIn_load_word rfl 27 25 (.tmp 7) rfl Try.underlying27 winfo (w.heap.size + 1 + 1 + 1 + 1 + 1) r ?_ ?_ ?_); (exact rfl); (exact h5))
    refine ⟨trivial, ?_⟩
    refine (CallsIn.inRound l (callsIn_wide.2 (add_any r r _ hr hr))).mono ?_
    rintro e W1 ⟨rfl, he1⟩
    have I1 := Lib.hid (HI.out.ext he1)
    have S1 := Lib.hid (Stp.ext (g := w.heap.size + 7) (h := w.heap.size + 6) he1 (by omega) (by omega))
    have hz1 := he1.size
    clear he1 h1 h4 h5 HI
    gi_wp2_with (first
      | ((with_reducible refine wpListIn_store_word rfl rfl 27 (.tmp 10) (.tmp 25) rfl winfo W1.heap.size (wc 0) ((r + r) % M256) ?_ ?_ ?_ ?_ ?_); (exact rfl); (exact rfl); (exact heap_alloc_new _ _); (exact rfl); intro W2 k2 g2)
      | ((with_reducible refine wpListIn_load_word rfl 27 25 (.tmp 10) rfl Try.underlying27 winfo W1.heap.size ((r + r) % M256) ?_ ?_ ?_); (exact rfl); (exact k2)))
    have I2 := Lib.hid ((I1.out.ext ((Ext.refl W1).alloc _)).far g2 (fun g e => by injection e with e; omega))
    have S2 := Lib.hid ((S1.out.trans (Stp.ext ((Ext.refl W1).alloc _) (by omega) (by omega))).trans (Stp.put g2 (heap_alloc_new _ _) (by simp; omega) (by simp; omega) (by omega) (by omega)))
    have hz2 : W1.heap.size + 1 ≤ W2.heap.size := by have := g2.size; simpa using this
    have hbit := dBits_lt a 1 x
    clear g2 I1 S1
    refine ⟨trivial, ?_⟩
    refine (CallsIn.inRound l (callsIn_wide.2 (with_or ((r + r) % M256) 0 (dBits a 1 x) _ _ rfl rfl _ (by decide) (by simp; omega)))).mono ?_
    rintro e W3 ⟨rfl, he3⟩
    have I3 := Lib.hid (I2.out.ext he3)
    have S3 := Lib.hid (S2.out.trans (Stp.ext he3 (by omega) (by omega)))
    have hz3 := he3.size
    have c5 := I3.out.2.2.2.2.2.1
    have hr2 := divR_lt a (r + r) x
    have HS := Lib.hid (show divS a b (q, r) x = if b ≤ ((r + r) % M256 ||| dBits a 1 x * 2 ^ 0) then (q ||| 1 * 2 ^ dAt 1 x, (((r + r) % M256 ||| dBits a 1 x * 2 ^ 0) + M256 - b) % M256) else (q, (r + r) % M256 ||| dBits a 1 x * 2 ^ 0) from rfl)
    clear he3 I2 S2 k2
    generalize (r + r) % M256 ||| dBits a 1 x * 2 ^ 0 = r2 at *
    have hle0 : (decide (0 ≤ cmpN r2 b) = true ∧ b ≤ r2) ∨ (decide (0 ≤ cmpN r2 b) = false ∧ ¬ b ≤ r2) := by
      unfold cmpN
      by_cases h : b ≤ r2
      · left
        refine ⟨?_, h⟩
        rw [if_neg (by omega)]
        split <;> simp
      · right
        refine ⟨?_, h⟩
        rw [if_pos (by omega)]
        simp
    have b3 : Wd W3 (w.heap.size + 1) 27 b := I3.out.2.1
    gi_wp2_with (first
      | ((with_reducible refine wpListIn_store_word rfl rfl 27 (.tmp 7) (.tmp 29) rfl winfo (w.heap.size + 1 + 1 + 1 + 1 + 1) (wc r) r2 ?_ ?_ ?_ ?_ ?_); (exact rfl); (exact rfl); (exact c5.cs); (exact rfl); intro W4 k4 g4)
      | ((with_reducible refine wpListIn_load_word rfl 27 25 (.tmp 7) rfl Try.underlying27 winfo (w.heap.size + 1 + 1 + 1 + 1 + 1) r2 ?_ ?_ ?_); (exact rfl); (exact k4))
      | ((with_reducible refine wpListIn_load_word rfl 27 25 (.tmp 3) rfl Try.underlying27 winfo (w.heap.size + 1) b ?_ ?_ ?_); (exact rfl); (exact (b3.kept g4 (some_ne (by omega))))))
    have I4 := Lib.hid (I3.out.setR g4 k4)
    have S4 := Lib.hid (S3.out.trans (Stp.put g4 c5.cs (by omega) (by omega) (by omega) (by omega)))
    have hz4 := g4.size
    clear g4 c5 I3 S3 k4 b3
    refine ⟨trivial, ?_⟩
    refine (CallsIn.inRound l (callsIn_wide.2 (cmp_any r2 b _ hr2 hb))).mono ?_
    rintro e W5 ⟨rfl, he5⟩
    have I5 := Lib.hid (I4.out.ext he5)
    have S5 := Lib.hid (S4.out.trans (Stp.ext he5 (by omega) (by omega)))
    have hz5 := he5.size
    clear he5 I4 S4
    have HL := Lib.hid hle0
    rcases hle0 with ⟨hc, hle⟩ | ⟨hc, hle⟩
    · have d5 := I5.out.2.2.2.2.2.1
      have b5 : Wd W5 (w.heap.size + 1) 27 b := I5.out.2.1
      gi_wp2_with (first
        | ((with_reducible refine wpListIn_load_word rfl 27 25 (.tmp 7) rfl Try.underlying27 winfo (w.heap.size + 1 + 1 + 1 + 1 + 1) r2 ?_ ?_ ?_); (exact rfl); (exact d5))
        | ((with_reducible refine wpListIn_load_word rfl 27 25 (.tmp 3) rfl Try.underlying27 winfo (w.heap.size + 1) b ?_ ?_ ?_); (exact rfl); (exact b5)))
      refine ⟨trivial, ?_⟩
      refine (CallsIn.inRound l (callsIn_wide.2 (sub_any r2 b _ hr2 hb))).mono ?_
      rintro e W6 ⟨rfl, he6⟩
      have I6 := Lib.hid (I5.out.ext he6)
      have S6 := Lib.hid (S5.out.trans (Stp.ext he6 (by omega) (by omega)))
      have hz6 := he6.size
      have c6 := I6.out.2.2.2.2.2.1
      have q6 : Wd W6 (w.heap.size + 1 + 1 + 1 + 1) 27 q := I6.out.2.2.2.2.1
      clear he6 I5 S5 d5 b5
      gi_wp2_with (first
        | ((with_reducible refine wpListIn_store_word rfl rfl 27 (.tmp 7) (.tmp 38) rfl winfo (w.heap.size + 1 + 1 + 1 + 1 + 1) (wc r2) ((r2 + M256 - b) % M256) ?_ ?_ ?_ ?_ ?_); (exact rfl); (exact rfl); (exact c6.cs); (exact rfl); intro W7 k7 g7)
        | ((with_reducible refine wpListIn_load_word rfl 27 25 (.tmp 6) rfl Try.underlying27 winfo (w.heap.size + 1 + 1 + 1 + 1) q ?_ ?_ ?_); (exact rfl); (exact (q6.kept g7 (some_ne (by omega))))))
      have I7 := Lib.hid (I6.out.setR g7 k7)
      have S7 := Lib.hid (S6.out.trans (Stp.put g7 c6.cs (by omega) (by omega) (by omega) (by omega)))
      have hz7 := g7.size
      clear g7 c6 I6 S6 k7 q6
      refine ⟨trivial, ?_⟩
      have hat : dAt 1 x < 256 := by unfold dAt; omega
      have hp64 : 2 ^ (dAt 1 x % 64) < 2 ^ 64 := Nat.pow_lt_pow_right (by decide) (Nat.mod_lt _ (by decide))
      refine (CallsIn.inRound l (callsIn_wide.2 (with_or q (dAt 1 x) 1 _ _ rfl rfl _ hat (by rw [Nat.one_mul]; exact hp64)))).mono ?_
      rintro e W8 ⟨rfl, he8⟩
      generalize q ||| 1 * 2 ^ dAt 1 x = q2 at *
      have I8 := Lib.hid (I7.out.ext he8)
      have S8 := Lib.hid (S7.out.trans (Stp.ext he8 (by omega) (by omega)))
      have hz8 := he8.size
      have c8 := I8.out.2.2.2.2.1
      clear he8 I7 S7
      gi_wp2_with ((with_reducible refine wpListIn_store_word rfl rfl 27 (.tmp 6) (.tmp 42) rfl winfo (w.heap.size + 1 + 1 + 1 + 1) (wc q) q2 ?_ ?_ ?_ ?_ ?_); (exact rfl); (exact rfl); (exact c8.cs); (exact rfl); intro W9 k9 g9)
      refine ⟨(S8.out.trans (Stp.put g9 c8.cs (by omega) (by omega) (by omega) (by omega))).1.from _, (S8.out.trans (Stp.put g9 c8.cs (by omega) (by omega) (by omega) (by omega))).2, ?_⟩
      show DvI w b (divL a b (pre ++ [x])).1 (divL a b (pre ++ [x])).2 W9
      rw [divL_snoc, HQR.out, HS.out, if_pos hle]
      exact I8.out.setQ g9 k9
    · gi_wp2_with fail
      refine ⟨S5.out.1.from _, S5.out.2, ?_⟩
      show DvI w b (divL a b (pre ++ [x])).1 (divL a b (pre ++ [x])).2 W5
      rw [divL_snoc, HQR.out, HS.out, if_neg hle]
      exact I5.out
  case done =>
    rintro D ys W hD rfl hI hK
    obtain ⟨h0, h1, h2, h3, h4, h5, h6⟩ := hI
    generalize hq : (divL a b (List.range 256)).1 = q at *
    generalize hr : (divL a b (List.range 256)).2 = r at *
    have HQ := Lib.hid hq
    have HR := Lib.hid hr
    clear hq hr
    have HK := Lib.hid hK
    have HX := Lib.hid h6
    have HK2 := Lib.hid h2
    have HK3 := Lib.hid h3
    obtain ⟨p0, p1, p2, p3⟩ := h2.four
    obtain ⟨q0, q1, q2, q3⟩ := h3.four
    obtain ⟨r0, r1, r2, r3⟩ := h4.cs.four
    obtain ⟨s0, s1, s2, s3⟩ := h5.cs.four
    have f0 := h2.frozen 0
    have f1 := h2.frozen 1
    have f2 := h2.frozen 2
    have f3 := h2.frozen 3
    have g0 := h3.frozen 0
    have g1 := h3.frozen 1
    have g2 := h3.frozen 2
    have g3 := h3.frozen 3
    have hmx : Try.prog.follows .mixedOrders = true := by kernel_rfl
    clear hK h1 h2 h3 h4 h5 h6 HI0 c1 c2 h0
    gi_wp2_with fail
    gi_region
    clear p0 p1 p2 p3 q0 q1 q2 q3 r0 r1 r2 r3 s0 s1 s2 s3 f0 f1 f2 f3 g0 g1 g2 g3
    have HY := Lib.hid (two_laid HK2.out HK3.out (by omega) q r _ rfl)
    generalize ((((((((W.setCell ⟨w.heap.size + 1 + 1, 0, none⟩ (.int .u64 (lb q 0 : Nat))).setCell ⟨w.heap.size + 1 + 1, 1, none⟩ (.int .u64 (lb q 1 : Nat))).setCell ⟨w.heap.size + 1 + 1, 2, none⟩ (.int .u64 (lb q 2 : Nat))).setCell ⟨w.heap.size + 1 + 1, 3, none⟩ (.int .u64 (lb q 3 : Nat))).setCell ⟨w.heap.size + 1 + 1 + 1, 0, none⟩ (.int .u64 (lb r 0 : Nat))).setCell ⟨w.heap.size + 1 + 1 + 1, 1, none⟩ (.int .u64 (lb r 1 : Nat))).setCell ⟨w.heap.size + 1 + 1 + 1, 2, none⟩ (.int .u64 (lb r 2 : Nat))).setCell ⟨w.heap.size + 1 + 1 + 1, 3, none⟩ (.int .u64 (lb r 3 : Nat))).drew = Y at *
    gi_wp2_with fail
    obtain ⟨y1, y2, y3, y4⟩ := HY.out
    have hK' := y3.same D _ HK.out rfl
    refine ⟨by simp, .inl ⟨_, _, rfl, run_takeDeferred hK', ?_⟩⟩
    refine ⟨_, results_word_word Try.results24 _ _ (w.heap.size + 1 + 1) q (w.heap.size + 1 + 1 + 1) r rfl (y1.kept (grownBy_putObj' _ D (.deferred none)) (some_ne (by omega))) rfl (y2.kept (grownBy_putObj' _ D (.deferred none)) (some_ne (by omega))) Try.underlying27 winfo, by rw [HQ.out, HR.out]; rfl, ?_⟩
    exact (y4 w HX.out (by omega) (by omega)).grown (grownBy_putObj' _ D (.deferred none)) (by omega)
  case stop =>
    rintro D c pre W _ _ h _
    exact h.elim
end Go.Proofs.Ytgmmkoahnednfaa
