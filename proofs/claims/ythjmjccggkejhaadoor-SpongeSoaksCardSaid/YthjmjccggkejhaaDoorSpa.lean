/- Contracts of package sponge: the small functions below the others. -/
import Derived.Test.YthjmjccggkejhaaDoorRows
import Derived.Test.YthjmjccggkejhaaDoorWra
import Derived.Test.YthjmjccggkejhaaDoorMga
import Derived.RegionTactic
import Derived.Deep.QuietTactic
import Derived.BigQuiet
import Derived.Laws.BitsAllLaws
namespace Go.Proofs.YthjmjccggkejhaaDoor
open Go.RowKit

set_option maxRecDepth 100000 in
theorem ret_i {k : IntKind} {a b : Int} (h : a = b) : Ending.returned (.int k a) = .returned (.int k b) := by rw [h]
/-- The place of a lane. -/
def nm (x y : Nat) : Nat := 5 * (y % 5) + x % 5
set_option maxRecDepth 100000 in
theorem nm_lt (x y : Nat) : nm x y < 25 := by unfold nm; omega

set_option maxRecDepth 100000 in
theorem number_any (x y : Nat) (w : World) (hx : x ≤ 1000) (hy : y ≤ 1000) :
    Calls Tryd.prog 49 #[.int .i64 x, .int .i64 y] w fun e w' => e = .returned (.int .i64 (nm x y : Nat)) ∧ w = w' := by
  go_enter Tryd.func49, Tryd.ntmps49
  go_wp2
  go_ret
  exact ⟨ret_i (by unfold nm; omega), rfl⟩

set_option maxRecDepth 100000 in
theorem len64_all (w : World) : Calls Tryd.prog 69 #[.int .u64 18446744073709551615] w fun e w' => e = .returned (.int .i64 64) ∧ w = w' := by
  go_enter Tryd.func69, Tryd.ntmps69
  go_wp2
  go_ret
  exact ⟨ret_i (by decide +kernel), rfl⟩

/-- A number turned left. -/
def rot (n a : Nat) : Nat := a * 2 ^ n % 18446744073709551616 ||| a / 2 ^ (64 - n)
set_option maxRecDepth 100000 in
theorem rot_lt (n a : Nat) (ha : a < 18446744073709551616) : rot n a < 18446744073709551616 := by
  unfold rot
  rw [show (18446744073709551616 : Nat) = 2 ^ 64 from rfl] at *
  exact Nat.or_lt_two_pow (Nat.mod_lt _ (by decide)) (Nat.lt_of_le_of_lt (Nat.div_le_self _ _) ha)

set_option maxRecDepth 100000 in
theorem turned_any (n a : Nat) (w : World) (hn : n < 64) (ha : a < 18446744073709551616) :
    Calls Tryd.prog 50 #[.int .u64 n, .int .u64 a] w fun e w' => e = .returned (.int .u64 (rot n a : Nat)) ∧ w = w' := by
  go_enter Tryd.func50, Tryd.ntmps50
  go_wp2_with fail
  rw [show bits BinOp.xor IntKind.u64 IntKind.u64.max 0 = 18446744073709551615 by decide +kernel]
  refine (len64_all _).mono ?_
  rintro e w' ⟨rfl, rfl⟩
  go_wp2_with fail
  have hw : IntKind.u64.wrap ((a : Int) * 2 ^ n) = ((a * 2 ^ n % 18446744073709551616 : Nat) : Int) := by
    simp [IntKind.wrap, IntKind.bits, IntKind.signed]
  have hd : ((a : Int) / 2 ^ (64 - n)) = ((a / 2 ^ (64 - n) : Nat) : Int) := by simp
  go_ret
  refine ⟨ret_i ?_, rfl⟩
  rw [hw, hd, u64_or_nat _ _ (Nat.mod_lt _ (by decide)) (Nat.lt_of_le_of_lt (Nat.div_le_self _ _) ha)]
  rfl

/-! ### Lanes -/
/-- The cells of n numbers. -/
def nc (n : Nat) (f : Nat → Nat) : Array Value := ((List.range n).map fun i => lv (f i)).toArray
set_option maxRecDepth 100000 in
theorem nc_size (n : Nat) (f : Nat → Nat) : (nc n f).size = n := by simp [nc]
set_option maxRecDepth 100000 in
theorem nc_get (n : Nat) (f : Nat → Nat) (i : Nat) (h : i < n) : (nc n f)[i]? = some (lv (f i)) := by simp [nc, h]
set_option maxRecDepth 100000 in
theorem nc_set (n : Nat) (f : Nat → Nat) (k v : Nat) : (nc n f).setIfInBounds k (lv v) = nc n fun i => if i = k then v else f i := by
  unfold nc
  rw [List.setIfInBounds_toArray]
  congr 1
  apply List.ext_getElem (by simp)
  intro i h1 h2
  rw [List.getElem_set]
  by_cases hk : k = i
  · subst hk; simp
  · rw [if_neg hk]; simp [Ne.symm hk]
/-- The cells of lanes. -/
def lc (f : Nat → Nat) : Array Value := nc 25 f
/-- Lanes as a value. -/
def lnv (f : Nat → Nat) : Value := .agg (lc f)
set_option maxRecDepth 100000 in
theorem lc_size (f : Nat → Nat) : (lc f).size = 25 := rfl
set_option maxRecDepth 100000 in
theorem lc_one (f : Nat → Nat) : (lc f).all (·.oneCell') = true := by simp [lc, nc, lv, Value.oneCell']
set_option maxRecDepth 100000 in
theorem lc_get (f : Nat → Nat) (i : Nat) (h : i < 25) : (lc f)[i]? = some (lv (f i)) := nc_get 25 f i h
set_option maxRecDepth 100000 in
theorem lc_set (f : Nat → Nat) (k v : Nat) : (lc f).setIfInBounds k (lv v) = lc fun i => if i = k then v else f i := nc_set 25 f k v
set_option maxRecDepth 100000 in
theorem lc_congr {f g : Nat → Nat} (h : ∀ i, i < 25 → f i = g i) : lc f = lc g := by
  unfold lc nc
  congr 1
  apply List.map_congr_left
  intro i hi
  rw [h i (by simpa using hi)]
/-- Each lane fits. -/
def Lok (f : Nat → Nat) : Prop := ∀ i, i < 25 → f i < 18446744073709551616
/-- The block g holds the lanes f. -/
def Ln (W : World) (g : Nat) (f : Nat → Nat) : Prop := Cs W g 35 (lc f)
set_option maxRecDepth 100000 in
theorem Ln.ext {W W' : World} {g : Nat} {f : Nat → Nat} (h : Ln W g f) (he : Ext W W') : Ln W' g f := Cs.ext h he
set_option maxRecDepth 100000 in
theorem Ln.kept {W W' : World} {g : Nat} {f : Nat → Nat} {row : Option Nat} (h : Ln W g f) (he : W.grownBy W' row) (hne : some g ≠ row) : Ln W' g f := Cs.kept h he hne
set_option maxRecDepth 100000 in
theorem Ln.cell {W : World} {g : Nat} {f : Nat → Nat} (h : Ln W g f) (i : Nat) (hi : i < 25) : W.cell? ⟨g, i, none⟩ = some (.int .u64 (f i : Nat)) := Cs.cell h i _ (lc_get f i hi)
set_option maxRecDepth 100000 in
theorem Ln.set {W : World} {g : Nat} {f : Nat → Nat} (h : Ln W g f) (k v : Nat) : Ln (W.setCell ⟨g, k, none⟩ (.int .u64 (v : Nat))) g (fun i => if i = k then v else f i) := by
  unfold Ln
  rw [← lc_set f k v]
  exact Cs.set h k (lv v)
set_option maxRecDepth 100000 in
theorem linfo : (Tryd.prog.info? 35).map (·.size) = some 25 := by kernel_rfl
set_option maxRecDepth 100000 in
theorem lc_zero : lc (fun _ => 0) = #[.int .u64 0, .int .u64 0, .int .u64 0, .int .u64 0, .int .u64 0, .int .u64 0, .int .u64 0, .int .u64 0, .int .u64 0, .int .u64 0, .int .u64 0, .int .u64 0, .int .u64 0, .int .u64 0, .int .u64 0, .int .u64 0, .int .u64 0, .int .u64 0, .int .u64 0, .int .u64 0, .int .u64 0, .int .u64 0, .int .u64 0, .int .u64 0, .int .u64 0] := rfl
set_option maxRecDepth 100000 in
/-- Lanes are loaded. -/
theorem wpList_load_lanes {ops : Array Oper} {rest : List Oper} {o : Oper} {a : Act} {w : World} {Q : Exit → Act → World → Prop} (hgd : Region.wanted o (yielded ops a.tmps) = true) (x : Operand) (ho : o.op = .load 35 x)
    (g : Nat) (f : Nat → Nat) (hx : a.eval x = .pointer (some ⟨g, 0, none⟩)) (hg : Ln w g f) (h : wpList Tryd.prog ops Q rest (a.put o.dst (lnv f)) w) : wpList Tryd.prog ops Q (o :: rest) a w := by
  refine wpList_step fun K hK => ?_
  rw [if_pos hgd]
  exact wp_load_row 35 x ho g hx 35 (lc f) (0, 0) _ hg Tryd.underlying35 rfl linfo (hK _ _ h)
set_option maxRecDepth 100000 in
/-- Lanes are stored. -/
theorem wpList_store_lanes {ops : Array Oper} {rest : List Oper} {o : Oper} {a : Act} {w : World} {Q : Exit → Act → World → Prop} (hgd : o.guard = none) (hd : o.dst = none) (x y : Operand) (ho : o.op = .store 35 x y)
    (g : Nat) (old : Array Value) (f : Nat → Nat) (hx : a.eval x = .pointer (some ⟨g, 0, none⟩)) (hy : a.eval y = lnv f) (hg : Cs w g 35 old) (hold : old.size = 25)
    (h : ∀ w', Ln w' g f → w.grownBy w' (some g) → wpList Tryd.prog ops Q rest a w') : wpList Tryd.prog ops Q (o :: rest) a w := by
  have h' : ∀ w', Ln w' g f → w.grownBy w' (some g) → wpList Tryd.prog ops Q rest (a.put o.dst undef) w' := by rw [hd]; exact h
  refine wpList_store_row hgd 35 x y ho g (lc f) hx hy 35 old hg linfo hold (lc_one f) (h' _ ?_ ?_)
  · exact setRow_heap w g _ _ 35 (0, 0) hg
  · exact ⟨rfl, rfl, rfl, by simp [World.setRow], fun k _ hk => setRow_other w g k _ (fun e => hk (by simp [e]))⟩
set_option maxRecDepth 100000 in
theorem results_lanes {fn : Func} {p : Tmp} (h : fn.results = #[.cell p 35]) (tmps : Array Value) (w : World) (g : Nat) (f : Nat → Nat) (hp : tmps.getD p undef = .pointer (some ⟨g, 0, none⟩)) (hg : Ln w g f) : (results fn tmps).run Tryd.prog w = .ok (lnv f) w :=
  results_cell_row h tmps w g 35 (lc f) (0, 0) _ hp hg Tryd.underlying35 rfl linfo
/-- A block known whole, but for its type. -/
def Tk (W : World) (g : Nat) (c : Array Value) : Prop := ∃ t p, W.heap[g]? = some (.cells c t p)
set_option maxRecDepth 100000 in
theorem Tk.ext {W W' : World} {g : Nat} {c : Array Value} (h : Tk W g c) (he : Ext W W') : Tk W' g c := by
  obtain ⟨t, p, h⟩ := h
  exact ⟨t, p, he.block h⟩
set_option maxRecDepth 100000 in
theorem Tk.lt {W : World} {g : Nat} {c : Array Value} (h : Tk W g c) : g < W.heap.size := by
  obtain ⟨t, p, h⟩ := h
  exact (Array.getElem?_eq_some_iff.1 h).1
set_option maxRecDepth 100000 in
theorem Tk.kept {W W' : World} {g : Nat} {c : Array Value} {row : Option Nat} (h : Tk W g c) (he : W.grownBy W' row) (hne : some g ≠ row) : Tk W' g c := by
  have hl := h.lt
  obtain ⟨t, p, h⟩ := h
  exact ⟨t, p, (he.block g hl hne).trans h⟩
set_option maxRecDepth 100000 in
theorem Tk.cell {W : World} {g : Nat} {c : Array Value} (h : Tk W g c) (i : Nat) (v : Value) (hi : c[i]? = some v) : W.cell? ⟨g, i, none⟩ = some v := by
  obtain ⟨t, p, h⟩ := h
  rw [cell_of_row W g i _ t p h]
  exact hi
end Go.Proofs.YthjmjccggkejhaaDoor
