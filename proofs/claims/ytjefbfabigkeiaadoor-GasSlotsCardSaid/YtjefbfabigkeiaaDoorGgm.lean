/- Package gas: savings and callings that came in. -/
import Derived.Test.YtjefbfabigkeiaaDoorGsu
import Derived.Test.YtjefbfabigkeiaaDoorRbe
namespace Go.Proofs.YtjefbfabigkeiaaDoor
open Go.ChangeShapes Go.WideShapes Go.ChangeAt Go.RowKit Go.Shelf

/-- The cells of a saving, of a calling. -/
def svc (a n : Nat) (c : Bool) : Array Value := #[.int .u64 (lb a 0 : Nat), .int .u64 (lb a 1 : Nat), .int .u64 (lb a 2 : Nat), .int .u64 (lb a 3 : Nat), .int .u64 (lb n 0 : Nat), .int .u64 (lb n 1 : Nat), .int .u64 (lb n 2 : Nat), .int .u64 (lb n 3 : Nat), .bool c]
def clc (c v n : Bool) : Array Value := #[.bool c, .bool v, .bool n]
set_option maxRecDepth 100000 in
theorem svc_one (a n : Nat) (c : Bool) : (svc a n c).all (·.oneCell') = true := by simp [svc, Value.oneCell']
set_option maxRecDepth 100000 in
theorem clc_one (c v n : Bool) : (clc c v n).all (·.oneCell') = true := by simp [clc, Value.oneCell']
def SvR (cs : List Value) (q : Nat × Nat × Bool) : Prop := (q.1 < M256 ∧ q.2.1 < M256) ∧ cs = (svc q.1 q.2.1 q.2.2).toList
def ClR (cs : List Value) (q : Bool × Bool × Bool) : Prop := cs = (clc q.1 q.2.1 q.2.2).toList
set_option maxRecDepth 100000 in
theorem svinfo : (Tryd.prog.info? 44).map (·.size) = some 9 := by kernel_rfl
set_option maxRecDepth 100000 in
theorem clinfo : (Tryd.prog.info? 48).map (·.size) = some 3 := by kernel_rfl
set_option maxRecDepth 100000 in
theorem sv_trod {H : Type} {enc : TypeId × Value → H} {W : World} {f : Nat → Bool} {b : Bool} {fuel : Nat} {cs : List Value} {x : DataW H × List MemPlace} (h : DataW.trod enc Tryd.prog W 0 f b fuel 44 cs = some x) : ∃ z, SvR cs z := by
  obtain ⟨xs, n, _, _, hl, hlen, hf⟩ := DataW.trod_struct Tryd.underlying44 h
  have hC : Tryd.prog.cellsOf 44 = 9 := by kernel_rfl
  have hB : Tryd.prog.cellsOf 4 = 1 := by kernel_rfl
  have hW : Tryd.prog.cellsOf 36 = 4 := by kernel_rfl
  rw [hC] at hl
  match xs, hlen with
  | [y0, y1, y2], _ =>
    have h0 : DataW.trod enc Tryd.prog W 0 f b n 36 ((cs.drop 0).take (Tryd.prog.cellsOf 36)) = some y0 := by simpa using hf 0 _ rfl
    have h1 : DataW.trod enc Tryd.prog W 0 f b n 36 ((cs.drop 4).take (Tryd.prog.cellsOf 36)) = some y1 := by simpa using hf 1 _ rfl
    have h2 : DataW.trod enc Tryd.prog W 0 f b n 4 ((cs.drop 8).take (Tryd.prog.cellsOf 4)) = some y2 := by simpa using hf 2 _ rfl
    rw [hW] at h0 h1
    rw [hB] at h2
    obtain ⟨z0, b0, hl0, hc0⟩ := word_trod h0
    have e0 := wc_list z0 _ hl0 hc0
    obtain ⟨z1, b1, hl1, hc1⟩ := word_trod h1
    have e1 := wc_list z1 _ hl1 hc1
    obtain ⟨c, e2, _⟩ := DataW.trod_bool Tryd.underlying4 h2
    refine ⟨(z0, z1, c), ⟨b0, b1⟩, ?_⟩
    have e : cs = (cs.drop 0).take 4 ++ ((cs.drop 4).take 4 ++ (cs.drop 8).take 1) := by
      rw [List.take_of_length_le (show (cs.drop 8).length ≤ 1 by rw [List.length_drop]; omega), show cs.drop 8 = (cs.drop 4).drop 4 by rw [List.drop_drop], List.take_append_drop, show cs.drop 4 = (cs.drop 0).drop 4 by rw [List.drop_drop], List.take_append_drop]
      rfl
    rw [e, e0, e1, e2]
    rfl
set_option maxRecDepth 100000 in
theorem cl_trod {H : Type} {enc : TypeId × Value → H} {W : World} {f : Nat → Bool} {b : Bool} {fuel : Nat} {cs : List Value} {x : DataW H × List MemPlace} (h : DataW.trod enc Tryd.prog W 0 f b fuel 48 cs = some x) : ∃ z, ClR cs z := by
  obtain ⟨xs, n, _, _, hl, hlen, hf⟩ := DataW.trod_struct Tryd.underlying48 h
  have hC : Tryd.prog.cellsOf 48 = 3 := by kernel_rfl
  have hB : Tryd.prog.cellsOf 4 = 1 := by kernel_rfl
  rw [hC] at hl
  match xs, hlen with
  | [y0, y1, y2], _ =>
    have h0 : DataW.trod enc Tryd.prog W 0 f b n 4 ((cs.drop 0).take (Tryd.prog.cellsOf 4)) = some y0 := by simpa using hf 0 _ rfl
    have h1 : DataW.trod enc Tryd.prog W 0 f b n 4 ((cs.drop 1).take (Tryd.prog.cellsOf 4)) = some y1 := by simpa using hf 1 _ rfl
    have h2 : DataW.trod enc Tryd.prog W 0 f b n 4 ((cs.drop 2).take (Tryd.prog.cellsOf 4)) = some y2 := by simpa using hf 2 _ rfl
    rw [hB] at h0 h1 h2
    obtain ⟨c0, e0, _⟩ := DataW.trod_bool Tryd.underlying4 h0
    obtain ⟨c1, e1, _⟩ := DataW.trod_bool Tryd.underlying4 h1
    obtain ⟨c2, e2, _⟩ := DataW.trod_bool Tryd.underlying4 h2
    refine ⟨(c0, c1, c2), ?_⟩
    have e : cs = (cs.drop 0).take 1 ++ ((cs.drop 1).take 1 ++ (cs.drop 2).take 1) := by
      rw [List.take_of_length_le (show (cs.drop 2).length ≤ 1 by rw [List.length_drop]; omega), show cs.drop 2 = (cs.drop 1).drop 1 by rw [List.drop_drop], List.take_append_drop, show cs.drop 1 = (cs.drop 0).drop 1 by rw [List.drop_drop], List.take_append_drop]
      rfl
    rw [ClR, e, e0, e1, e2]
    rfl
def Svs (W : World) (v : Value) (l : List (Nat × Nat × Bool)) : Prop := Sl W 9 SvR v l
def Cls (W : World) (v : Value) (l : List (Bool × Bool × Bool)) : Prop := Sl W 3 ClR v l
set_option maxRecDepth 100000 in
theorem Svs.ext {W W' : World} {v : Value} {l : List (Nat × Nat × Bool)} (h : Svs W v l) (he : Ext W W') : Svs W' v l := Sl.mono h (fun _ _ hc => he.cell hc) fun _ _ h => h
set_option maxRecDepth 100000 in
theorem Svs.len {W : World} {v : Value} {l : List (Nat × Nat × Bool)} (h : Svs W v l) : ∃ A c, v = .slice A l.length c ∧ l.length ≤ c ∧ c ≤ maxLen := by
  obtain ⟨A, c, e, h1, h2, _⟩ := h
  exact ⟨A, c, e, h1, h2⟩
set_option maxRecDepth 100000 in
theorem Svs.at {W : World} {A : Option Addr} {n c : Nat} {l : List (Nat × Nat × Bool)} (h : Svs W (.slice A n c) l) (i : Nat) (hi : i < l.length) : ∃ (b o : Nat) (q : Nat × Nat × Bool), A = some ⟨b, o, none⟩ ∧ W.rangeAt b (o + i * 9) (svc q.1 q.2.1 q.2.2).toList ∧ SvR (svc q.1 q.2.1 q.2.2).toList q := by
  obtain ⟨A', c', e, _, _, h3⟩ := h
  injection e with e1 e2 e3
  subst e1
  obtain ⟨b, o, rfl, hc⟩ := h3 (by omega)
  obtain ⟨cs, _, k0, k3⟩ := hc i _ (List.getElem?_eq_getElem hi)
  have k1 := k0
  obtain ⟨_, rfl⟩ := k0
  exact ⟨b, o, _, rfl, k3, k1⟩
set_option maxRecDepth 100000 in
theorem Svs_came {H : Type} {enc : TypeId × Value → H} {W : World} {base : Nat} {v : Value} {d : DataW H} {p : List MemPlace}
    (hval : Value.okWide Tryd.prog W .any base 41 v) (h : DataW.Trod enc Tryd.prog W 0 (fun _ => true) true 41 v d p) : ∃ l : List (Nat × Nat × Bool), Svs W v l := by
  obtain ⟨a0, len0, cap0, rfl⟩ := okWide_slice Tryd.underlying41 hval
  obtain ⟨fuel, hf⟩ := h
  obtain ⟨s, l, hc, hl⟩ := slice_came (α := Nat × Nat × Bool) (s := 9) Tryd.underlying41 (by kernel_rfl) (by decide) SvR (fun _ _ _ h => sv_trod h) hf
  injection hc with hc _
  rw [hc]
  exact ⟨l, hl⟩
/-- A block that holds one. -/
def Svb (W : World) (g : Nat) (q : Nat × Nat × Bool) : Prop := Cs W g 44 (svc q.1 q.2.1 q.2.2)
set_option maxRecDepth 100000 in
theorem Svb.ext {W W' : World} {g : Nat} {q : Nat × Nat × Bool} (h : Svb W g q) (he : Ext W W') : Svb W' g q := Cs.ext h he
set_option maxRecDepth 100000 in
theorem wpList_load_Svb {ops : Array Oper} {rest : List Oper} {o : Oper} {a : Act} {w : World} {Q : Exit → Act → World → Prop} (hgd : Region.wanted o (yielded ops a.tmps) = true) (x : Operand) (ho : o.op = .load 44 x)
    (g k : Nat) (q : Nat × Nat × Bool) (hx : a.eval x = .pointer (some ⟨g, k, none⟩)) (hg : w.rangeAt g k (svc q.1 q.2.1 q.2.2).toList) (h : wpList Tryd.prog ops Q rest (a.put o.dst (.agg (svc q.1 q.2.1 q.2.2))) w) : wpList Tryd.prog ops Q (o :: rest) a w := by
  refine wpList_step fun K hK => ?_
  rw [if_pos hgd]
  refine wp_load_mid 44 x ho g k hx (svc q.1 q.2.1 q.2.2).toList _ hg Tryd.underlying44 rfl svinfo ?_
  exact hK _ _ h
set_option maxRecDepth 100000 in
theorem Svb.rg {W : World} {g : Nat} {q : Nat × Nat × Bool} (h : Svb W g q) : W.rangeAt g 0 (svc q.1 q.2.1 q.2.2).toList := by
  intro j v hj
  rw [Nat.zero_add]
  exact h.cell j v (by rw [← Array.getElem?_toList]; exact hj)
set_option maxRecDepth 100000 in
theorem wpList_store_Svb {ops : Array Oper} {rest : List Oper} {o : Oper} {a : Act} {w : World} {Q : Exit → Act → World → Prop} (hgd : o.guard = none) (hd : o.dst = none) (x y : Operand) (ho : o.op = .store 44 x y)
    (g : Nat) (old : Array Value) (q : Nat × Nat × Bool) (hx : a.eval x = .pointer (some ⟨g, 0, none⟩)) (hy : a.eval y = .agg (svc q.1 q.2.1 q.2.2)) (hg : Cs w g 44 old) (hold : old.size = 9)
    (h : ∀ w', Svb w' g q → w.grownBy w' (some g) → wpList Tryd.prog ops Q rest a w') : wpList Tryd.prog ops Q (o :: rest) a w := by
  have h' : ∀ w', Svb w' g q → w.grownBy w' (some g) → wpList Tryd.prog ops Q rest (a.put o.dst undef) w' := by rw [hd]; exact h
  refine wpList_store_row hgd 44 x y ho g (svc q.1 q.2.1 q.2.2) hx hy 44 old hg svinfo hold (svc_one q.1 q.2.1 q.2.2) (h' _ ?_ ?_)
  · exact setRow_heap w g _ _ 44 (0, 0) hg
  · exact ⟨rfl, rfl, rfl, by simp [World.setRow], fun k _ hk => setRow_other w g k _ (fun e => hk (by simp [e]))⟩
set_option maxRecDepth 100000 in
theorem Cls.ext {W W' : World} {v : Value} {l : List (Bool × Bool × Bool)} (h : Cls W v l) (he : Ext W W') : Cls W' v l := Sl.mono h (fun _ _ hc => he.cell hc) fun _ _ h => h
set_option maxRecDepth 100000 in
theorem Cls.len {W : World} {v : Value} {l : List (Bool × Bool × Bool)} (h : Cls W v l) : ∃ A c, v = .slice A l.length c ∧ l.length ≤ c ∧ c ≤ maxLen := by
  obtain ⟨A, c, e, h1, h2, _⟩ := h
  exact ⟨A, c, e, h1, h2⟩
set_option maxRecDepth 100000 in
theorem Cls.at {W : World} {A : Option Addr} {n c : Nat} {l : List (Bool × Bool × Bool)} (h : Cls W (.slice A n c) l) (i : Nat) (hi : i < l.length) : ∃ (b o : Nat) (q : Bool × Bool × Bool), A = some ⟨b, o, none⟩ ∧ W.rangeAt b (o + i * 3) (clc q.1 q.2.1 q.2.2).toList ∧ ClR (clc q.1 q.2.1 q.2.2).toList q := by
  obtain ⟨A', c', e, _, _, h3⟩ := h
  injection e with e1 e2 e3
  subst e1
  obtain ⟨b, o, rfl, hc⟩ := h3 (by omega)
  obtain ⟨cs, _, k0, k3⟩ := hc i _ (List.getElem?_eq_getElem hi)
  have k1 := k0
  obtain rfl := k0
  exact ⟨b, o, _, rfl, k3, k1⟩
set_option maxRecDepth 100000 in
theorem Cls_came {H : Type} {enc : TypeId × Value → H} {W : World} {base : Nat} {v : Value} {d : DataW H} {p : List MemPlace}
    (hval : Value.okWide Tryd.prog W .any base 42 v) (h : DataW.Trod enc Tryd.prog W 0 (fun _ => true) true 42 v d p) : ∃ l : List (Bool × Bool × Bool), Cls W v l := by
  obtain ⟨a0, len0, cap0, rfl⟩ := okWide_slice Tryd.underlying42 hval
  obtain ⟨fuel, hf⟩ := h
  obtain ⟨s, l, hc, hl⟩ := slice_came (α := Bool × Bool × Bool) (s := 3) Tryd.underlying42 (by kernel_rfl) (by decide) ClR (fun _ _ _ h => cl_trod h) hf
  injection hc with hc _
  rw [hc]
  exact ⟨l, hl⟩
/-- A block that holds one. -/
def Clb (W : World) (g : Nat) (q : Bool × Bool × Bool) : Prop := Cs W g 48 (clc q.1 q.2.1 q.2.2)
set_option maxRecDepth 100000 in
theorem Clb.ext {W W' : World} {g : Nat} {q : Bool × Bool × Bool} (h : Clb W g q) (he : Ext W W') : Clb W' g q := Cs.ext h he
set_option maxRecDepth 100000 in
theorem wpList_load_Clb {ops : Array Oper} {rest : List Oper} {o : Oper} {a : Act} {w : World} {Q : Exit → Act → World → Prop} (hgd : Region.wanted o (yielded ops a.tmps) = true) (x : Operand) (ho : o.op = .load 48 x)
    (g k : Nat) (q : Bool × Bool × Bool) (hx : a.eval x = .pointer (some ⟨g, k, none⟩)) (hg : w.rangeAt g k (clc q.1 q.2.1 q.2.2).toList) (h : wpList Tryd.prog ops Q rest (a.put o.dst (.agg (clc q.1 q.2.1 q.2.2))) w) : wpList Tryd.prog ops Q (o :: rest) a w := by
  refine wpList_step fun K hK => ?_
  rw [if_pos hgd]
  refine wp_load_mid 48 x ho g k hx (clc q.1 q.2.1 q.2.2).toList _ hg Tryd.underlying48 rfl clinfo ?_
  exact hK _ _ h
set_option maxRecDepth 100000 in
theorem Clb.rg {W : World} {g : Nat} {q : Bool × Bool × Bool} (h : Clb W g q) : W.rangeAt g 0 (clc q.1 q.2.1 q.2.2).toList := by
  intro j v hj
  rw [Nat.zero_add]
  exact h.cell j v (by rw [← Array.getElem?_toList]; exact hj)
set_option maxRecDepth 100000 in
theorem wpList_store_Clb {ops : Array Oper} {rest : List Oper} {o : Oper} {a : Act} {w : World} {Q : Exit → Act → World → Prop} (hgd : o.guard = none) (hd : o.dst = none) (x y : Operand) (ho : o.op = .store 48 x y)
    (g : Nat) (old : Array Value) (q : Bool × Bool × Bool) (hx : a.eval x = .pointer (some ⟨g, 0, none⟩)) (hy : a.eval y = .agg (clc q.1 q.2.1 q.2.2)) (hg : Cs w g 48 old) (hold : old.size = 3)
    (h : ∀ w', Clb w' g q → w.grownBy w' (some g) → wpList Tryd.prog ops Q rest a w') : wpList Tryd.prog ops Q (o :: rest) a w := by
  have h' : ∀ w', Clb w' g q → w.grownBy w' (some g) → wpList Tryd.prog ops Q rest (a.put o.dst undef) w' := by rw [hd]; exact h
  refine wpList_store_row hgd 48 x y ho g (clc q.1 q.2.1 q.2.2) hx hy 48 old hg clinfo hold (clc_one q.1 q.2.1 q.2.2) (h' _ ?_ ?_)
  · exact setRow_heap w g _ _ 48 (0, 0) hg
  · exact ⟨rfl, rfl, rfl, by simp [World.setRow], fun k _ hk => setRow_other w g k _ (fun e => hk (by simp [e]))⟩
end Go.Proofs.YtjefbfabigkeiaaDoor
