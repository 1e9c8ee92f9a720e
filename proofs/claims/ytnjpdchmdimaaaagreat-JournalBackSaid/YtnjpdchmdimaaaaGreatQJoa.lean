/- Package journal: the laws' few. -/
import Derived.Test.YtnjpdchmdimaaaaGreatQJnz
namespace Go.Proofs.YtnjpdchmdimaaaaGreat
open Go.ChangeShapes Go.WideShapes Go.ChangeAt Go.RowKit Go.Shelf

theorem run_append_rowOJ {α : Type} {P : Program} {w : World} (t ty : TypeId) (lo : Nat) (E : TypeId) (ht : P.underlying t = some (.slice E)) (z : Value) (s bytes : Nat)
  (hinfo : (P.info? E).map (fun i => (i.zero, i.size, i.bytes)) = some (some z, s, bytes)) (hzs : z.cells.size = s) (hsz : 0 < s) (Rd : World → List Value → α → Prop) (X : Nat → Prop)
  (v : Value) (l : List α) (hrow : RowO E s Rd X lo w v l) (sv : Value) (css : List (List Value)) (l2 : List α) (hl2 : css.length = l2.length) (hcs : ∀ cs ∈ css, cs.length = s) (hb : Rs w s sv l2.length css.flatten) (h1c : ∀ u ∈ css.flatten, u.oneCell' = true)
  (hfar : ∀ (i : Nat) cs x, css[i]? = some cs → l2[i]? = some x → Far lo (Or2 X (Bk v)) w (fun W => Rd W cs x)) (hlen : l.length + l2.length ≤ 1000000) (hby : bytes ≤ 1000) (hbase : lo ≤ w.heap.size) :
  ∃ v' w', (Builtin.append_ #[t, t] ty #[v, sv]).run P w = .ok v' w' ∧ RowO E s Rd X lo w' v' (l ++ l2) ∧ w.grownBy w' v.ownBlock ∧ (v'.ownBlock = v.ownBlock ∨ v'.ownBlock = some w.heap.size) := by
 obtain ⟨css0, h1, h2, h3, h4⟩ := hrow
 obtain ⟨v', w', hr, ho, hg, hk⟩ := run_append_rowJ t ty lo E ht z s bytes hinfo hzs hsz v l.length css0.flatten h3 sv l2.length css.flatten hb h1c hlen hby hbase
 have hst : ∀ (φ : World → Prop), Far lo (Or2 X (Bk v)) w φ → Far lo (Or2 X (Bk v')) w' φ := fun φ h => h.step hg (fun g e _ _ => .inr e) (fun g hx => by
  rcases hx with hx | hx
  ·exact .inl (.inl hx)
  ·rcases hk with hk | hk
   ·exact .inl (.inr (by unfold Bk at hx ⊢; rw [← hk]; exact hx))
   ·unfold Bk at hx
    rw [hk] at hx
    injection hx with hx
    exact .inr (by omega))
 refine ⟨v', w', hr, ⟨css0 ++ css, by simp [h1, hl2], fun cs hc => (List.mem_append.1 hc).elim (h2 cs) (hcs cs), by rw [List.length_append, List.flatten_append]; exact ho, fun i cs x hc hx => ?_⟩, hg, hk⟩
 by_cases hi : i < l.length
 ·rw [List.getElem?_append_left (by omega)] at hc hx
  exact hst _ (h4 i cs x hc hx)
 ·rw [List.getElem?_append_right (by omega)] at hc hx
  rw [h1] at hc
  exact hst _ (hfar _ cs x hc hx)
theorem wpList_append_rowOJ {α : Type} {P : Program} {w : World} {ops : Array Oper} {rest : List Oper} {o : Oper} {a : Act} {Q : Exit → Act → World → Prop} (hgd : Region.wanted o (yielded ops a.tmps) = true) (so x : Operand) (t : TypeId)
  (ho : o.op = .call { callee := .builtin .append, args := #[so, x], argTypes := #[t, t] }) (lo : Nat) (E : TypeId) (ht : P.underlying t = some (.slice E)) (z : Value) (s bytes : Nat)
  (hinfo : (P.info? E).map (fun i => (i.zero, i.size, i.bytes)) = some (some z, s, bytes)) (hzs : z.cells.size = s) (hsz : 0 < s) (Rd : World → List Value → α → Prop) (X : Nat → Prop)
  (v : Value) (l : List α) (hs : a.eval so = v) (hrow : RowO E s Rd X lo w v l) (sv : Value) (css : List (List Value)) (l2 : List α) (hx : a.eval x = sv) (hl2 : css.length = l2.length) (hcs : ∀ cs ∈ css, cs.length = s) (hb : Rs w s sv l2.length css.flatten) (h1c : ∀ u ∈ css.flatten, u.oneCell' = true)
  (hfar : ∀ (i : Nat) cs x, css[i]? = some cs → l2[i]? = some x → Far lo (Or2 X (Bk v)) w (fun W => Rd W cs x)) (hlen : l.length + l2.length ≤ 1000000) (hby : bytes ≤ 1000) (hbase : lo ≤ w.heap.size)
  (hK : ∀ v' w', RowO E s Rd X lo w' v' (l ++ l2) → w.grownBy w' v.ownBlock → (v'.ownBlock = v.ownBlock ∨ v'.ownBlock = some w.heap.size) → wpList P ops Q rest (a.put o.dst v') w') :
  wpList P ops Q (o :: rest) a w := by
 obtain ⟨v', w', hr, h4, h5, h6⟩ := run_append_rowOJ t o.type lo E ht z s bytes hinfo hzs hsz Rd X v l hrow sv css l2 hl2 hcs hb h1c hfar hlen hby hbase
 refine wpList_step fun K hK' => ?_
 rw [if_pos hgd]
 unfold Oper.wp
 simp [execOp, ho, resolve, invoke, builtin, hs, hx, hr, Result.andThen]
 exact hK' _ _ (hK v' w' h4 h5 h6)
theorem wpList_append_oneJ {α : Type} {P : Program} {w : World} {ops : Array Oper} {rest : List Oper} {o : Oper} {a : Act} {Q : Exit → Act → World → Prop} (hgd : Region.wanted o (yielded ops a.tmps) = true) (so x : Operand) (t : TypeId)
  (ho : o.op = .call { callee := .builtin .append, args := #[so, x], argTypes := #[t, t] }) (lo : Nat) (E : TypeId) (ht : P.underlying t = some (.slice E)) (z : Value) (s bytes : Nat)
  (hinfo : (P.info? E).map (fun i => (i.zero, i.size, i.bytes)) = some (some z, s, bytes)) (hzs : z.cells.size = s) (hsz : 0 < s) (Rd : World → List Value → α → Prop) (X : Nat → Prop)
  (v : Value) (l : List α) (hs : a.eval so = v) (hrow : RowO E s Rd X lo w v l) (g : Nat) (cs : List Value) (x0 : α) (hx : a.eval x = .slice (some ⟨g, 0, none⟩) 1 1) (hcs : cs.length = s) (hb : w.heap[g]? = some (.cells cs.toArray E (0, 0))) (h1c : ∀ u ∈ cs, u.oneCell' = true)
  (hfar : Far lo (Or2 X (Bk v)) w (fun W => Rd W cs x0)) (hlen : l.length + 1 ≤ 1000000) (hby : bytes ≤ 1000) (hbase : lo ≤ w.heap.size)
  (hK : ∀ v' w', RowO E s Rd X lo w' v' (l ++ [x0]) → w.grownBy w' v.ownBlock → (v'.ownBlock = v.ownBlock ∨ v'.ownBlock = some w.heap.size) → wpList P ops Q rest (a.put o.dst v') w') :
  wpList P ops Q (o :: rest) a w := by
 refine wpList_append_rowOJ hgd so x t ho lo E ht z s bytes hinfo hzs hsz Rd X v l hs hrow _ [cs] [x0] hx rfl (by simp [hcs]) ⟨by simp [hcs], _, _, rfl, Nat.le_refl _, by unfold maxLen; omega, fun _ => ⟨g, 0, rfl, fun i u hu => ?_⟩⟩ (by simpa using h1c) (fun i c y hc hy => ?_) hlen hby hbase hK
 ·rw [cell_of_row w g _ cs.toArray E (0, 0) hb, Nat.zero_add]
  simpa using hu
 ·have : i = 0 := by
   have := (List.getElem?_eq_some_iff.1 hc).1
   simp at this
   exact this
  subst this
  simp at hc hy
  rw [← hc, ← hy]
  exact hfar
theorem RowO.farO {α : Type} {E : TypeId} {s lo : Nat} {Rd : World → List Value → α → Prop} {W : World} {v : Value} {l : List α} (h : RowO E s Rd No lo W v l) : Far lo No W (fun W => RowO E s Rd No lo W v l) := by
 obtain ⟨css, h1, h2, h3, h4⟩ := h
 intro W' hs ha
 exact ⟨css, h1, h2, own_far h3 (fun _ _ h => h) W' hs ha, fun i cs x hc hx W2 hs2 ha2 => h4 i cs x hc hx W2 (Nat.le_trans hs hs2) fun g hlo hlt hn => by
  rw [ha2 g hlo (Nat.lt_of_lt_of_le hlt hs) hn]
  exact ha g hlo hlt (fun h => h)⟩
theorem RetPo.farO {lo : Nat} {W : World} {v : Value} {p : Po} (h : RetPo lo W v p) : Far lo (fun g => W.heap.size ≤ g) W (fun W => RetPo lo W v p) := by
 obtain ⟨a, b, c, d, e, f, q, ⟨a', b', c', q1, h1, h2, h3⟩, ⟨d', e', f', q2, k1, k2, k3⟩⟩ := h
 have f1 := h1.farO
 have f2 := (own_far h2.1 (X := No) (fun _ _ h => h)).both (Far.true lo No W (fun _ => h2.2))
 have f3 := (own_far h3.1 (X := No) (fun _ _ h => h)).both (Far.true lo No W (fun _ => h3.2))
 have f4 := (own_far k1.1 (X := No) (fun _ _ h => h)).both (Far.true lo No W (fun _ => k1.2))
 have f5 := (own_far k2.1 (X := No) (fun _ _ h => h)).both (Far.true lo No W (fun _ => k2.2))
 have f6 := (own_far k3.1 (X := No) (fun _ _ h => h)).both (Far.true lo No W (fun _ => k3.2))
 exact ((((f1.both (f2.both f3)).both (f4.both (f5.both f6))).imp (ψ := fun W => RetPo lo W v p) fun W h => ⟨a, b, c, d, e, f, q, ⟨a', b', c', q1, h.1.1, h.1.2.1, h.1.2.2⟩, ⟨d', e', f', q2, h.2.1, h.2.2.1, h.2.2.2⟩⟩)).less (fun g hg => .inr (.inr hg))
theorem retPo_farB {lo lo1 : Nat} {W : World} {p : Po} {m : Value} {a b c d e f : Value} (h : RetPo lo1 W (.agg #[a, b, c, d, e, f]) p) (hl : lo ≤ lo1) (h0 : 0 < lo1) (hb : ∀ g, m.ownBlock = some g → g < lo1) : Far lo (Or2 No (Bk m)) W (fun W => PoR W [a, b, c, d, e, f] p) :=
 ((retPo_far (lo := lo1) (k := 0) h (Nat.le_refl _) h0).less (X' := Or2 No (Bk m)) (fun g hg => by
  rcases hg with hg | hg
  ·exact hg.elim
  ·exact .inr (.inl (hb g hg)))).low hl
theorem keepQJ {P : Prop} {W W' : World} (h : P) (_ : Ext W W') : P := h
theorem ext_to {a w w' : World} {r : Option Nat} (h : Ext a w) (k : w.grownBy w' r) (hg : ∀ g, r = some g → a.heap.size ≤ g) : Ext a w' := by
 cases r with
 | none => exact h.trans (ext_of_grown k)
 | some g => exact h.grown k (hg g rfl)
def FwS (w : World) (g1 g2 g3 lo : Nat) (pv : Array Value) (a b c d e f : Value) (p : Po) (m m' : Value) (l : List Po) (W : World) : Prop :=
 Cs W g1 40 pv ∧ Cs W g2 40 #[.slice none 0 0, .slice none 0 0, .slice none 0 0, .slice none 0 0, .slice none 0 0, .slice none 0 0, .slice none 0 0] ∧ Cs W g3 40 #[a, b, c, d, e, f, m] ∧ Far lo (fun g => g3 ≤ g) W (fun W => RetPo lo W (.agg #[a, b, c, d, e, f]) p) ∧ RowO 37 6 PoR No (g3 + 1) W m' l ∧ Ext w W
theorem FwS.ext {w : World} {g1 g2 g3 lo : Nat} {pv : Array Value} {a b c d e f : Value} {p : Po} {m m' : Value} {l : List Po} {W W' : World} (h : FwS w g1 g2 g3 lo pv a b c d e f p m m' l W) (he : Ext W W') : FwS w g1 g2 g3 lo pv a b c d e f p m m' l W' :=
 ⟨Cs.ext h.1 he, Cs.ext h.2.1 he, Cs.ext h.2.2.1 he, h.2.2.2.1.ext he, h.2.2.2.2.1.ext he, h.2.2.2.2.2.trans he⟩
theorem FwS.add {w : World} {g1 g2 g3 lo : Nat} {pv : Array Value} {a b c d e f : Value} {p : Po} {m m' v5 : Value} {l l' : List Po} {W W' : World} (h : FwS w g1 g2 g3 lo pv a b c d e f p m m' l W) (ho : RowO 37 6 PoR No (g3 + 1) W' v5 l') (hg : W.grownBy W' m'.ownBlock) (h1 : g1 < g3) (h2 : g2 < g3) (hw : w.heap.size ≤ g3) : FwS w g1 g2 g3 lo pv a b c d e f p m v5 l' W' := by
 have hb : ∀ g, m'.ownBlock = some g → g3 + 1 ≤ g := fun g e => (h.2.2.2.2.1.lt g e).1
 exact ⟨Cs.kept h.1 hg (fun e => absurd (hb _ e.symm) (by omega)), Cs.kept h.2.1 hg (fun e => absurd (hb _ e.symm) (by omega)), Cs.kept h.2.2.1 hg (fun e => absurd (hb _ e.symm) (by omega)),
  h.2.2.2.1.step hg (fun g e _ _ => by have := hb g e; omega) (fun g hg => .inl hg), ho, ext_to h.2.2.2.2.2 hg (fun g e => by have := hb g e; omega)⟩
theorem FwS.put {w : World} {g1 g2 g3 lo : Nat} {pv : Array Value} {a b c d e f : Value} {p : Po} {m m' : Value} {l : List Po} {W W' : World} (h : FwS w g1 g2 g3 lo pv a b c d e f p m m' l W) (hk : Cs W' g3 40 #[a, b, c, d, e, f, m']) (hg : W.grownBy W' (some g3)) (h1 : g1 < g3) (h2 : g2 < g3) (hw : w.heap.size ≤ g3) : FwS w g1 g2 g3 lo pv a b c d e f p m' m' l W' :=
 ⟨Cs.kept h.1 hg (fun e => absurd (Option.some.inj e) (by omega)), Cs.kept h.2.1 hg (fun e => absurd (Option.some.inj e) (by omega)), hk, h.2.2.2.1.old hg (.inr (.inl (Nat.le_refl _))), h.2.2.2.2.1.old hg (.inl (Nat.lt_succ_self _)) (fun e => by have := (h.2.2.2.2.1.lt _ e).1; omega), h.2.2.2.2.2.grown hg hw⟩
def BdW (u v : Value) (W : World) : Prop := ∃ a b c d e f b', u = .agg #[a, b, c, d, e, f] ∧ v = .slice (some ⟨b', 0, none⟩) 1 1 ∧ Cs W b' 37 #[a, b, c, d, e, f]
theorem BdW.ext {u v : Value} {W W' : World} (h : BdW u v W) (he : Ext W W') : BdW u v W' := by
 obtain ⟨a, b, c, d, e, f, b', h1, h2, h3⟩ := h
 exact ⟨a, b, c, d, e, f, b', h1, h2, Cs.ext h3 he⟩
set_option maxRecDepth 100000 in
theorem built_jp (a b c d e f : Value) : Tryz.prog.built 40 [(0, .agg #[a, b, c, d, e, f])] = some #[a, b, c, d, e, f, .slice none 0 0] := by kernel_rfl
set_option maxRecDepth 100000 in
theorem wpList_build_jp {ops : Array Oper} {rest : List Oper} {o : Oper} {a0 : Act} {w : World} {Q : Exit → Act → World → Prop} (hg : o.guard = none) (x : Operand) (ho : o.op = .build 40 #[(0, x)]) (a b c d e f : Value) (hx : a0.eval x = .agg #[a, b, c, d, e, f])
  (h : wpList Tryz.prog ops Q rest (a0.put o.dst (.agg #[a, b, c, d, e, f, .slice none 0 0])) w) : wpList Tryz.prog ops Q (o :: rest) a0 w := by
 refine wpList_build hg 40 #[(0, x)] ho ?_ ?_
 ·simp only [List.map_toArray, List.map_cons, List.map_nil, hx, built_jp]; rfl
 ·simp only [List.map_toArray, List.map_cons, List.map_nil, hx, built_jp, Option.getD_some]; exact h
theorem FwD.ext {w : World} {g1 g2 g3 lo g5 : Nat} {pv cs : Array Value} {a b c d e f : Value} {p : Po} {m m' : Value} {l : List Po} {W W' : World} (h : FwS w g1 g2 g3 lo pv a b c d e f p m m' l W ∧ Cs W g5 37 cs) (he : Ext W W') : FwS w g1 g2 g3 lo pv a b c d e f p m m' l W' ∧ Cs W' g5 37 cs := ⟨h.1.ext he, Cs.ext h.2 he⟩
theorem retPo_oneL {lo : Nat} {W : World} {a b c d e f : Value} {p : Po} (h : RetPo lo W (.agg #[a, b, c, d, e, f]) p) : ∀ u ∈ [a, b, c, d, e, f], u.oneCell' = true := by
 have := h.one
 simpa using this
set_option maxRecDepth 100000 in
set_option maxHeartbeats 8000000 in
theorem few_any (xu xv xz xa xs xq xm : Value) (jj : Jn) (w : World) (hx : WoR w xu xv xz jj.p.w ∧ AxR w xa xs xq jj.p.x ∧ Pos w xm jj.m) :
  Calls Tryz.prog 8 #[.agg #[xu, xv, xz, xa, xs, xq, xm]] w fun e w' => ∃ v', e = .returned v' ∧ RetJn w.heap.size w' v' (cutJ jj) ∧ Ext w w' := by
 obtain ⟨AM, c0, rfl, hn1, hn2⟩ := hx.2.2.len
 have HON : Hid ((#[xu, xv, xz, xa, xs, xq, .slice AM jj.m.length c0] : Array Value).all (·.oneCell') = true) := Lib.hid (by
  obtain ⟨y1, y2, y3⟩ := axr_one hx.2.1
  have y4 := acs_one hx.1.1
  have y5 := hds_one hx.1.2.1
  have y6 := nns_one hx.1.2.2
  simp [y1, y2, y3, y4, y5, y6]
  rfl)
 have HX := Lib.hid (And.intro hx.1 hx.2.1)
 have HXL := Lib.hid (show Pos w (.slice AM (jj.m.take 18).length c0) (jj.m.take 18) from Sl.cutJ hx.2.2 18)
 have HM1 := Lib.hid (show min (jj.m.length : Int) 18 = ((jj.m.take 18).length : Int) ∧ (jj.m.take 18).length ≤ c0 from ⟨cut_min _ 18, by rw [List.length_take]; omega⟩)
 have HL18 := Lib.hid (show (jj.m.take 18).length ≤ 18 by rw [List.length_take]; omega)
 have HCU : Hid (cutJ jj = ⟨cutP jj.p, (jj.m.take 18).map cutP⟩) := Lib.hid rfl
 generalize jj.m.take 18 = LM at *
 obtain ⟨n0, hn0⟩ : ∃ n, jj.m.length = n := ⟨_, rfl⟩
 rw [hn0] at HON HM1 hn1 ⊢
 clear hn0 hx
 obtain ⟨w0, hw0⟩ : ∃ w0, (w.alloc (.cells #[xu, xv, xz, xa, xs, xq, .slice AM n0 c0] 40)).alloc (.cells #[.slice none 0 0, .slice none 0 0, .slice none 0 0, .slice none 0 0, .slice none 0 0, .slice none 0 0, .slice none 0 0] 40) = w0 := ⟨_, rfl⟩
 have HC0 : Hid (Cs w0 w.heap.size 40 #[xu, xv, xz, xa, xs, xq, .slice AM n0 c0]) := Lib.hid (by rw [← hw0]; exact Cs.alloc (Cs.new _ _ _ _ rfl) _)
 have HR0 : Hid (Cs w0 (w.heap.size + 1) 40 #[.slice none 0 0, .slice none 0 0, .slice none 0 0, .slice none 0 0, .slice none 0 0, .slice none 0 0, .slice none 0 0]) := Lib.hid (by rw [← hw0]; exact Cs.new _ _ _ _ (by simp))
 have HE0 : Hid (Ext w w0) := Lib.hid (by rw [← hw0]; exact ((Ext.refl w).alloc _).alloc _)
 have HL0 := Lib.hid (show w.heap.size + 1 < w0.heap.size from HR0.out.lt)
 have HW0 := Lib.hid hw0
 have HO1 := HON.out
 clear hw0 hn1 hn2
 go_enter Tryz.func8, Tryz.ntmps8
 go_upto_region 1 with fail
 rw [HW0.out]
 clear HW0 HO1
 have HRG := Lib.hid (rg_part (cs := [xu, xv, xz, xa, xs, xq, .slice AM n0 c0]) (ds := [xu, xv, xz, xa, xs, xq]) 0 (Cs.rg HC0.out) (fun j y hy => by rcases j with _ | _ | _ | _ | _ | _ | j; all_goals first | exact hy | (simp at hy)))
 go_wp2_with ((with_reducible refine wpList_loadPo ?_ (.tmp 6) ?_ w.heap.size 0 xu xv xz xa xs xq ?_ HRG.out ?_); (exact rfl); (exact rfl); (exact rfl))
 refine (pointO_any _ _ _ _ _ _ jj.p _ ⟨HX.out.1.ext HE0.out, HX.out.2.ext HE0.out⟩).mono ?_
 rintro e w1 ⟨v1, rfl, ho, he⟩
 obtain ⟨fa, fb, fc, fd, fe, ff, rfl, ho⟩ := retPo_shp ho
 have HA1 := Lib.hid ho
 have HE1 := Lib.hid he
 have HON1 : Hid ((#[fa, fb, fc, fd, fe, ff, .slice none 0 0] : Array Value).all (·.oneCell') = true) := Lib.hid (by
  have := ho.one
  simp only [List.all_toArray, List.all_cons, List.all_nil, Bool.and_true, Bool.and_eq_true] at this ⊢
  obtain ⟨y1, y2, y3, y4, y5, y6⟩ := this
  exact ⟨y1, y2, y3, y4, y5, y6, rfl⟩)
 clear ho he HRG
 go_upto_region 2 with (first
  | ((with_reducible refine wpList_build_jp ?_ (.tmp 8) ?_ fa fb fc fd fe ff ?_ ?_); (exact rfl); (exact rfl); (exact rfl))
  | ((with_reducible refine wpList_storeJn ?_ ?_ (.tmp 3) (.tmp 9) ?_ w1.heap.size (.slice none 0 0) (.slice none 0 0) (.slice none 0 0) (.slice none 0 0) (.slice none 0 0) (.slice none 0 0) (.slice none 0 0) fa fb fc fd fe ff (.slice none 0 0) ?_ ?_ HON1.out ?_ ?_); (exact rfl); (exact rfl); (exact rfl); (exact rfl); (exact rfl); (exact (Cs.new _ _ _ _ rfl)); intro w3 k3 g3; have K3 := Lib.hid k3; have G3 := Lib.hid g3; clear k3 g3))
 have HX3 := Lib.hid (((Ext.refl w1).alloc (.cells #[.slice none 0 0, .slice none 0 0, .slice none 0 0, .slice none 0 0, .slice none 0 0, .slice none 0 0, .slice none 0 0] 40)).grown G3.out (Nat.le_refl _))
 have HJ0 : Hid (FwS w w.heap.size (w.heap.size + 1) w1.heap.size w0.heap.size #[xu, xv, xz, xa, xs, xq, .slice AM n0 c0] fa fb fc fd fe ff (cutP jj.p) (.slice none 0 0) (.slice none 0 0) [] w3) := Lib.hid
  ⟨Cs.ext (Cs.ext HC0.out HE1.out) HX3.out, Cs.ext (Cs.ext HR0.out HE1.out) HX3.out, K3.out, HA1.out.farO.ext HX3.out, RowO.nil _ _ _ _ _ _, (HE0.out.trans HE1.out).trans HX3.out⟩
 have HGG : Hid (w.heap.size < w1.heap.size ∧ w.heap.size + 1 < w1.heap.size ∧ w.heap.size ≤ w1.heap.size) := Lib.hid (by have h1 := HL0.out; have h2 := HE1.out.size; exact ⟨by omega, by omega, by omega⟩)
 have HLO := Lib.hid (show w.heap.size + 1 < w0.heap.size ∧ w0.heap.size ≤ w1.heap.size from ⟨HL0.out, HE1.out.size⟩)
 clear HX3 K3 G3 HA1 HC0 HR0 HE0 HE1 HON1 HON HL0
 obtain ⟨g1, hg1⟩ : ∃ g, w.heap.size = g := ⟨_, rfl⟩
 obtain ⟨g2, hg2⟩ : ∃ g, w.heap.size + 1 = g := ⟨_, rfl⟩
 obtain ⟨g3, hg3⟩ : ∃ g, w1.heap.size = g := ⟨_, rfl⟩
 obtain ⟨lo, hlo⟩ : ∃ g, w0.heap.size = g := ⟨_, rfl⟩
 have HGW := Lib.hid (show w.heap.size = g1 ∧ w.heap.size + 1 = g2 from ⟨hg1, hg2⟩)
 rw [hg2, hg3, hlo] at HLO
 rw [hg2, hg3] at HGG
 simp only [hg2, hg3] 
 have HJ1 : Hid (FwS w g1 g2 g3 lo #[xu, xv, xz, xa, xs, xq, .slice AM n0 c0] fa fb fc fd fe ff (cutP jj.p) (.slice none 0 0) (.slice none 0 0) [] w3) := by rw [← hg1, ← hg2, ← hg3, ← hlo]; exact HJ0
 have HGG : Hid (g1 < g3 ∧ g2 < g3 ∧ w.heap.size ≤ g3) := by rw [← hg1]; exact HGG
 have HC3 := HJ1.out.1
 have hc := HC3.cell 6 _ rfl
 obtain ⟨pv, hpv⟩ : ∃ pv, #[xu, xv, xz, xa, xs, xq, .slice AM n0 c0] = pv := ⟨_, rfl⟩
 rw [hpv] at HJ1
 rw [hg1]
 have hd0 := HM1.out.1
 have hd1 := HM1.out.2
 clear HJ0 HC3 hpv hg1 hg2 hg3 hlo
 go_wp2_with fail
 clear hc hd0 hd1
 go_loopw [18] (fun iv wr => ∃ k : Nat, k ≤ LM.length ∧ iv = .int .i64 k ∧ Hid (∃ AR c1, FwS w g1 g2 g3 lo pv fa fb fc fd fe ff (cutP jj.p) (.slice AR k c1) (.slice AR k c1) ((LM.take k).map cutP) wr)) (fun iv _ => LM.length - (intOf iv).toNat)
 case atStart => exact ⟨0, by omega, rfl, Lib.hid ⟨none, 0, HJ1.out⟩⟩
 case round =>
  obtain ⟨k, hk, rfl, HJ⟩ := hrel
  clear HJ1
  obtain ⟨AR, c1, hJ⟩ := HJ.out
  by_cases hlt : k < LM.length
  ·have hd : decide (k < LM.length) = true := decide_eq_true hlt
   have hd2 : decide ((k : Int) < (LM.length : Int)) = true := decide_eq_true (by omega)
   obtain ⟨bb, oo, qa, qb, qc, qd, qe, qf, rfl, hrg, hw, hx⟩ := HXL.out.at k hlt
   have HQ := Lib.hid (And.intro hw hx)
   have HRG := Lib.hid (show wr.rangeAt bb (oo + k * 6) [qa, qb, qc, qd, qe, qf] from fun j x hx => hJ.2.2.2.2.2.cell (hrg j x hx))
   have HON := Lib.hid (show (#[qa, qb, qc, qd, qe, qf] : Array Value).all (·.oneCell') = true by
    obtain ⟨y1, y2, y3⟩ := axr_one hx
    simp [acs_one hw.1, hds_one hw.2.1, nns_one hw.2.2, y1, y2, y3])
   have HTK := Lib.hid (show (LM.take (k + 1)).map cutP = (LM.take k).map cutP ++ [cutP (LM.getD k po0)] by
    rw [List.take_add_one, po_getD hlt, List.map_append]
    rfl)
   have HN1 := Lib.hid (show ((LM.take k).map cutP).length = k by rw [List.length_map, List.length_take]; omega)
   have HLN := Lib.hid (show ((LM.take k).map cutP).length + 1 ≤ 1000000 by have := HL18.out; rw [List.length_map, List.length_take]; omega)
   have HJK := Lib.hid hJ
   clear hrg hw hx hJ HJ
   generalize LM.getD k po0 = q at *
   generalize (LM.take k).map cutP = l at *
   go_upto_region 5 with (first
    | ((with_reducible refine wpList_loadPo ?_ (.tmp 20) ?_ bb (oo + k * 6) qa qb qc qd qe qf ?_ ?_ ?_); (exact rfl); (exact rfl); (exact rfl); (exact HRG.out))
    | ((with_reducible refine wpList_storePo ?_ ?_ (.tmp 5) (.tmp 21) ?_ wr.heap.size (.slice none 0 0) (.slice none 0 0) (.slice none 0 0) (.slice none 0 0) (.slice none 0 0) (.slice none 0 0) qa qb qc qd qe qf ?_ ?_ ?_ ?_ ?_); (exact rfl); (exact rfl); (exact rfl); (exact rfl); (exact rfl); (exact HON.out); (exact Cs.new _ _ _ _ rfl); intro w5 k5 g5; have K5 := Lib.hid k5; have E5 := Lib.hid (((Ext.refl wr).alloc (.cells #[.slice none 0 0, .slice none 0 0, .slice none 0 0, .slice none 0 0, .slice none 0 0, .slice none 0 0] 37)).grown g5 (Nat.le_refl _)); clear k5 g5))
   have HG3 := Lib.hid (show g3 + 1 ≤ wr.heap.size + 1 from Nat.succ_le_succ (Nat.le_of_lt HJK.out.2.2.1.lt))
   have HMB := Lib.hid (show ∀ g, (Value.slice AR k c1).ownBlock = some g → g < wr.heap.size + 1 from fun g hg => Nat.lt_succ_of_lt (HJK.out.2.2.2.2.1.lt g hg).2)
   have HJ := Lib.hid (And.intro (HJK.out.ext E5.out) K5.out)
   clear K5 E5 HRG HJK
   refine wp_named fun a0 ha0 => ?_
   obtain ⟨fr, hfr⟩ : ∃ fr : (Nat → Value) → Act, ∀ V, fr V = (((((((a0.put (some 22) (V 0)).put (some 23) (V 1)).put (some 24) (V 2)).put (some 25) (V 3)).put (some 26) (V 4)).put (some 27) (V 5)).put (some 28) (V 6)) := ⟨_, fun _ => rfl⟩
   rw [ha0] at hfr
   simp only [Act.put, List.setIfInBounds_toArray, List.set_cons_zero, List.set_cons_succ] at hfr
   have HFR := Lib.hid hfr
   clear hfr
   refine wp_region_inv (by kernel_rfl) (by kernel_rfl) (fun L A W => ∃ V : Nat → Value, A = fr V ∧ Vals (fun j => ([some (.pointer (some ⟨g3, 6, none⟩)), some (.slice AR k c1), some (.agg #[qa, qb, qc, qd, qe, qf]), none, none, none, some (.pointer (some ⟨g3, 6, none⟩)), none] : List (Option Value)).getD j none) L V ∧ (L 5 = false → (FwS w g1 g2 g3 lo pv fa fb fc fd fe ff (cutP jj.p) (.slice AR k c1) (.slice AR k c1) l W ∧ Cs W wr.heap.size 37 #[qa, qb, qc, qd, qe, qf])) ∧ (L 5 = true → L 7 = false → FwS w g1 g2 g3 lo pv fa fb fc fd fe ff (cutP jj.p) (.slice AR k c1) (V 5) (l ++ [cutP q]) W) ∧ (L 7 = true → FwS w g1 g2 g3 lo pv fa fb fc fd fe ff (cutP jj.p) (V 5) (V 5) (l ++ [cutP q]) W) ∧ (L 5 = false → L 3 = true → RetPo (wr.heap.size + 1) W (V 3) (cutP q)) ∧ (L 5 = false → L 4 = true → BdW (V 3) (V 4) W) ∧ (L 5 = true → (∃ A c, (V 5) = .slice A (k + 1) c))) ?_ ⟨?_, ?_, ?_, ?_, ?_, ?_, ?_, ?_, trivial⟩ ?_
   ·refine ⟨fun j => a0.tmps.getD (([22, 23, 24, 25, 26, 27, 28, 0] : List Nat).getD j 0) undef, ?_, Vals.no _ _ _ (far_none _ _ rfl), fun _ => ⟨HJ.out.1.ext (Ext.refl _).drew, Cs.ext HJ.out.2 (Ext.refl _).drew⟩, fun h0 h1 => absurd h0 (by decide), fun h0 => absurd h0 (by decide), fun h0 h1 => absurd h1 (by decide), fun h0 h1 => absurd h1 (by decide), fun h0 => absurd h0 (by decide)⟩
    rw [HFR.out, ha0]
    rfl
   all_goals clear ha0
   ·rintro L A W K hL hC hW ⟨V, rfl, HV, s0, s1, s2, f3, f4, f5⟩ hK
    have H := Lib.hid (show ∀ W', Ext W W' → K (fr (upd V 0 (.pointer (some ⟨g3, 6, none⟩)))) W' from fun W' he => hK _ _ ⟨_, rfl, HV.us 0 _ rfl, fun h0 => FwD.ext (s0 (mnf h0 rfl)) he, fun h0 h1 => FwS.ext (s1 (more_ne h0 rfl) (mnf h1 rfl)) he, fun h0 => FwS.ext (s2 (more_ne h0 rfl)) he, fun h0 h1 => RetPo.ext (f3 (mnf h0 rfl) (more_ne h1 rfl)) he, fun h0 h1 => BdW.ext (f4 (mnf h0 rfl) (more_ne h1 rfl)) he, fun h0 => keepQJ (f5 (more_ne h0 rfl)) he⟩)
    clear hK hC hW hL HV s0 s1 s2 f3 f4 f5
    rw [HFR.out]
    go_wp2_with fail
    show K _ _; have := H.out _ (Ext.refl _); rw [HFR.out] at this
    exact this
   ·rintro L A W K hL hC hW ⟨V, rfl, HV, s0, s1, s2, f3, f4, f5⟩ hK
    have e0 := HV 0 _ rfl (hW 0 rfl)
    have hB := s0 (hC.no hL 5 _ rfl rfl)
    have H := Lib.hid (show ∀ W', Ext W W' → K (fr (upd V 1 (.slice AR k c1))) W' from fun W' he => hK _ _ ⟨_, rfl, HV.us 1 _ rfl, fun h0 => FwD.ext (s0 (mnf h0 rfl)) he, fun h0 h1 => FwS.ext (s1 (more_ne h0 rfl) (mnf h1 rfl)) he, fun h0 => FwS.ext (s2 (more_ne h0 rfl)) he, fun h0 h1 => RetPo.ext (f3 (mnf h0 rfl) (more_ne h1 rfl)) he, fun h0 h1 => BdW.ext (f4 (mnf h0 rfl) (more_ne h1 rfl)) he, fun h0 => keepQJ (f5 (more_ne h0 rfl)) he⟩)
    have HU := Lib.hid (show (upd V 1 (.slice AR k c1)) 0 = .pointer (some ⟨g3, 6, none⟩) from e0)
    clear hK hC hW hL HV s0 s1 s2 f3 f4 f5
    rw [HFR.out, e0]
    clear e0
    have hcl := hB.1.2.2.1.cell 6 _ rfl
    clear hB
    go_wp2_with fail
    show K _ _; have := H.out _ (Ext.refl _); rw [HFR.out] at this
    obtain u0 := HU.out
    rw [u0] at this
    exact this
   ·rintro L A W K hL hC hW ⟨V, rfl, HV, s0, s1, s2, f3, f4, f5⟩ hK
    have hB := s0 (hC.no (hC.no (hC.no hL 3 _ rfl rfl) 4 _ rfl rfl) 5 _ rfl rfl)
    have H := Lib.hid (show ∀ W', Ext W W' → K (fr (upd V 2 (.agg #[qa, qb, qc, qd, qe, qf]))) W' from fun W' he => hK _ _ ⟨_, rfl, HV.us 2 _ rfl, fun h0 => FwD.ext (s0 (mnf h0 rfl)) he, fun h0 h1 => FwS.ext (s1 (more_ne h0 rfl) (mnf h1 rfl)) he, fun h0 => FwS.ext (s2 (more_ne h0 rfl)) he, fun h0 h1 => RetPo.ext (f3 (mnf h0 rfl) (more_ne h1 rfl)) he, fun h0 h1 => BdW.ext (f4 (mnf h0 rfl) (more_ne h1 rfl)) he, fun h0 => keepQJ (f5 (more_ne h0 rfl)) he⟩)
    clear hK hC hW hL HV s0 s1 s2 f3 f4 f5
    rw [HFR.out]
    have HRG := Lib.hid (Cs.rg hB.2)
    clear hB
    refine wpList_loadPo rfl (.tmp 5) rfl wr.heap.size 0 qa qb qc qd qe qf rfl HRG.out ?_
    show K _ _; have := H.out _ (Ext.refl _); rw [HFR.out] at this
    exact this
   ·rintro L A W K hL hC hW ⟨V, rfl, HV, s0, s1, s2, f3, f4, f5⟩ hK
    have e2 := HV 2 _ rfl (hW 2 rfl)
    have hB := s0 (hC.no (hC.no hL 4 _ rfl rfl) 5 _ rfl rfl)
    have H := Lib.hid (show ∀ v W', Ext W W' → (RetPo (wr.heap.size + 1) W' v (cutP q)) → K (fr (upd V 3 v)) W' from fun v W' he hp => hK _ _ ⟨_, rfl, HV.un 3 _ rfl, fun h0 => FwD.ext (s0 (mnf h0 rfl)) he, fun h0 h1 => FwS.ext (s1 (more_ne h0 rfl) (mnf h1 rfl)) he, fun h0 => FwS.ext (s2 (more_ne h0 rfl)) he, fun h0 h1 => hp, fun h0 h1 => mtf (hC.no hL 4 _ rfl rfl) (more_ne h1 rfl), fun h0 => keepQJ (f5 (more_ne h0 rfl)) he⟩)
    have HU := Lib.hid (show ∀ v, (upd V 3 v) 2 = .agg #[qa, qb, qc, qd, qe, qf] from fun v => e2)
    clear hK hC hW hL HV s0 s1 s2 f3 f4 f5
    rw [HFR.out, e2]
    clear e2
    have HB := Lib.hid hB.1.2.2.2.2.2
    have HSZ := Lib.hid (hB.2.lt)
    clear hB
    go_wp2_with fail
    refine (pointO_any _ _ _ _ _ _ q _ ⟨HQ.out.1.ext HB.out, HQ.out.2.ext HB.out⟩).mono ?_
    rintro e wx ⟨vx, rfl, ho, he⟩
    have := H.out _ _ he (ho.low (Nat.succ_le_of_lt HSZ.out))
    clear H
    go_wp2_with fail
    show K _ _
    rw [HFR.out] at this
    obtain u2 := HU.out _
    rw [u2] at this
    exact this
   ·rintro L A W K hL hC hW ⟨V, rfl, HV, s0, s1, s2, f3, f4, f5⟩ hK
    have q3 := f3 (hC.no hL 5 _ rfl rfl) (hW 3 rfl)
    obtain ⟨a3, b3, c3, d3, x3, y3, e3, z3⟩ := retPo_shp q3
    have H := Lib.hid (show ∀ v W', Ext W W' → (BdW (V 3) v W') → K (fr (upd V 4 v)) W' from fun v W' he hp => hK _ _ ⟨_, rfl, HV.un 4 _ rfl, fun h0 => FwD.ext (s0 (mnf h0 rfl)) he, fun h0 h1 => FwS.ext (s1 (more_ne h0 rfl) (mnf h1 rfl)) he, fun h0 => FwS.ext (s2 (more_ne h0 rfl)) he, fun h0 h1 => RetPo.ext (f3 (mnf h0 rfl) (more_ne h1 rfl)) he, fun h0 h1 => hp, fun h0 => keepQJ (f5 (more_ne h0 rfl)) he⟩)
    have HU := Lib.hid (show ∀ v, (upd V 4 v) 3 = .agg #[a3, b3, c3, d3, x3, y3] from fun v => e3)
    clear hK hC hW hL HV s0 s1 s2 f3 f4 f5
    rw [HFR.out, e3]
    clear e3
    refine wpList_build_one rfl (.tmp 25) 38 37 rfl Tryz.underlying38 _ 6 144 poinfo3 (by decide) (by decide) #[a3, b3, c3, d3, x3, y3] rfl rfl ?_
    show K _ _; have := H.out (.slice (some ⟨W.heap.size, 0, none⟩) 1 1) _ ((Ext.refl W).alloc (.cells #[a3, b3, c3, d3, x3, y3] 37)) (⟨_, _, _, _, _, _, _, HU.out undef, rfl, Cs.new _ _ _ _ rfl⟩); rw [HFR.out] at this
    obtain u3 := HU.out _
    rw [u3] at this
    exact this
   ·rintro L A W K hL hC hW ⟨V, rfl, HV, s0, s1, s2, f3, f4, f5⟩ hK
    have e1 := HV 1 _ rfl (hW 1 rfl)
    have hB := s0 hL
    have q3 := f3 hL (hC 4 _ rfl (hW 4 rfl) 3 rfl)
    have q4 := f4 hL (hW 4 rfl)
    obtain ⟨a4, b4, c4, d4, x4, y4, g4, k4, e4, z4⟩ := q4
    have H := Lib.hid (show ∀ v W', (FwS w g1 g2 g3 lo pv fa fb fc fd fe ff (cutP jj.p) (.slice AR k c1) v (l ++ [cutP q]) W') → ((∃ A c, v = .slice A (k + 1) c)) → K (fr (upd V 5 v)) W' from fun v W' hA hp => hK _ _ ⟨_, rfl, HV.un 5 _ rfl, fun h0 => msf h0, fun h0 h1 => hA, fun h0 => mtf (hC.no hL 7 _ rfl rfl) (more_ne h0 rfl), fun h0 h1 => msf h0, fun h0 h1 => msf h0, fun h0 => hp⟩)
    have HU := Lib.hid (show ∀ v, (upd V 5 v) 1 = .slice AR k c1 ∧ (upd V 5 v) 4 = .slice (some ⟨g4, 0, none⟩) 1 1 from fun v => ⟨e1, e4⟩)
    clear hK hC hW hL HV s0 s1 s2 f3 f4 f5
    rw [HFR.out, e1, e4]
    clear e1 e4
    rw [k4] at q3
    have HB := Lib.hid hB
    have HP25 := Lib.hid q3
    have Z3 := Lib.hid z4
    clear hB q3 z4 k4
    refine wpList_append_oneJ rfl (.tmp 23) (.tmp 26) 38 rfl (g3 + 1) 37 Tryz.underlying38 _ 6 144 poinfo3 rfl (by decide) PoR No (.slice AR k c1) l rfl HB.out.1.2.2.2.2.1 g4 [a4, b4, c4, d4, x4, y4] (cutP q) rfl rfl Z3.out (retPo_oneL HP25.out) (retPo_farB HP25.out HG3.out (Nat.succ_pos _) HMB.out) HLN.out (by decide) (Nat.le_trans HG3.out (Nat.succ_le_of_lt HB.out.2.lt)) ?_
    intro v5 w5 ho hg hk
    obtain ⟨A5, c5, e5⟩ := rowO_shp ho
    have HA := Lib.hid (show FwS w g1 g2 g3 lo pv fa fb fc fd fe ff (cutP jj.p) (.slice AR k c1) v5 (l ++ [cutP q]) w5 from HB.out.1.add ho hg HGG.out.1 HGG.out.2.1 HGG.out.2.2)
    have HP : Hid (∃ A c, v5 = .slice A (k + 1) c) := Lib.hid ⟨A5, c5, by rw [e5, List.length_append, List.length_singleton, HN1.out]⟩
    clear ho hg hk e5
    show K _ _; have := H.out _ _ HA.out HP.out; rw [HFR.out] at this
    obtain ⟨u1, u4⟩ := HU.out _
    rw [u1, u4] at this
    exact this
   ·rintro L A W K hL hC hW ⟨V, rfl, HV, s0, s1, s2, f3, f4, f5⟩ hK
    have H := Lib.hid (show ∀ W', Ext W W' → K (fr (upd V 6 (.pointer (some ⟨g3, 6, none⟩)))) W' from fun W' he => hK _ _ ⟨_, rfl, HV.us 6 _ rfl, fun h0 => FwD.ext (s0 (mnf h0 rfl)) he, fun h0 h1 => FwS.ext (s1 (more_ne h0 rfl) (mnf h1 rfl)) he, fun h0 => FwS.ext (s2 (more_ne h0 rfl)) he, fun h0 h1 => RetPo.ext (f3 (mnf h0 rfl) (more_ne h1 rfl)) he, fun h0 h1 => BdW.ext (f4 (mnf h0 rfl) (more_ne h1 rfl)) he, fun h0 => keepQJ (f5 (more_ne h0 rfl)) he⟩)
    clear hK hC hW hL HV s0 s1 s2 f3 f4 f5
    rw [HFR.out]
    go_wp2_with fail
    show K _ _; have := H.out _ (Ext.refl _); rw [HFR.out] at this
    exact this
   ·rintro L A W K hL hC hW ⟨V, rfl, HV, s0, s1, s2, f3, f4, f5⟩ hK
    have e6 := HV 6 _ rfl (hW 6 rfl)
    have hB := s1 (hW 5 rfl) hL
    have q5 := f5 (hW 5 rfl)
    obtain ⟨A5, c5, e5⟩ := q5
    have H := Lib.hid (show ∀ W', (FwS w g1 g2 g3 lo pv fa fb fc fd fe ff (cutP jj.p) (V 5) (V 5) (l ++ [cutP q]) W') → K (fr (V)) W' from fun W' hA => hK _ _ ⟨V, rfl, HV.st 7 rfl, fun h0 => mtf (mnf h0 rfl) (hW 5 rfl), fun h0 h1 => msf h1, fun h0 => hA, fun h0 h1 => mtf (mnf h0 rfl) (hW 5 rfl), fun h0 h1 => mtf (mnf h0 rfl) (hW 5 rfl), fun h0 => (f5 (more_ne h0 rfl))⟩)
    have HU := Lib.hid (show (V) 6 = .pointer (some ⟨g3, 6, none⟩) ∧ (V) 5 = .slice A5 (k + 1) c5 from ⟨e6, e5⟩)
    clear hK hC hW hL HV s0 s1 s2 f3 f4 f5
    rw [HFR.out, e6, e5]
    clear e6 e5
    have HB := Lib.hid hB
    clear hB
    refine wpList_store_one rfl rfl 38 (.tmp 28) (.tmp 27) rfl g3 6 40 #[fa, fb, fc, fd, fe, ff, .slice AR k c1] (.slice A5 (k + 1) c5) rfl rfl rfl HB.out.2.2.1 infoLPo (of_decide_eq_true rfl) rfl ?_
    intro w' kk gg
    have HA := Lib.hid (show FwS w g1 g2 g3 lo pv fa fb fc fd fe ff (cutP jj.p) (V 5) (V 5) (l ++ [cutP q]) w' from by rw [HU.out.2] at *; exact HB.out.put kk gg HGG.out.1 HGG.out.2.1 HGG.out.2.2)
    clear kk gg
    show K _ _; have := H.out _ HA.out; rw [HFR.out] at this
    obtain ⟨u6, u5⟩ := HU.out
    rw [u6, u5] at this
    exact this
   ·rintro L A W hL ⟨V, rfl, HV, s0, s1, s2, f3, f4, f5⟩
    have e0 := HV 0 _ rfl (hL 0 (by simp))
    have e1 := HV 1 _ rfl (hL 1 (by simp))
    have e2 := HV 2 _ rfl (hL 2 (by simp))
    have e6 := HV 6 _ rfl (hL 6 (by simp))
    have hA := s2 (hL 7 (by simp))
    have p27 := f5 (hL 5 (by simp))
    rw [HFR.out, e0, e1, e2, e6]
    clear hL HV HFR e0 e1 e2 e6 s0 s1 s2 f3 f4 f5
    rw [← HTK.out] at hA
    have hp := p27
    clear p27
    obtain ⟨A2, c2, hV⟩ := hp
    rw [hV] at hA ⊢
    have HA := Lib.hid hA
    have hl18 := HL18.out
    clear hA
    go_wp2_with fail
    exact ⟨⟨k + 1, by omega, by go_num, Lib.hid ⟨_, _, HA.out⟩⟩, by simp [intOf]; omega⟩
  ·obtain rfl : k = LM.length := by omega
   have hd : decide (LM.length < LM.length) = false := decide_eq_false (by omega)
   have hd2 : decide ((LM.length : Int) < (LM.length : Int)) = false := decide_eq_false (by omega)
   rw [List.take_length] at hJ
   have HJ := Lib.hid hJ
   have HRG : Hid (wr.rangeAt g3 0 [fa, fb, fc, fd, fe, ff, .slice AR LM.length c1]) := Lib.hid (Cs.rg hJ.2.2.1)
   have HPO := Lib.hid hJ.2.2.2.1.here
   have HJN : Hid (RetJn lo wr (.agg #[fa, fb, fc, fd, fe, ff, .slice AR LM.length c1]) (cutJ jj)) := Lib.hid (by
    obtain ⟨a', b', c', d', e', f', q, h1, h2⟩ := HPO.out
    obtain ⟨rfl, rfl, rfl, rfl, rfl, rfl⟩ : fa = a' ∧ fb = b' ∧ fc = c' ∧ fd = d' ∧ fe = e' ∧ ff = f' := by simpa using q
    rw [HCU.out]
    exact ⟨_, _, _, _, _, _, _, rfl, h1, h2, HJ.out.2.2.2.2.1.low (by have := HLO.out.2; omega)⟩)
   have HC2 := Lib.hid hJ.2.1
   clear hJ
   go_wp2_with (first
    | ((with_reducible refine wpList_loadJn ?_ (.tmp 3) ?_ g3 0 fa fb fc fd fe ff (.slice AR LM.length c1) ?_ HRG.out ?_); (exact rfl); (exact rfl); (exact rfl))
    | ((with_reducible refine wpList_storeJn ?_ ?_ (.tmp 2) (.tmp 30) ?_ g2 (.slice none 0 0) (.slice none 0 0) (.slice none 0 0) (.slice none 0 0) (.slice none 0 0) (.slice none 0 0) (.slice none 0 0) fa fb fc fd fe ff (.slice AR LM.length c1) ?_ ?_ HJN.out.one HC2.out ?_); (exact rfl); (exact rfl); (exact rfl); (exact rfl); (exact rfl); intro w7 k7 g7; have K7 := Lib.hid k7; have G7 := Lib.hid g7; clear k7 g7))
   refine bodyPost_ret (results_jno Tryz.results8 _ _ g2 _ _ _ _ _ _ _ rfl K7.out) rfl ?_
   exact ⟨_, rfl, (HJN.out.old G7.out HLO.out.1).low (by have := HGW.out; have := HLO.out; omega), HJ.out.2.2.2.2.2.grown G7.out (by have := HGW.out; omega)⟩
end Go.Proofs.YtnjpdchmdimaaaaGreat
