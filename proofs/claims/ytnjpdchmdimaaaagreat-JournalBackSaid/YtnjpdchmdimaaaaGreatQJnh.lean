/- Package journal: each, over points, and a journal in memory of its own. -/
import Derived.Test.YtnjpdchmdimaaaaGreatQJng
namespace Go.Proofs.YtnjpdchmdimaaaaGreat
open Go.ChangeShapes Go.WideShapes Go.ChangeAt Go.RowKit Go.Shelf

theorem retPo_far {lo lo1 k : Nat} {W : World} {p : Po} {a b c d e f : Value} (h : RetPo lo1 W (.agg #[a, b, c, d, e, f]) p) (hl : lo ≤ lo1) (hb : k < lo1) : Far lo (fun g => g = k) W (fun W => PoR W [a, b, c, d, e, f] p) := by
 obtain ⟨a', b', c', d', e', f', q, ⟨_, _, _, q1, h1, h2, h3⟩, ⟨_, _, _, q2, k1, k2, k3⟩⟩ := h
 obtain ⟨rfl, rfl, rfl, rfl, rfl, rfl⟩ : a = a' ∧ b = b' ∧ c = c' ∧ d = d' ∧ e = e' ∧ f = f' := by simpa using q
 injection q1 with q1
 injection q2 with q2
 simp only [Array.mk.injEq, List.cons.injEq, and_true] at q1 q2
 obtain ⟨rfl, rfl, rfl⟩ := q1
 obtain ⟨rfl, rfl, rfl⟩ := q2
 have f1 := h1.farNo
 have f2 := h2.rowO.farNo
 have f3 := h3.rowO.farNo
 have f4 := k1.rowO.farNo
 have f5 := k2.rowO.farNo
 have f6 := k3.rowO.farNo
 exact ((((f1.both (f2.both f3)).both (f4.both (f5.both f6))).imp (ψ := fun W => PoR W [a, b, c, d, e, f] p) fun W h => ⟨_, _, _, _, _, _, rfl, ⟨h.1.1, h.1.2.1, h.1.2.2⟩, ⟨h.2.1, h.2.2.1, h.2.2.2⟩⟩).less (X' := fun g => g = k) (fun g hg => .inr (.inl (by rw [hg]; exact hb)))).low hl
theorem po_getD {l : List Po} {k : Nat} (hk : k < l.length) : l[k]? = some (l.getD k po0) := by rw [List.getD_eq_getElem?_getD, List.getElem?_eq_getElem hk]; rfl
theorem RetPo.one {lo : Nat} {W : World} {a b c d e f : Value} {p : Po} (h : RetPo lo W (.agg #[a, b, c, d, e, f]) p) : (#[a, b, c, d, e, f] : Array Value).all (·.oneCell') = true := by
 obtain ⟨a', b', c', d', e', f', q, h1, h2⟩ := h
 obtain ⟨rfl, rfl, rfl, rfl, rfl, rfl⟩ : a = a' ∧ b = b' ∧ c = c' ∧ d = d' ∧ e = e' ∧ f = f' := by simpa using q
 have h1 := h1.one
 have h2 := h2.one
 simp only [List.all_toArray, List.all_cons, List.all_nil, Bool.and_true, Bool.and_eq_true] at h1 ⊢
 exact ⟨h1.1, h1.2.1, h1.2.2, h2.1, h2.2.1, h2.2.2⟩
theorem retPo_shp {lo : Nat} {W : World} {v : Value} {p : Po} (h : RetPo lo W v p) : ∃ a b c d e f, v = .agg #[a, b, c, d, e, f] ∧ RetPo lo W (.agg #[a, b, c, d, e, f]) p := by
 obtain ⟨a, b, c, d, e, f, q, h⟩ := h
 exact ⟨a, b, c, d, e, f, q, _, _, _, _, _, _, rfl, h⟩
set_option maxRecDepth 100000 in
set_option maxHeartbeats 8000000 in
theorem eachPo_any (v : Value) (l : List Po) (w : World) (hb : Pos w v l) (hl : l.length ≤ 1000000000) (hs : ∀ p ∈ l, SzO p.w ∧ SzX p.x) :
  Calls Tryz.prog 131 #[v, .func (.func 132) #[] #[]] w fun e w' => ∃ v', e = .returned v' ∧ RowO 37 6 PoR No w.heap.size w' v' l ∧ Ext w w' := by
 have HO := Lib.hid (jownPo_any v l w hb hl)
 have HS := Lib.hid hs
 have HLL := Lib.hid hl
 obtain ⟨A0, c0, rfl, _, _⟩ := hb.len
 clear hb hs
 go_enter Tryz.func131, Tryz.ntmps131
 go_wp2_with fail
 refine HO.out.mono ?_
 rintro e w1 ⟨v1, css0, rfl, ho, k1, k2, k3, he⟩
 have HE1 := Lib.hid he
 rcases Nat.eq_zero_or_pos l.length with h0 | h0
 ·obtain rfl := List.eq_nil_of_length_eq_zero h0
  have HRO := Lib.hid (RowO.of_empty (E := 37) (s := 6) (Rd := PoR) (X := No) (by have := ho; rw [List.eq_nil_of_length_eq_zero (show css0.length = 0 from k1)] at this; exact this))
  obtain ⟨_, A1, c1, rfl, _, _, _⟩ := Rs.of_own ho
  clear ho k1 k2 k3 he HO
  go_wp2_with fail
  go_loopw [12] (fun iv wr => iv = .int .i64 (0 : Nat) ∧ w1 = wr) (fun iv _ => 1 - (intOf iv).toNat)
  case atStart => exact ⟨rfl, rfl⟩
  case round =>
   obtain ⟨rfl, rfl⟩ := hrel
   go_wp2_with fail
   go_ret
   exact ⟨_, rfl, HRO.out, HE1.out⟩
 ·obtain ⟨b, cap, cur, rfl, hb1, hb2, hb3, hb4, hb5, hb6⟩ : ∃ g cap cur, v1 = .slice (some ⟨g, 0, none⟩) l.length cap ∧ w.heap.size ≤ g ∧ w1.heap[g]? = some (.cells cur 37 (0, 0)) ∧ l.length ≤ cap ∧ cap ≤ maxLen ∧ cur.size = cap * 6 ∧ cur.toList.take (l.length * 6) = css0.flatten := by
   rcases ho.2 with ⟨_, h⟩ | h
   ·omega
   ·exact h
  have HB := Lib.hid hb1
  have HCAP := Lib.hid (And.intro hb3 hb4)
  have hrest : cur = (css0.flatten ++ cur.toList.drop (l.length * 6)).toArray := by
   rw [← hb6, List.take_append_drop]
  obtain ⟨rest, hre⟩ : ∃ r, cur.toList.drop (l.length * 6) = r := ⟨_, rfl⟩
  have HRS := Lib.hid (show l.length * 6 + rest.length = cap * 6 by have h8 : cur.toList.length = cap * 6 := (Array.length_toList (xs := cur)).trans hb5; rw [← hre, List.length_drop, h8]; have := Nat.mul_le_mul_right 6 hb3; omega)
  rw [hre] at hrest
  have HJ0 : Hid (EaJ 37 6 PoR w b w.heap.size css0 rest l 0 w1) := Lib.hid ⟨css0, k1, k2, by rw [← hrest]; exact hb2, fun i cs x hi => absurd hi (by omega), fun i _ => rfl, he⟩
  have HK3 := Lib.hid k3
  unfold maxLen at hb4
  clear ho k1 k2 k3 he hb1 hb2 hb5 hb6 hrest hre HO h0 HE1 hl
  go_wp2_with fail
  go_loopw [12] (fun iv wr => ∃ k : Nat, k ≤ l.length ∧ iv = .int .i64 (k : Nat) ∧ Hid (EaJ 37 6 PoR w b w.heap.size css0 rest l k wr)) (fun iv _ => l.length - (intOf iv).toNat)
  case atStart => exact ⟨0, by omega, rfl, HJ0⟩
  case round =>
   obtain ⟨k, hk, rfl, HJ⟩ := hrel
   clear HJ0
   by_cases hlt : k < l.length
   ·have hd : decide (k < l.length) = true := decide_eq_true hlt
    have hd2 : decide ((k : Int) < (l.length : Int)) = true := decide_eq_true (by omega)
    obtain ⟨css, h1, h2, h3, h4, h5, h6⟩ := HJ.out
    obtain ⟨cs0, hcs0⟩ : ∃ cs, css[k]? = some cs := ⟨_, List.getElem?_eq_getElem (show k < css.length by omega)⟩
    have hp0 := HK3.out k cs0 _ (by rw [← h5 k (Nat.le_refl _)]; exact hcs0) (po_getD hlt)
    have HON := Lib.hid (poR_one hp0)
    obtain ⟨u, v, z, a, s, q, rfl, hu, hv⟩ := hp0
    have HON : Hid ((#[u, v, z, a, s, q] : Array Value).all (·.oneCell') = true) := Lib.hid (Array.all_eq_true_iff_forall_mem.2 (fun x hx => HON.out x (by simpa using hx)))
    have HR := Lib.hid (ea_range h3 h2 hcs0)
    have HSX := Lib.hid (HS.out _ (List.mem_of_getElem? (po_getD hlt)))
    have HSTEP := Lib.hid (fun (W1 W2 : World) (a' b' c' d' e' f' : Value) (he : Ext wr W1) (hf : Far w.heap.size (fun g => g = b) W1 (fun W => PoR W [a', b', c', d', e', f'] (l.getD k po0))) (hc : Cs W2 b 37 (layC (css.flatten ++ rest).toArray (k * 6) #[a', b', c', d', e', f'])) (hg : W1.grownBy W2 (some b)) => EaJ.step (css0 := css0) h1 h2 h4 h5 h6 he hlt rfl (po_getD hlt) hf hc hg HB.out)
    have HC3 := Lib.hid h3
    have HCS := Lib.hid (show k * 6 + 6 ≤ (css.flatten ++ rest).toArray.size by
     rw [List.size_toArray, List.length_append, flat_len css h2, h1]
     have := Nat.mul_le_mul_right 6 (show k + 1 ≤ l.length from hlt)
     omega)
    have HE6 := Lib.hid h6
    have HU := Lib.hid (hu.ext h6)
    have HV := Lib.hid (hv.ext h6)
    have HBL := Lib.hid h3.lt
    clear h1 h2 h3 h4 h5 h6 hcs0 hu hv HJ
    generalize l.getD k po0 = x at *
    go_upto_region 5 with (first
     | ((with_reducible refine wpList_loadPo ?_ (.tmp 15) ?_ b (k * 6) u v z a s q ?_ ?_ ?_); (exact rfl); (exact rfl); (exact rfl); (exact HR.out))
     | ((with_reducible refine wpList_storePo ?_ ?_ (.tmp 7) (.tmp 16) ?_ wr.heap.size (.slice none 0 0) (.slice none 0 0) (.slice none 0 0) (.slice none 0 0) (.slice none 0 0) (.slice none 0 0) u v z a s q ?_ ?_ ?_ ?_ ?_); (exact rfl); (exact rfl); (exact rfl); (exact rfl); (exact rfl); (exact HON.out); (exact Cs.new _ _ _ _ rfl); intro w2 k2 g2; have R2 := Lib.hid (Cs.rg k2); have E2 := Lib.hid (((Ext.refl wr).alloc (.cells #[.slice none 0 0, .slice none 0 0, .slice none 0 0, .slice none 0 0, .slice none 0 0, .slice none 0 0] 37)).grown g2 (Nat.le_refl _)); clear k2 g2))
    go_wp2_with ((with_reducible refine wpList_loadPo ?_ (.tmp 7) ?_ wr.heap.size 0 u v z a s q ?_ ?_ ?_); (exact rfl); (exact rfl); (exact rfl); (exact R2.out))
    refine (ownPo_any u v z a s q x _ ⟨HU.out.ext E2.out, HV.out.ext E2.out⟩ HSX.out).mono ?_
    rintro e w3 ⟨v', rfl, hj, he⟩
    obtain ⟨a', b', c', d', e', f', rfl, hj⟩ := retPo_shp hj
    have HX3 := Lib.hid (E2.out.trans he)
    have HF := Lib.hid (retPo_far (lo := w.heap.size) (k := b) hj (Nat.le_trans HE6.out.size E2.out.size) (Nat.lt_of_lt_of_le HBL.out E2.out.size))
    have HO' := Lib.hid hj.one
    have HC5 := Lib.hid (Cs.ext HC3.out HX3.out)
    clear hj he R2 E2
    go_wp2_with ((with_reducible refine wpList_store_in ?_ ?_ 37 (.tmp 22) (.tmp 21) ?_ b (k * 6) 37 (css.flatten ++ rest).toArray #[a', b', c', d', e', f'] ?_ ?_ ?_ ?_ ?_ ?_ ?_); (exact rfl); (exact rfl); (exact rfl); (exact rfl); (exact rfl); (exact HC5.out); (exact infoPo); (exact HCS.out); (exact HO'.out); intro w6 k6 g6; have K6 := Lib.hid (HSTEP.out w3 w6 a' b' c' d' e' f' HX3.out HF.out k6 g6); clear k6 g6)
    exact ⟨⟨k + 1, by omega, by go_num, K6⟩, by simp [intOf]; omega⟩
   ·obtain rfl : k = l.length := by omega
    have hd : decide (l.length < l.length) = false := decide_eq_false (by omega)
    have hd2 : decide ((l.length : Int) < (l.length : Int)) = false := decide_eq_false (by omega)
    have HRO := Lib.hid (EaJ.row HJ.out HB.out HCAP.out.1 HCAP.out.2 HRS.out)
    have HE6 := Lib.hid (show Ext w wr by obtain ⟨_, _, _, _, _, _, h⟩ := HJ.out; exact h)
    clear HJ
    go_wp2_with fail
    go_ret
    exact ⟨_, rfl, HRO.out, HE6.out⟩
def RetJn (lo : Nat) (W : World) (v : Value) (j : Jn) : Prop := ∃ a b c d e f m, v = .agg #[a, b, c, d, e, f, m] ∧ RetWo lo W (.agg #[a, b, c]) j.p.w ∧ RetX lo W (.agg #[d, e, f]) j.p.x ∧ RowO 37 6 PoR No lo W m j.m
theorem RetJn.ext {lo : Nat} {W W' : World} {v : Value} {j : Jn} (h : RetJn lo W v j) (he : Ext W W') : RetJn lo W' v j := by
 obtain ⟨a, b, c, d, e, f, m, q, h1, h2, h3⟩ := h
 exact ⟨a, b, c, d, e, f, m, q, h1.ext he, h2.ext he, h3.ext he⟩
theorem RetJn.low {lo lo' : Nat} {W : World} {v : Value} {j : Jn} (h : RetJn lo W v j) (hl : lo' ≤ lo) : RetJn lo' W v j := by
 obtain ⟨a, b, c, d, e, f, m, q, h1, h2, h3⟩ := h
 exact ⟨a, b, c, d, e, f, m, q, h1.low hl, h2.low hl, h3.low hl⟩
theorem RetJn.old {lo g : Nat} {W W' : World} {v : Value} {j : Jn} (h : RetJn lo W v j) (hg : W.grownBy W' (some g)) (hl : g < lo) : RetJn lo W' v j := by
 obtain ⟨a, b, c, d, e, f, m, q, h1, h2, h3⟩ := h
 exact ⟨a, b, c, d, e, f, m, q, h1.old hg hl, h2.old hg hl, rowO_old h3 hg hl⟩
theorem RetJn.one {lo : Nat} {W : World} {a b c d e f m : Value} {j : Jn} (h : RetJn lo W (.agg #[a, b, c, d, e, f, m]) j) : (#[a, b, c, d, e, f, m] : Array Value).all (·.oneCell') = true := by
 obtain ⟨a', b', c', d', e', f', m', q, h1, h2, h3⟩ := h
 obtain ⟨rfl, rfl, rfl, rfl, rfl, rfl, rfl⟩ : a = a' ∧ b = b' ∧ c = c' ∧ d = d' ∧ e = e' ∧ f = f' ∧ m = m' := by simpa using q
 have h1 := h1.one
 have h2 := h2.one
 obtain ⟨A, n, rfl⟩ := rowO_shp h3
 simp only [List.all_toArray, List.all_cons, List.all_nil, Bool.and_true, Bool.and_eq_true] at h1 ⊢
 exact ⟨h1.1, h1.2.1, h1.2.2, h2.1, h2.2.1, h2.2.2, rfl⟩
def SzJn (j : Jn) : Prop := (SzO j.p.w ∧ SzX j.p.x) ∧ j.m.length ≤ 1000000000 ∧ ∀ p ∈ j.m, SzO p.w ∧ SzX p.x
set_option maxRecDepth 100000 in
theorem results_jno {fn : Func} {x : Tmp} (h : fn.results = #[.cell x 40]) (tmps : Array Value) (w : World) (g : Nat) (a b c d e f m : Value) (hp : tmps.getD x undef = .pointer (some ⟨g, 0, none⟩)) (hg : Cs w g 40 #[a, b, c, d, e, f, m]) : (results fn tmps).run Tryz.prog w = .ok (.agg #[a, b, c, d, e, f, m]) w :=
 results_cell_row h tmps w g 40 #[a, b, c, d, e, f, m] (0, 0) _ hp hg Tryz.underlying40 rfl infoJn
set_option maxRecDepth 100000 in
theorem built_jn (A : Option Addr) (n c : Nat) : Tryz.prog.built 40 [(1, .slice A n c)] = some #[.slice none 0 0, .slice none 0 0, .slice none 0 0, .slice none 0 0, .slice none 0 0, .slice none 0 0, .slice A n c] := by kernel_rfl
set_option maxRecDepth 100000 in
theorem wpList_build_jn {ops : Array Oper} {rest : List Oper} {o : Oper} {a0 : Act} {w : World} {Q : Exit → Act → World → Prop} (hg : o.guard = none) (x : Operand) (ho : o.op = .build 40 #[(1, x)]) (A : Option Addr) (n c : Nat) (hx : a0.eval x = .slice A n c)
  (h : wpList Tryz.prog ops Q rest (a0.put o.dst (.agg #[.slice none 0 0, .slice none 0 0, .slice none 0 0, .slice none 0 0, .slice none 0 0, .slice none 0 0, .slice A n c])) w) : wpList Tryz.prog ops Q (o :: rest) a0 w := by
 refine wpList_build hg 40 #[(1, x)] ho ?_ ?_
 ·simp only [List.map_toArray, List.map_cons, List.map_nil, hx, built_jn]; rfl
 ·simp only [List.map_toArray, List.map_cons, List.map_nil, hx, built_jn, Option.getD_some]; exact h
def OjN (w : World) (g1 g2 g3 lo : Nat) (pv : Array Value) (m : Value) (ms : List Po) (cur : Array Value) (W : World) : Prop :=
 Cs W g1 40 pv ∧ Cs W g2 40 #[.slice none 0 0, .slice none 0 0, .slice none 0 0, .slice none 0 0, .slice none 0 0, .slice none 0 0, .slice none 0 0] ∧ Cs W g3 40 cur ∧ RowO 37 6 PoR (fun g => g = g3) lo W m ms ∧ Ext w W
theorem OjN.ext {w : World} {g1 g2 g3 lo : Nat} {pv : Array Value} {m : Value} {ms : List Po} {cur : Array Value} {W W' : World} (h : OjN w g1 g2 g3 lo pv m ms cur W) (he : Ext W W') : OjN w g1 g2 g3 lo pv m ms cur W' :=
 ⟨Cs.ext h.1 he, Cs.ext h.2.1 he, Cs.ext h.2.2.1 he, h.2.2.2.1.ext he, h.2.2.2.2.trans he⟩
theorem OjN.put {w : World} {g1 g2 g3 lo : Nat} {pv : Array Value} {m : Value} {ms : List Po} {cur cur' : Array Value} {W W' : World} (h : OjN w g1 g2 g3 lo pv m ms cur W) (hk : Cs W' g3 40 cur') (hg : W.grownBy W' (some g3)) (h1 : g1 ≠ g3) (h2 : g2 ≠ g3) (hm : m.ownBlock ≠ some g3) (hw : w.heap.size ≤ g3) : OjN w g1 g2 g3 lo pv m ms cur' W' :=
 ⟨Cs.kept h.1 hg (fun e => h1 (Option.some.inj e)), Cs.kept h.2.1 hg (fun e => h2 (Option.some.inj e)), hk, h.2.2.2.1.old hg (.inr (.inl rfl)) hm, h.2.2.2.2.grown hg hw⟩
def ojc (full : Bool) (a b c d e f m : Value) : Array Value := if full then #[a, b, c, d, e, f, m] else #[a, b, c, .slice none 0 0, .slice none 0 0, .slice none 0 0, m]
def OjM (w : World) (g1 g2 g3 lo lo2 : Nat) (pv : Array Value) (m : Value) (j : Jn) (full : Bool) (v1 v2 : Value) (W : World) : Prop := ∃ a b c d e f, v1 = .agg #[a, b, c] ∧ v2 = .agg #[d, e, f] ∧ OjN w g1 g2 g3 lo pv m j.m (ojc full a b c d e f m) W ∧ RetWo lo2 W v1 j.p.w ∧ RetX lo2 W v2 j.p.x
theorem OjM.ext {w : World} {g1 g2 g3 lo lo2 : Nat} {pv : Array Value} {m : Value} {j : Jn} {full : Bool} {v1 v2 : Value} {W W' : World} (h : OjM w g1 g2 g3 lo lo2 pv m j full v1 v2 W) (he : Ext W W') : OjM w g1 g2 g3 lo lo2 pv m j full v1 v2 W' := by
 obtain ⟨a, b, c, d, e, f, q1, q2, h1, h2, h3⟩ := h
 exact ⟨a, b, c, d, e, f, q1, q2, h1.ext he, h2.ext he, h3.ext he⟩
theorem OjM.x {w : World} {g1 g2 g3 lo lo2 : Nat} {pv : Array Value} {m : Value} {j : Jn} {full : Bool} {v1 v2 : Value} {W : World} (h : OjM w g1 g2 g3 lo lo2 pv m j full v1 v2 W) : RetX lo2 W v2 j.p.x := by
 obtain ⟨a, b, c, d, e, f, q1, q2, h1, h2, h3⟩ := h
 exact h3
end Go.Proofs.YtnjpdchmdimaaaaGreat
