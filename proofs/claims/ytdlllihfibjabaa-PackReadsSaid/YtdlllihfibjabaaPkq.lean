/- Slice expressions at the walk, their values left whole. No program's number is named here. Package pack: longPart. -/
import Derived.Test.YtdlllihfibjabaaSlc
import Derived.Laws.Slices
import Derived.Test.YtdlllihfibjabaaPko
namespace Go.Proofs.Ytdlllihfibjabaa
open Go.RowKit

set_option maxRecDepth 100000 in
theorem elem_of {P : Program} {t e : TypeId} (h : P.underlying t = some (.slice e)) : P.elem t = e := by
  unfold Program.elem
  rw [h]
set_option maxRecDepth 100000 in
theorem run_sizeOf_of {P : Program} {e : TypeId} {s : Nat} (h : (P.info? e).map (·.size) = some s) (w : World) : (sizeOf e).run P w = .ok s w := by
  obtain ⟨i, hi, hs⟩ := Option.map_eq_some_iff.1 h
  simp [sizeOf, typeInfo, hi, hs]
set_option maxRecDepth 100000 in
/-- x[lo:]. -/
theorem wpList_slice_from {P : Program} {w : World} {ops : Array Oper} {rest : List Oper} {o : Oper} {a : Act} {Q : Exit → Act → World → Prop} (hgd : Region.wanted o (yielded ops a.tmps) = true) (t e : TypeId) (x lo : Operand)
    (ho : o.op = .slice t x (some lo) none none) (ht : P.underlying t = some (.slice e)) {s : Nat} (hs : (P.info? e).map (·.size) = some s) (A : Option Addr) (m c n : Nat) (k : IntKind) (hx : a.eval x = .slice A m c) (hl : a.eval lo = .int k (n : Int)) (hn : n ≤ m)
    (h : wpList P ops Q rest (a.put o.dst (sliced A n m c s)) w) : wpList P ops Q (o :: rest) a w := by
  have hr := (run_sliceAt_slice (P := P) w t (.slice A m c) _ _ _ (by rw [elem_of ht]; exact ht)).trans (run_slice_l (P := P) w t A m c (by rw [elem_of ht]; exact ht) k (n : Int) (by omega) (by omega))
  rw [elem_of ht, run_sizeOf_of hs] at hr
  simp only [Result.andThen, Int.toNat_natCast] at hr
  refine wpList_step fun K hK => ?_
  rw [if_pos hgd]
  unfold Oper.wp
  simp [execOp, ho, hx, hl, hr, Result.andThen]
  exact hK _ _ h
set_option maxRecDepth 100000 in
/-- x[lo:hi]. -/
theorem wpList_slice_both {P : Program} {w : World} {ops : Array Oper} {rest : List Oper} {o : Oper} {a : Act} {Q : Exit → Act → World → Prop} (hgd : Region.wanted o (yielded ops a.tmps) = true) (t e : TypeId) (x lo hi : Operand)
    (ho : o.op = .slice t x (some lo) (some hi) none) (ht : P.underlying t = some (.slice e)) {s : Nat} (hs : (P.info? e).map (·.size) = some s) (A : Option Addr) (m c n z : Nat) (k k2 : IntKind) (hx : a.eval x = .slice A m c) (hl : a.eval lo = .int k (n : Int)) (hh : a.eval hi = .int k2 (z : Int)) (hn : n ≤ z) (hz : z ≤ c)
    (h : wpList P ops Q rest (a.put o.dst (sliced A n z c s)) w) : wpList P ops Q (o :: rest) a w := by
  have hr := (run_sliceAt_slice (P := P) w t (.slice A m c) _ _ _ (by rw [elem_of ht]; exact ht)).trans (run_slice_lh (P := P) w t A m c (by rw [elem_of ht]; exact ht) k k2 (n : Int) (z : Int) (by omega) (by omega) (by omega))
  rw [elem_of ht, run_sizeOf_of hs] at hr
  simp only [Result.andThen, Int.toNat_natCast] at hr
  refine wpList_step fun K hK => ?_
  rw [if_pos hgd]
  unfold Oper.wp
  simp [execOp, ho, hx, hl, hh, hr, Result.andThen]
  exact hK _ _ h
set_option maxRecDepth 100000 in
/-- What they read as. -/
theorem Bs.sliced {w : World} {A : Option Addr} {m c : Nat} {l : List UInt8} (h : Bs w (.slice A m c) l) (n z : Nat) (hn : n ≤ z) (hz : z ≤ l.length) : Bs w (sliced A n z c 1) ((l.take z).drop n) := by
  have := (h.take z hz).drop n (by simp; omega)
  have e : (l.take z).length = z := by simp; omega
  rw [e] at this
  unfold Go.sliced
  rw [Nat.mul_one]
  exact this
set_option maxRecDepth 100000 in
theorem sliced_is (A : Option Addr) (n z c s : Nat) : ∃ A', Go.sliced A n z c s = .slice A' (z - n) (c - n) := ⟨_, rfl⟩
end Go.Proofs.Ytdlllihfibjabaa
namespace Go.Proofs.Ytdlllihfibjabaa
open Go.RowKit Go.Shelf

/-- What longPart works on: its head, its part, the reader. -/
def LgW (w0 w : World) (g : Nat) (sl : Value) (all hd : Nat) (W : World) : Prop :=
  Wd W w.heap.size 46 hd ∧ Cs W (w.heap.size + 1) 48 pz ∧ Cs W g 109 #[sl, .int .i64 (all : Nat)] ∧ Ext w0 W ∧ w.grownBy W (some g) ∧ w.heap.size + 1 < W.heap.size
set_option maxRecDepth 100000 in
theorem LgW.ext {w0 w : World} {g : Nat} {sl : Value} {all hd : Nat} {W W' : World} (h : LgW w0 w g sl all hd W) (he : Ext W W') : LgW w0 w g sl all hd W' :=
  ⟨Wd.ext h.1 he, Cs.ext h.2.1 he, Cs.ext h.2.2.1 he, h.2.2.2.1.trans he, grown_trans h.2.2.2.2.1 (grown_of_ext he _), Nat.lt_of_lt_of_le h.2.2.2.2.2 he.size⟩
set_option maxRecDepth 100000 in
theorem LgW.moved {w0 w : World} {g : Nat} {sl sl' : Value} {all hd : Nat} {W W' : World} (h : LgW w0 w g sl all hd W) (hg : W.grownBy W' (some g)) (hc : Cs W' g 109 #[sl', .int .i64 (all : Nat)]) (h0 : w0.heap.size ≤ g) (hlt : g < w.heap.size) : LgW w0 w g sl' all hd W' :=
  ⟨Wd.kept h.1 hg (some_ne (by omega)), Cs.kept h.2.1 hg (some_ne (by omega)), hc, h.2.2.2.1.grown hg h0, grown_trans h.2.2.2.2.1 hg, Nat.lt_of_lt_of_le h.2.2.2.2.2 hg.size⟩
set_option maxRecDepth 100000 in
theorem LgW.ext' {w0 w : World} {g : Nat} {sl : Value} {all hd : Nat} {W W' : World} {r : Nat} (h : LgW w0 w g sl all hd W) (hg : W.grownBy W' (some r)) (hr : w.heap.size + 1 < r) (hgr : g ≠ r) (h0 : w0.heap.size ≤ r) : LgW w0 w g sl all hd W' :=
  ⟨Wd.kept h.1 hg (some_ne (by omega)), Cs.kept h.2.1 hg (some_ne (by omega)), Cs.kept h.2.2.1 hg (some_ne hgr), h.2.2.2.1.grown hg h0, grown_past h.2.2.2.2.1 hg (by omega), Nat.lt_of_lt_of_le h.2.2.2.2.2 hg.size⟩
/-- What longPart answers. -/
def RetLg (w0 w : World) (g all hd : Nat) (left : List UInt8) (e : Ending) (w' : World) : Prop :=
  match lgO all hd left with
  | none => e = .returned (.tuple #[.agg (ptc (false, 0, []) (.slice none 0 0)), .bool false]) ∧ Ext w0 w'
  | some (p, left') => ∃ u A' c', e = .returned (.tuple #[.agg (ptc p u), .bool true]) ∧ Own w' w.heap.size 5 u p.2.2 ∧ Cs w' g 109 #[.slice A' left'.length c', .int .i64 (all : Nat)] ∧ Bs w0 (.slice A' left'.length c') left' ∧ Ext w0 w' ∧ w.grownBy w' (some g)
set_option maxRecDepth 100000 in
theorem RetLg.no {w0 w : World} {g all hd : Nat} {left : List UInt8} {e : Ending} {w' : World} (h : lgO all hd left = none) (he : e = .returned (.tuple #[.agg (ptc (false, 0, []) (.slice none 0 0)), .bool false])) (hw : Ext w0 w') : RetLg w0 w g all hd left e w' := by
  unfold RetLg
  rw [h]
  exact ⟨he, hw⟩
set_option maxRecDepth 100000 in
theorem RetLg.yes {w0 w : World} {g all hd : Nat} {left : List UInt8} {e : Ending} {w' : World} {p : Pt} {left' : List UInt8} (h : lgO all hd left = some (p, left')) (hh : ∃ u A' c', e = .returned (.tuple #[.agg (ptc p u), .bool true]) ∧ Own w' w.heap.size 5 u p.2.2 ∧ Cs w' g 109 #[.slice A' left'.length c', .int .i64 (all : Nat)] ∧ Bs w0 (.slice A' left'.length c') left' ∧ Ext w0 w' ∧ w.grownBy w' (some g)) : RetLg w0 w g all hd left e w' := by
  unfold RetLg
  rw [h]
  exact hh
set_option maxRecDepth 100000 in
theorem lgO_no {all hd : Nat} {left : List UInt8} (h : ¬ (hd = all - left.length ∧ 32 ≤ left.length ∧ beN (left.take 32) ≤ 200 ∧ flN (beN (left.take 32)) ≤ (left.drop 32).length ∧ blkB (((left.drop 32).take (flN (beN (left.take 32)))).drop (beN (left.take 32))) = true)) : lgO all hd left = none := if_neg h
set_option maxRecDepth 100000 in
theorem lgO_yes {all hd : Nat} {left : List UInt8} (h : hd = all - left.length ∧ 32 ≤ left.length ∧ beN (left.take 32) ≤ 200 ∧ flN (beN (left.take 32)) ≤ (left.drop 32).length ∧ blkB (((left.drop 32).take (flN (beN (left.take 32)))).drop (beN (left.take 32))) = true) :
    lgO all hd left = some ((true, 0, (left.drop 32).take (beN (left.take 32))), (left.drop 32).drop (flN (beN (left.take 32)))) := if_pos h
set_option maxRecDepth 100000 in
theorem next_yes' (g : Nat) (A : Option Addr) (m c n : Nat) (sl : Value) (w : World) (hc : w.cell? ⟨g, 0, none⟩ = some (.slice A m c)) (hf : w.frozen? ⟨g, 0, none⟩ = false) (hn : n ≤ m) (hmc : m ≤ c) (hcm : c ≤ maxLen) (he : behV A m c n = sl) :
    Calls Try.prog 68 #[.pointer (some ⟨g, 0, none⟩), .int .i64 (n : Int)] w fun e w' => e = .returned (.tuple #[.slice A n c, .bool true]) ∧ w' = w.setCell ⟨g, 0, none⟩ sl := by
  rw [← he]
  exact next_yes g A m c n w hc hf hn hmc hcm
set_option maxRecDepth 100000 in
theorem small_yes (x : Nat) (h : x ≤ 200) : smallN x = x ∧ isSmall x = true := by
  unfold smallN isSmall
  exact ⟨if_pos (by omega), by simp; omega⟩
set_option maxRecDepth 100000 in
theorem small_big (x : Nat) (h : ¬ x ≤ 200) : isSmall x = false ∨ (isSmall x = true ∧ smallN x = x ∧ 200 < x ∧ x < 18446744073709551616) := by
  by_cases h2 : x < 18446744073709551616
  · exact .inr ⟨by simp [isSmall, h2], by simp [smallN, h2], by omega, h2⟩
  · exact .inl (by simp [isSmall, h2])

set_option maxRecDepth 100000 in
set_option maxHeartbeats 2000000 in
theorem longPart_any (w0 : World) (g : Nat) (A0 : Option Addr) (c : Nat) (left : List UInt8) (all hd : Nat) (w : World) (hg : Cs w g 109 #[.slice A0 left.length c, .int .i64 (all : Nat)]) (hb : Bs w0 (.slice A0 left.length c) left) (he0 : Ext w0 w) (hg0 : w0.heap.size ≤ g) (hal : left.length ≤ all) (ham : all ≤ 1000000000000) (hhd : hd < M256) :
    Calls Try.prog 110 #[.pointer (some ⟨g, 0, none⟩), wv hd] w (RetLg w0 w g all hd left) := by
  have HB := Lib.hid hb
  have HHD := Lib.hid hhd
  have hlt := Cs.lt hg
  have hcap : left.length ≤ c ∧ c ≤ maxLen := by obtain ⟨_, _, e1, h1, h2, _⟩ := hb; injection e1 with e2 e3 e4; omega
  unfold maxLen at hcap
  obtain ⟨hcl, hcm⟩ := hcap
  have HN := Lib.hid (fun h => @lgO_no all hd left h)
  have HY := Lib.hid (fun h => @lgO_yes all hd left h)
  have HL0 : Hid (LgW w0 w g (.slice A0 left.length c) all hd ((w.alloc (.cells (wc hd) 46)).alloc (.cells pz 48))) := Lib.hid
    ⟨Cs.alloc (Cs.new _ _ _ _ rfl) _, Cs.new _ _ _ _ (by simp), Cs.alloc (Cs.alloc hg _) _, (he0.alloc _).alloc _, grown_alloc (grown_alloc (World.grownBy.refl _ _) _) _, by simp⟩
  have HX := Lib.hid (fun (h : 32 ≤ left.length) => beN_lt256 (left.take 32) (by rw [List.length_take]; omega))
  clear hb hg he0
  generalize hn : left.length = n at *
  have HLN := Lib.hid hn
  obtain ⟨d, hd'⟩ : ∃ d, all - n = d := ⟨_, rfl⟩
  have HD := Lib.hid hd'
  have hw1 : IntKind.i64.wrap ((all : Int) - (n : Int)) = (d : Int) := by rw [IntWalk.i64_in _ (by omega)]; omega
  have hdb : (0 : Int) ≤ (d : Int) := by omega
  have hdb2 : (d : Int) ≤ 1000000000000 := by omega
  have hdb3 : d < 18446744073709551616 := by omega
  have HDM := Lib.hid (show d < M256 by unfold M256; omega)
  have HOF := Lib.hid (fun W => of_w d _ rfl W hdb3)
  obtain ⟨qb, hqb⟩ : ∃ qb, (hd != d) = qb := ⟨_, rfl⟩
  have HQ := Lib.hid hqb
  unfold pz at HL0
  clear hd' hn hqb hhd hdb3
  unfold wv
  go_enter Try.func110, Try.ntmps110
  go_wp2_with fail
  refine wp_named fun a0 ha0 => ?_
  obtain ⟨fr, hfr⟩ : ∃ fr : (Nat → Value) → Act, ∀ V, fr V = (((((((((((((((a0.put (some 11) (V 0)).put (some 12) (V 1)).put (some 13) (V 2)).put (some 14) (V 3)).put (some 15) (V 4)).put (some 16) (V 5)).put (some 17) (V 6)).put (some 18) (V 7)).put (some 19) (V 8)).put (some 20) (V 9)).put (some 21) (V 10)).put (some 22) (V 11)).put (some 23) (V 12)).put (some 24) (V 13)).put (some 25) (V 14)) := ⟨fun V => (((((((((((((((a0.put (some 11) (V 0)).put (some 12) (V 1)).put (some 13) (V 2)).put (some 14) (V 3)).put (some 15) (V 4)).put (some 16) (V 5)).put (some 17) (V 6)).put (some 18) (V 7)).put (some 19) (V 8)).put (some 20) (V 9)).put (some 21) (V 10)).put (some 22) (V 11)).put (some 23) (V 12)).put (some 24) (V 13)).put (some 25) (V 14)), fun _ => rfl⟩
  rw [ha0] at hfr
  simp only [Act.put, List.setIfInBounds_toArray, List.set_cons_zero, List.set_cons_succ] at hfr
  have HFR := Lib.hid hfr
  clear hfr
  refine wp_region_inv (by kernel_rfl) (by kernel_rfl) (fun L A W => ∃ V : Nat → Value, A = fr V ∧ Vals (fun j => ([some (wv hd), some (.pointer (some ⟨g, 0, none⟩)), some (.pointer (some ⟨g, 0, none⟩)), some (.pointer (some ⟨g, 1, none⟩)), some (.int .i64 (all : Nat)), some (.pointer (some ⟨g, 0, none⟩)), some (.pointer (some ⟨g, 0, none⟩)), some (.pointer (some ⟨g, 0, none⟩)), some (.pointer (some ⟨g, 0, none⟩)), some (.slice A0 n c), some (.int .i64 (n : Nat)), some (.int .i64 (d : Nat)), some (.int .u64 (d : Nat)), some (wv d), some (.bool qb)] : List (Option Value)).getD j none) L V ∧ (LgW w0 w g (.slice A0 n c) all hd W)) ?_ ⟨?_, ?_, ?_, ?_, ?_, ?_, ?_, ?_, ?_, ?_, ?_, ?_, ?_, ?_, ?_, trivial⟩ ?_
  · refine ⟨fun j => a0.tmps.getD (([11, 12, 13, 14, 15, 16, 17, 18, 19, 20, 21, 22, 23, 24, 25] : List Nat).getD j 0) undef, ?_, Vals.no _ _ _ (far_none _ _ rfl), HL0.out.ext (Ext.refl _).drew⟩
    rw [HFR.out, ha0]
    rfl
  all_goals clear ha0
  · rintro L A W K hL hC hW ⟨V, rfl, HV, s0⟩ hK
    have hB := s0
    have H := Lib.hid (show ∀ W', Ext W W' → K (fr (upd V 0 (wv hd))) W' from fun W' he => hK _ _ ⟨upd V 0 (wv hd), rfl, HV.up 0 _ (fun x hx => Option.some.inj hx), LgW.ext s0 he⟩)
    clear hK hC hW hL HV s0
    rw [HFR.out]
    have HWD := Lib.hid hB.1
    clear hB
    refine wpList_load_word rfl 46 44 (.tmp 3) rfl Try.underlying46 winfo w.heap.size hd rfl HWD.out ?_
    show K _ _
    have := H.out _ (Ext.refl _)
    rw [HFR.out] at this
    exact this
  · rintro L A W K hL hC hW ⟨V, rfl, HV, s0⟩ hK
    have H := Lib.hid (show ∀ W', Ext W W' → K (fr (upd V 1 (.pointer (some ⟨g, 0, none⟩)))) W' from fun W' he => hK _ _ ⟨upd V 1 (.pointer (some ⟨g, 0, none⟩)), rfl, HV.up 1 _ (fun x hx => Option.some.inj hx), LgW.ext s0 he⟩)
    clear hK hC hW hL HV s0
    rw [HFR.out]
    go_wp2_with fail
    show K _ _
    have := H.out _ (Ext.refl _)
    rw [HFR.out] at this
    exact this
  · rintro L A W K hL hC hW ⟨V, rfl, HV, s0⟩ hK
    have e1 : V 1 = .pointer (some ⟨g, 0, none⟩) := HV 1 _ rfl (hW 1 rfl)
    have H := Lib.hid (show ∀ W', Ext W W' → K (fr (upd V 2 (.pointer (some ⟨g, 0, none⟩)))) W' from fun W' he => hK _ _ ⟨upd V 2 (.pointer (some ⟨g, 0, none⟩)), rfl, HV.up 2 _ (fun x hx => Option.some.inj hx), LgW.ext s0 he⟩)
    have HU := Lib.hid (show (upd V 2 (.pointer (some ⟨g, 0, none⟩))) 1 = .pointer (some ⟨g, 0, none⟩) from e1)
    clear hK hC hW hL HV s0
    rw [HFR.out]
    rw [e1]
    clear e1
    go_wp2_with fail
    show K _ _
    have := H.out _ (Ext.refl _)
    rw [HFR.out] at this
    obtain u1 := HU.out
    rw [u1] at this
    exact this
  · rintro L A W K hL hC hW ⟨V, rfl, HV, s0⟩ hK
    have e2 : V 2 = .pointer (some ⟨g, 0, none⟩) := HV 2 _ rfl (hW 2 rfl)
    have H := Lib.hid (show ∀ W', Ext W W' → K (fr (upd V 3 (.pointer (some ⟨g, 1, none⟩)))) W' from fun W' he => hK _ _ ⟨upd V 3 (.pointer (some ⟨g, 1, none⟩)), rfl, HV.up 3 _ (fun x hx => Option.some.inj hx), LgW.ext s0 he⟩)
    have HU := Lib.hid (show (upd V 3 (.pointer (some ⟨g, 1, none⟩))) 2 = .pointer (some ⟨g, 0, none⟩) from e2)
    clear hK hC hW hL HV s0
    rw [HFR.out]
    rw [e2]
    clear e2
    go_wp2_with fail
    show K _ _
    have := H.out _ (Ext.refl _)
    rw [HFR.out] at this
    obtain u2 := HU.out
    rw [u2] at this
    exact this
  · rintro L A W K hL hC hW ⟨V, rfl, HV, s0⟩ hK
    have e3 : V 3 = .pointer (some ⟨g, 1, none⟩) := HV 3 _ rfl (hW 3 rfl)
    have hB := s0
    have H := Lib.hid (show ∀ W', Ext W W' → K (fr (upd V 4 (.int .i64 (all : Nat)))) W' from fun W' he => hK _ _ ⟨upd V 4 (.int .i64 (all : Nat)), rfl, HV.up 4 _ (fun x hx => Option.some.inj hx), LgW.ext s0 he⟩)
    have HU := Lib.hid (show (upd V 4 (.int .i64 (all : Nat))) 3 = .pointer (some ⟨g, 1, none⟩) from e3)
    clear hK hC hW hL HV s0
    rw [HFR.out]
    rw [e3]
    clear e3
    have hcl := Cs.cell hB.2.2.1 1 _ rfl
    clear hB
    go_wp2_with fail
    show K _ _
    have := H.out _ (Ext.refl _)
    rw [HFR.out] at this
    obtain u3 := HU.out
    rw [u3] at this
    exact this
  · rintro L A W K hL hC hW ⟨V, rfl, HV, s0⟩ hK
    have H := Lib.hid (show ∀ W', Ext W W' → K (fr (upd V 5 (.pointer (some ⟨g, 0, none⟩)))) W' from fun W' he => hK _ _ ⟨upd V 5 (.pointer (some ⟨g, 0, none⟩)), rfl, HV.up 5 _ (fun x hx => Option.some.inj hx), LgW.ext s0 he⟩)
    clear hK hC hW hL HV s0
    rw [HFR.out]
    go_wp2_with fail
    show K _ _
    have := H.out _ (Ext.refl _)
    rw [HFR.out] at this
    exact this
  · rintro L A W K hL hC hW ⟨V, rfl, HV, s0⟩ hK
    have e5 : V 5 = .pointer (some ⟨g, 0, none⟩) := HV 5 _ rfl (hW 5 rfl)
    have H := Lib.hid (show ∀ W', Ext W W' → K (fr (upd V 6 (.pointer (some ⟨g, 0, none⟩)))) W' from fun W' he => hK _ _ ⟨upd V 6 (.pointer (some ⟨g, 0, none⟩)), rfl, HV.up 6 _ (fun x hx => Option.some.inj hx), LgW.ext s0 he⟩)
    have HU := Lib.hid (show (upd V 6 (.pointer (some ⟨g, 0, none⟩))) 5 = .pointer (some ⟨g, 0, none⟩) from e5)
    clear hK hC hW hL HV s0
    rw [HFR.out]
    rw [e5]
    clear e5
    go_wp2_with fail
    show K _ _
    have := H.out _ (Ext.refl _)
    rw [HFR.out] at this
    obtain u5 := HU.out
    rw [u5] at this
    exact this
  · rintro L A W K hL hC hW ⟨V, rfl, HV, s0⟩ hK
    have e6 : V 6 = .pointer (some ⟨g, 0, none⟩) := HV 6 _ rfl (hW 6 rfl)
    have H := Lib.hid (show ∀ W', Ext W W' → K (fr (upd V 7 (.pointer (some ⟨g, 0, none⟩)))) W' from fun W' he => hK _ _ ⟨upd V 7 (.pointer (some ⟨g, 0, none⟩)), rfl, HV.up 7 _ (fun x hx => Option.some.inj hx), LgW.ext s0 he⟩)
    have HU := Lib.hid (show (upd V 7 (.pointer (some ⟨g, 0, none⟩))) 6 = .pointer (some ⟨g, 0, none⟩) from e6)
    clear hK hC hW hL HV s0
    rw [HFR.out]
    rw [e6]
    clear e6
    go_wp2_with fail
    show K _ _
    have := H.out _ (Ext.refl _)
    rw [HFR.out] at this
    obtain u6 := HU.out
    rw [u6] at this
    exact this
  · rintro L A W K hL hC hW ⟨V, rfl, HV, s0⟩ hK
    have e7 : V 7 = .pointer (some ⟨g, 0, none⟩) := HV 7 _ rfl (hW 7 rfl)
    have H := Lib.hid (show ∀ W', Ext W W' → K (fr (upd V 8 (.pointer (some ⟨g, 0, none⟩)))) W' from fun W' he => hK _ _ ⟨upd V 8 (.pointer (some ⟨g, 0, none⟩)), rfl, HV.up 8 _ (fun x hx => Option.some.inj hx), LgW.ext s0 he⟩)
    have HU := Lib.hid (show (upd V 8 (.pointer (some ⟨g, 0, none⟩))) 7 = .pointer (some ⟨g, 0, none⟩) from e7)
    clear hK hC hW hL HV s0
    rw [HFR.out]
    rw [e7]
    clear e7
    go_wp2_with fail
    show K _ _
    have := H.out _ (Ext.refl _)
    rw [HFR.out] at this
    obtain u7 := HU.out
    rw [u7] at this
    exact this
  · rintro L A W K hL hC hW ⟨V, rfl, HV, s0⟩ hK
    have e8 : V 8 = .pointer (some ⟨g, 0, none⟩) := HV 8 _ rfl (hW 8 rfl)
    have hB := s0
    have H := Lib.hid (show ∀ W', Ext W W' → K (fr (upd V 9 (.slice A0 n c))) W' from fun W' he => hK _ _ ⟨upd V 9 (.slice A0 n c), rfl, HV.up 9 _ (fun x hx => Option.some.inj hx), LgW.ext s0 he⟩)
    have HU := Lib.hid (show (upd V 9 (.slice A0 n c)) 8 = .pointer (some ⟨g, 0, none⟩) from e8)
    clear hK hC hW hL HV s0
    rw [HFR.out]
    rw [e8]
    clear e8
    have hcl := Cs.cell hB.2.2.1 0 _ rfl
    clear hB
    go_wp2_with fail
    show K _ _
    have := H.out _ (Ext.refl _)
    rw [HFR.out] at this
    obtain u8 := HU.out
    rw [u8] at this
    exact this
  · rintro L A W K hL hC hW ⟨V, rfl, HV, s0⟩ hK
    have e9 : V 9 = .slice A0 n c := HV 9 _ rfl (hW 9 rfl)
    have H := Lib.hid (show ∀ W', Ext W W' → K (fr (upd V 10 (.int .i64 (n : Nat)))) W' from fun W' he => hK _ _ ⟨upd V 10 (.int .i64 (n : Nat)), rfl, HV.up 10 _ (fun x hx => Option.some.inj hx), LgW.ext s0 he⟩)
    have HU := Lib.hid (show (upd V 10 (.int .i64 (n : Nat))) 9 = .slice A0 n c from e9)
    clear hK hC hW hL HV s0
    rw [HFR.out]
    rw [e9]
    clear e9
    go_wp2_with fail
    show K _ _
    have := H.out _ (Ext.refl _)
    rw [HFR.out] at this
    obtain u9 := HU.out
    rw [u9] at this
    exact this
  · rintro L A W K hL hC hW ⟨V, rfl, HV, s0⟩ hK
    have e4 : V 4 = .int .i64 (all : Nat) := HV 4 _ rfl (hW 4 rfl)
    have e10 : V 10 = .int .i64 (n : Nat) := HV 10 _ rfl (hW 10 rfl)
    have hB := s0
    have H := Lib.hid (show ∀ W', Ext W W' → K (fr (upd V 11 (.int .i64 (d : Nat)))) W' from fun W' he => hK _ _ ⟨upd V 11 (.int .i64 (d : Nat)), rfl, HV.up 11 _ (fun x hx => Option.some.inj hx), LgW.ext s0 he⟩)
    have HU := Lib.hid (show (upd V 11 (.int .i64 (d : Nat))) 4 = .int .i64 (all : Nat) ∧ (upd V 11 (.int .i64 (d : Nat))) 10 = .int .i64 (n : Nat) from ⟨e4, e10⟩)
    clear hK hC hW hL HV s0
    rw [HFR.out]
    rw [e4, e10]
    clear e4 e10
    clear hB
    go_wp2_with fail
    show K _ _
    have := H.out _ (Ext.refl _)
    rw [HFR.out] at this
    obtain ⟨u4, u10⟩ := HU.out
    rw [u4, u10] at this
    exact this
  · rintro L A W K hL hC hW ⟨V, rfl, HV, s0⟩ hK
    have e11 : V 11 = .int .i64 (d : Nat) := HV 11 _ rfl (hW 11 rfl)
    have H := Lib.hid (show ∀ W', Ext W W' → K (fr (upd V 12 (.int .u64 (d : Nat)))) W' from fun W' he => hK _ _ ⟨upd V 12 (.int .u64 (d : Nat)), rfl, HV.up 12 _ (fun x hx => Option.some.inj hx), LgW.ext s0 he⟩)
    have HU := Lib.hid (show (upd V 12 (.int .u64 (d : Nat))) 11 = .int .i64 (d : Nat) from e11)
    clear hK hC hW hL HV s0
    rw [HFR.out]
    rw [e11]
    clear e11
    go_wp2_with fail
    show K _ _
    have := H.out _ (Ext.refl _)
    rw [HFR.out] at this
    obtain u11 := HU.out
    rw [u11] at this
    exact this
  · rintro L A W K hL hC hW ⟨V, rfl, HV, s0⟩ hK
    have e12 : V 12 = .int .u64 (d : Nat) := HV 12 _ rfl (hW 12 rfl)
    have hB := s0
    have H := Lib.hid (show ∀ W', Ext W W' → K (fr (upd V 13 (wv d))) W' from fun W' he => hK _ _ ⟨upd V 13 (wv d), rfl, HV.up 13 _ (fun x hx => Option.some.inj hx), LgW.ext s0 he⟩)
    have HU := Lib.hid (show (upd V 13 (wv d)) 12 = .int .u64 (d : Nat) from e12)
    clear hK hC hW hL HV s0
    rw [HFR.out]
    rw [e12]
    clear e12
    go_wp2_with fail
    refine (HOF.out _).mono ?_
    rintro e wx ⟨rfl, _, he⟩
    have := H.out _ he
    clear H
    go_wp2_with fail
    show K _ _
    rw [HFR.out] at this
    obtain u12 := HU.out
    rw [u12] at this
    exact this
  · rintro L A W K hL hC hW ⟨V, rfl, HV, s0⟩ hK
    have e0 : V 0 = wv hd := HV 0 _ rfl (hW 0 rfl)
    have e13 : V 13 = wv d := HV 13 _ rfl (hW 13 rfl)
    have hB := s0
    have H := Lib.hid (show ∀ W', Ext W W' → K (fr (upd V 14 (.bool qb))) W' from fun W' he => hK _ _ ⟨upd V 14 (.bool qb), rfl, HV.up 14 _ (fun x hx => Option.some.inj hx), LgW.ext s0 he⟩)
    have HU := Lib.hid (show (upd V 14 (.bool qb)) 0 = wv hd ∧ (upd V 14 (.bool qb)) 13 = wv d from ⟨e0, e13⟩)
    clear hK hC hW hL HV s0
    rw [HFR.out]
    rw [e0, e13]
    clear e0 e13
    clear hB
    refine wpList_neq_word rfl (.tmp 11) (.tmp 24) rfl hd d HHD.out HDM.out rfl rfl ?_
    rw [HQ.out]
    show K _ _
    have := H.out _ (Ext.refl _)
    rw [HFR.out] at this
    obtain ⟨u0, u13⟩ := HU.out
    rw [u0, u13] at this
    exact this
  · rintro L A W hL ⟨V, rfl, HV, s0⟩
    have e0 : V 0 = wv hd := HV 0 _ rfl (hL 0 (by simp))
    have e1 : V 1 = .pointer (some ⟨g, 0, none⟩) := HV 1 _ rfl (hL 1 (by simp))
    have e2 : V 2 = .pointer (some ⟨g, 0, none⟩) := HV 2 _ rfl (hL 2 (by simp))
    have e3 : V 3 = .pointer (some ⟨g, 1, none⟩) := HV 3 _ rfl (hL 3 (by simp))
    have e4 : V 4 = .int .i64 (all : Nat) := HV 4 _ rfl (hL 4 (by simp))
    have e5 : V 5 = .pointer (some ⟨g, 0, none⟩) := HV 5 _ rfl (hL 5 (by simp))
    have e6 : V 6 = .pointer (some ⟨g, 0, none⟩) := HV 6 _ rfl (hL 6 (by simp))
    have e7 : V 7 = .pointer (some ⟨g, 0, none⟩) := HV 7 _ rfl (hL 7 (by simp))
    have e8 : V 8 = .pointer (some ⟨g, 0, none⟩) := HV 8 _ rfl (hL 8 (by simp))
    have e9 : V 9 = .slice A0 n c := HV 9 _ rfl (hL 9 (by simp))
    have e10 : V 10 = .int .i64 (n : Nat) := HV 10 _ rfl (hL 10 (by simp))
    have e11 : V 11 = .int .i64 (d : Nat) := HV 11 _ rfl (hL 11 (by simp))
    have e12 : V 12 = .int .u64 (d : Nat) := HV 12 _ rfl (hL 12 (by simp))
    have e13 : V 13 = wv d := HV 13 _ rfl (hL 13 (by simp))
    have e14 : V 14 = .bool qb := HV 14 _ rfl (hL 14 (by simp))
    have hA := s0
    rw [HFR.out]
    rw [e0, e1, e2, e3, e4, e5, e6, e7, e8, e9, e10, e11, e12, e13, e14]
    clear hL HV HFR e0 e1 e2 e3 e4 e5 e6 e7 e8 e9 e10 e11 e12 e13 e14 s0
    have HL1 := Lib.hid hA
    clear hA HL0 hw1 hdb hdb2 HOF HDM
    cases qb with
    | true =>
      have HNO := Lib.hid (HN.out fun h => by
        have h1 := HQ.out
        rw [HD.out] at h
        rw [h.1] at h1
        simp at h1)
      go_wp2_with ((with_reducible refine wpList_store_part ?_ ?_ (.tmp 4) (.tmp 26) ?_ (w.heap.size + 1) pz (false, 0, []) (.slice none 0 0) ?_ ?_ ?_ ?_ ?_ ?_); (exact rfl); (exact rfl); (exact rfl); (exact rfl); (exact rfl); (exact rfl); (exact HL1.out.2.1); (exact rfl); intro wz kz gz; have KZ := Lib.hid kz; have HEZ := Lib.hid (HL1.out.2.2.2.1.grown gz (by have := HL1.out.2.2.2.1.size; have := hg0; omega)); clear kz gz)
      exact bodyPost_ret (results_part_tmp Try.results110 _ _ (w.heap.size + 1) _ _ rfl KZ.out) rfl (RetLg.no HNO.out rfl HEZ.out)
    | false =>
      obtain rfl := HLN.out
      have HQ2 := Lib.hid (show hd = d by have := HQ.out; simpa using this)
      have hlt1 : g < W.heap.size := Cs.lt HL1.out.2.2.1
      by_cases h32 : 32 ≤ left.length
      · have HXB := Lib.hid (HX.out h32)
        go_wp2_with fail
        refine (nextWord_yes w0 g 109 _ A0 c left W HL1.out.2.2.1 rfl HB.out HL1.out.2.2.2.1 hg0 h32).mono ?_
        rintro e w2 ⟨rfl, hc2, _, hg2⟩
        have hv2 : behV A0 left.length c 32 = .slice (if c = 32 then A0 else A0.map (·.add 32)) (left.drop 32).length (c - 32) := by simp [behV]
        have hb2 := HB.out.drop 32 h32
        have hle2 : (left.drop 32).length = left.length - 32 := by simp
        rw [← hle2] at hb2
        simp only [List.setIfInBounds_toArray, List.set_cons_zero, hv2] at hc2
        clear hv2
        generalize (if c = 32 then A0 else A0.map (·.add 32)) = A2 at *
        have HL2 := Lib.hid (HL1.out.moved hg2 hc2 hg0 hlt)
        have HB2 := Lib.hid hb2
        have hc32 : (left.drop 32).length ≤ c - 32 := by omega
        clear hc2 hb2 hg2 HL1 HX
        obtain ⟨x, hx⟩ : ∃ x, beN (left.take 32) = x := ⟨_, rfl⟩
        obtain ⟨l2, hl2⟩ : ∃ l2, left.drop 32 = l2 := ⟨_, rfl⟩
        rw [hx] at HXB HN HY
        rw [hl2] at HL2 HB2 HN HY hc32 hle2
        rw [hx]
        clear hx hl2
        obtain ⟨c2, hc2⟩ : ∃ c2, c - 32 = c2 := ⟨_, rfl⟩
        rw [hc2] at HL2 HB2 hc32
        have hc2m : c2 ≤ 9223372036854775807 := by omega
        clear hc2 HB
        have HZ := Lib.hid (show Cs (w2.alloc (.cells (wc 0) 46)) w2.heap.size 46 (wc 0) from Cs.new _ _ _ _ rfl)
        unfold wc lv lb at HZ
        go_wp2_with (first
          | ((with_reducible refine wpList_store_word ?_ ?_ 46 (.tmp 6) (.tmp 32) ?_ winfo w2.heap.size (wc 0) x ?_ ?_ ?_ ?_ ?_); (exact rfl); (exact rfl); (exact rfl); (exact rfl); (exact rfl); (exact Cs.new _ _ _ _ rfl); (exact rfl); intro w3 k3 g3; have K3 := Lib.hid k3; have HL3 := Lib.hid ((HL2.out.ext ((Ext.refl _).alloc _)).ext' g3 HL2.out.2.2.2.2.2 (Nat.ne_of_lt (Cs.lt HL2.out.2.2.1)) HL2.out.2.2.2.1.size); clear k3 g3)
          | ((with_reducible refine wpList_load_word ?_ 46 44 (.tmp 6) ?_ Try.underlying46 winfo w2.heap.size x ?_ ?_ ?_); (exact rfl); (exact rfl); (exact rfl); (exact K3.out)))
        refine (small_any x _ HXB.out).mono ?_
        rintro e w4 ⟨rfl, he4⟩
        have HL4 := Lib.hid (HL3.out.ext he4)
        clear he4 K3 HL2 HL3 HZ
        by_cases h200 : x ≤ 200
        · obtain ⟨hs1, hs2⟩ := small_yes x h200
          rw [hs1, hs2]
          clear hs1 hs2
          have hd1 : decide ((200 : Int) < (x : Int)) = false := decide_eq_false (by omega)
          have hd2 : decide (200 < x) = false := decide_eq_false (by omega)
          have hxb : (x : Int) ≤ 200 := by omega
          have HFB := Lib.hid (fun W => filled_any x W (by omega))
          have HFLB := Lib.hid (show x ≤ flN x ∧ flN x ≤ 224 by unfold flN; omega)
          generalize hfl : flN x = fl at *
          clear hfl
          by_cases hf : fl ≤ l2.length
          · go_upto_region 7 with (fail)
            have HS3 := Lib.hid (show behV A2 l2.length c2 fl = .slice (if c2 = fl then A2 else A2.map (·.add fl)) (l2.drop fl).length (c2 - fl) by simp [behV])
            have HB3 := Lib.hid (show Bs w0 (.slice (if c2 = fl then A2 else A2.map (·.add fl)) (l2.drop fl).length (c2 - fl)) (l2.drop fl) by
              have := HB2.out.drop fl hf
              rwa [show (l2.drop fl).length = l2.length - fl by simp])
            generalize (if c2 = fl then A2 else A2.map (·.add fl)) = A3 at *
            obtain ⟨sl3, hs3⟩ : ∃ s, behV A2 l2.length c2 fl = s := ⟨_, rfl⟩
            rw [hs3] at HS3
            have HHN := Lib.hid (fun W h1 h2 => next_yes' g A2 l2.length c2 fl sl3 W h1 h2 hf hc32 (by unfold maxLen; omega) hs3)
            clear hs3
            refine wp_named fun a0 ha0 => ?_
            obtain ⟨fr, hfr⟩ : ∃ fr : (Nat → Value) → Act, ∀ V, fr V = ((((((((((((a0.put (some 51) (V 0)).put (some 52) (V 1)).put (some 53) (V 2)).put (some 54) (V 3)).put (some 55) (V 4)).put (some 56) (V 5)).put (some 57) (V 6)).put (some 50) (V 7)).put (some 58) (V 8)).put (some 59) (V 9)).put (some 10) (V 10)).put (some 7) (V 11)) := ⟨fun V => ((((((((((((a0.put (some 51) (V 0)).put (some 52) (V 1)).put (some 53) (V 2)).put (some 54) (V 3)).put (some 55) (V 4)).put (some 56) (V 5)).put (some 57) (V 6)).put (some 50) (V 7)).put (some 58) (V 8)).put (some 59) (V 9)).put (some 10) (V 10)).put (some 7) (V 11)), fun _ => rfl⟩
            rw [ha0] at hfr
            simp only [Act.put, List.setIfInBounds_toArray, List.set_cons_zero, List.set_cons_succ] at hfr
            have HFR := Lib.hid hfr
            clear hfr
            refine wp_region_inv (by kernel_rfl) (by kernel_rfl) (fun L A W => ∃ V : Nat → Value, A = fr V ∧ Vals (fun j => ([some (.pointer (some ⟨g, 0, none⟩)), some (.pointer (some ⟨g, 0, none⟩)), some (.pointer (some ⟨g, 0, none⟩)), some (.int .u64 (x : Nat)), some (.int .i64 (x : Nat)), some (.int .i64 (fl : Nat)), some (.tuple #[.slice A2 fl c2, .bool true]), some (.tuple #[.slice A2 fl c2, .bool true]), some (.slice A2 fl c2), some (.bool true), some (.slice A2 fl c2), some (.bool true)] : List (Option Value)).getD j none) L V ∧ (L 6 = false → LgW w0 w g (.slice A2 l2.length c2) all hd W) ∧ (L 6 = true → LgW w0 w g sl3 all hd W)) ?_ ⟨?_, ?_, ?_, ?_, ?_, ?_, ?_, ?_, ?_, ?_, ?_, ?_, trivial⟩ ?_
            · refine ⟨fun j => a0.tmps.getD (([51, 52, 53, 54, 55, 56, 57, 50, 58, 59, 10, 7] : List Nat).getD j 0) undef, ?_, Vals.no _ _ _ (far_none _ _ rfl), fun _ => HL4.out.ext (Ext.refl _).drew, fun h0 => absurd h0 (by decide)⟩
              rw [HFR.out, ha0]
              rfl
            all_goals clear ha0
            · rintro L A W K hL hC hW ⟨V, rfl, HV, s0, s1⟩ hK
              have H := Lib.hid (show ∀ W', Ext W W' → K (fr (upd V 0 (.pointer (some ⟨g, 0, none⟩)))) W' from fun W' he => hK _ _ ⟨upd V 0 (.pointer (some ⟨g, 0, none⟩)), rfl, HV.up 0 _ (fun x hx => Option.some.inj hx), fun h0 => LgW.ext (s0 (by unfold More at h0; rwa [if_neg (by decide)] at h0)) he, fun h0 => LgW.ext (s1 (more_ne h0 rfl)) he⟩)
              clear hK hC hW hL HV s0 s1
              rw [HFR.out]
              go_wp2_with fail
              show K _ _
              have := H.out _ (Ext.refl _)
              rw [HFR.out] at this
              exact this
            · rintro L A W K hL hC hW ⟨V, rfl, HV, s0, s1⟩ hK
              have e0 : V 0 = .pointer (some ⟨g, 0, none⟩) := HV 0 _ rfl (hW 0 rfl)
              have H := Lib.hid (show ∀ W', Ext W W' → K (fr (upd V 1 (.pointer (some ⟨g, 0, none⟩)))) W' from fun W' he => hK _ _ ⟨upd V 1 (.pointer (some ⟨g, 0, none⟩)), rfl, HV.up 1 _ (fun x hx => Option.some.inj hx), fun h0 => LgW.ext (s0 (by unfold More at h0; rwa [if_neg (by decide)] at h0)) he, fun h0 => LgW.ext (s1 (more_ne h0 rfl)) he⟩)
              have HU := Lib.hid (show (upd V 1 (.pointer (some ⟨g, 0, none⟩))) 0 = .pointer (some ⟨g, 0, none⟩) from e0)
              clear hK hC hW hL HV s0 s1
              rw [HFR.out]
              rw [e0]
              clear e0
              go_wp2_with fail
              show K _ _
              have := H.out _ (Ext.refl _)
              rw [HFR.out] at this
              obtain u0 := HU.out
              rw [u0] at this
              exact this
            · rintro L A W K hL hC hW ⟨V, rfl, HV, s0, s1⟩ hK
              have e1 : V 1 = .pointer (some ⟨g, 0, none⟩) := HV 1 _ rfl (hW 1 rfl)
              have H := Lib.hid (show ∀ W', Ext W W' → K (fr (upd V 2 (.pointer (some ⟨g, 0, none⟩)))) W' from fun W' he => hK _ _ ⟨upd V 2 (.pointer (some ⟨g, 0, none⟩)), rfl, HV.up 2 _ (fun x hx => Option.some.inj hx), fun h0 => LgW.ext (s0 (by unfold More at h0; rwa [if_neg (by decide)] at h0)) he, fun h0 => LgW.ext (s1 (more_ne h0 rfl)) he⟩)
              have HU := Lib.hid (show (upd V 2 (.pointer (some ⟨g, 0, none⟩))) 1 = .pointer (some ⟨g, 0, none⟩) from e1)
              clear hK hC hW hL HV s0 s1
              rw [HFR.out]
              rw [e1]
              clear e1
              go_wp2_with fail
              show K _ _
              have := H.out _ (Ext.refl _)
              rw [HFR.out] at this
              obtain u1 := HU.out
              rw [u1] at this
              exact this
            · rintro L A W K hL hC hW ⟨V, rfl, HV, s0, s1⟩ hK
              have H := Lib.hid (show ∀ W', Ext W W' → K (fr (upd V 3 (.int .u64 (x : Nat)))) W' from fun W' he => hK _ _ ⟨upd V 3 (.int .u64 (x : Nat)), rfl, HV.up 3 _ (fun x hx => Option.some.inj hx), fun h0 => LgW.ext (s0 (by unfold More at h0; rwa [if_neg (by decide)] at h0)) he, fun h0 => LgW.ext (s1 (more_ne h0 rfl)) he⟩)
              clear hK hC hW hL HV s0 s1
              rw [HFR.out]
              go_wp2_with fail
              show K _ _
              have := H.out _ (Ext.refl _)
              rw [HFR.out] at this
              exact this
            · rintro L A W K hL hC hW ⟨V, rfl, HV, s0, s1⟩ hK
              have e3 : V 3 = .int .u64 (x : Nat) := HV 3 _ rfl (hW 3 rfl)
              have hB := s0 (hC.no (hC.no hL 5 _ rfl rfl) 6 _ rfl rfl)
              have H := Lib.hid (show ∀ W', Ext W W' → K (fr (upd V 4 (.int .i64 (x : Nat)))) W' from fun W' he => hK _ _ ⟨upd V 4 (.int .i64 (x : Nat)), rfl, HV.up 4 _ (fun x hx => Option.some.inj hx), fun h0 => LgW.ext (s0 (by unfold More at h0; rwa [if_neg (by decide)] at h0)) he, fun h0 => LgW.ext (s1 (more_ne h0 rfl)) he⟩)
              have HU := Lib.hid (show (upd V 4 (.int .i64 (x : Nat))) 3 = .int .u64 (x : Nat) from e3)
              clear hK hC hW hL HV s0 s1
              rw [HFR.out]
              rw [e3]
              clear e3
              clear hB
              go_wp2_with fail
              show K _ _
              have := H.out _ (Ext.refl _)
              rw [HFR.out] at this
              obtain u3 := HU.out
              rw [u3] at this
              exact this
            · rintro L A W K hL hC hW ⟨V, rfl, HV, s0, s1⟩ hK
              have e4 : V 4 = .int .i64 (x : Nat) := HV 4 _ rfl (hW 4 rfl)
              have hB := s0 (hC.no hL 6 _ rfl rfl)
              have H := Lib.hid (show ∀ W', Ext W W' → K (fr (upd V 5 (.int .i64 (fl : Nat)))) W' from fun W' he => hK _ _ ⟨upd V 5 (.int .i64 (fl : Nat)), rfl, HV.up 5 _ (fun x hx => Option.some.inj hx), fun h0 => LgW.ext (s0 (by unfold More at h0; rwa [if_neg (by decide)] at h0)) he, fun h0 => LgW.ext (s1 (more_ne h0 rfl)) he⟩)
              have HU := Lib.hid (show (upd V 5 (.int .i64 (fl : Nat))) 4 = .int .i64 (x : Nat) from e4)
              clear hK hC hW hL HV s0 s1
              rw [HFR.out]
              rw [e4]
              clear e4
              go_wp2_with fail
              refine (HFB.out _).mono ?_
              rintro e wx ⟨rfl, rfl⟩
              have := H.out _ (Ext.refl _)
              clear H
              go_wp2_with fail
              show K _ _
              rw [HFR.out] at this
              obtain u4 := HU.out
              rw [u4] at this
              exact this
            · rintro L A W K hL hC hW ⟨V, rfl, HV, s0, s1⟩ hK
              have e2 : V 2 = .pointer (some ⟨g, 0, none⟩) := HV 2 _ rfl (hW 2 rfl)
              have e5 : V 5 = .int .i64 (fl : Nat) := HV 5 _ rfl (hW 5 rfl)
              have hB := s0 hL
              have H := Lib.hid (show ∀ W', (LgW w0 w g sl3 all hd W') → K (fr (upd V 6 (.tuple #[.slice A2 fl c2, .bool true]))) W' from fun W' hA => hK _ _ ⟨upd V 6 (.tuple #[.slice A2 fl c2, .bool true]), rfl, HV.up 6 _ (fun x hx => Option.some.inj hx), fun h0 => absurd h0 (by unfold More; rw [if_pos rfl]; simp), fun h0 => hA⟩)
              have HU := Lib.hid (show (upd V 6 (.tuple #[.slice A2 fl c2, .bool true])) 2 = .pointer (some ⟨g, 0, none⟩) ∧ (upd V 6 (.tuple #[.slice A2 fl c2, .bool true])) 5 = .int .i64 (fl : Nat) from ⟨e2, e5⟩)
              clear hK hC hW hL HV s0 s1
              rw [HFR.out]
              rw [e2, e5]
              clear e2 e5
              have HB := Lib.hid hB
              clear hB
              go_wp2_with fail
              refine (HHN.out _ (Cs.cell HB.out.2.2.1 0 _ rfl) (Cs.frozen HB.out.2.2.1 0)).mono ?_
              rintro e wx ⟨rfl, rfl⟩
              have HA := Lib.hid (HB.out.moved (grown_set W g 0 sl3) (by simpa using Cs.set HB.out.2.2.1 0 sl3) hg0 hlt)
              go_wp2_with fail
              show K _ _
              have := H.out _ HA.out
              rw [HFR.out] at this
              obtain ⟨u2, u5⟩ := HU.out
              rw [u2, u5] at this
              exact this
            · rintro L A W K hL hC hW ⟨V, rfl, HV, s0, s1⟩ hK
              have e6 : V 6 = .tuple #[.slice A2 fl c2, .bool true] := HV 6 _ rfl (hW 6 rfl)
              have H := Lib.hid (show ∀ W', Ext W W' → K (fr (upd V 7 (.tuple #[.slice A2 fl c2, .bool true]))) W' from fun W' he => hK _ _ ⟨upd V 7 (.tuple #[.slice A2 fl c2, .bool true]), rfl, HV.up 7 _ (fun x hx => Option.some.inj hx), fun h0 => LgW.ext (s0 (by unfold More at h0; rwa [if_neg (by decide)] at h0)) he, fun h0 => LgW.ext (s1 (more_ne h0 rfl)) he⟩)
              have HU := Lib.hid (show (upd V 7 (.tuple #[.slice A2 fl c2, .bool true])) 6 = .tuple #[.slice A2 fl c2, .bool true] from e6)
              clear hK hC hW hL HV s0 s1
              rw [HFR.out]
              rw [e6]
              clear e6
              go_wp2_with fail
              show K _ _
              have := H.out _ (Ext.refl _)
              rw [HFR.out] at this
              obtain u6 := HU.out
              rw [u6] at this
              exact this
            · rintro L A W K hL hC hW ⟨V, rfl, HV, s0, s1⟩ hK
              have e7 : V 7 = .tuple #[.slice A2 fl c2, .bool true] := HV 7 _ rfl (hW 7 rfl)
              have H := Lib.hid (show ∀ W', Ext W W' → K (fr (upd V 8 (.slice A2 fl c2))) W' from fun W' he => hK _ _ ⟨upd V 8 (.slice A2 fl c2), rfl, HV.up 8 _ (fun x hx => Option.some.inj hx), fun h0 => LgW.ext (s0 (by unfold More at h0; rwa [if_neg (by decide)] at h0)) he, fun h0 => LgW.ext (s1 (more_ne h0 rfl)) he⟩)
              have HU := Lib.hid (show (upd V 8 (.slice A2 fl c2)) 7 = .tuple #[.slice A2 fl c2, .bool true] from e7)
              clear hK hC hW hL HV s0 s1
              rw [HFR.out]
              rw [e7]
              clear e7
              go_wp2_with fail
              show K _ _
              have := H.out _ (Ext.refl _)
              rw [HFR.out] at this
              obtain u7 := HU.out
              rw [u7] at this
              exact this
            · rintro L A W K hL hC hW ⟨V, rfl, HV, s0, s1⟩ hK
              have e7 : V 7 = .tuple #[.slice A2 fl c2, .bool true] := HV 7 _ rfl (hW 7 rfl)
              have H := Lib.hid (show ∀ W', Ext W W' → K (fr (upd V 9 (.bool true))) W' from fun W' he => hK _ _ ⟨upd V 9 (.bool true), rfl, HV.up 9 _ (fun x hx => Option.some.inj hx), fun h0 => LgW.ext (s0 (by unfold More at h0; rwa [if_neg (by decide)] at h0)) he, fun h0 => LgW.ext (s1 (more_ne h0 rfl)) he⟩)
              have HU := Lib.hid (show (upd V 9 (.bool true)) 7 = .tuple #[.slice A2 fl c2, .bool true] from e7)
              clear hK hC hW hL HV s0 s1
              rw [HFR.out]
              rw [e7]
              clear e7
              go_wp2_with fail
              show K _ _
              have := H.out _ (Ext.refl _)
              rw [HFR.out] at this
              obtain u7 := HU.out
              rw [u7] at this
              exact this
            · rintro L A W K hL hC hW ⟨V, rfl, HV, s0, s1⟩ hK
              have e8 : V 8 = .slice A2 fl c2 := HV 8 _ rfl (hW 8 rfl)
              have H := Lib.hid (show ∀ W', Ext W W' → K (fr (upd V 10 (.slice A2 fl c2))) W' from fun W' he => hK _ _ ⟨upd V 10 (.slice A2 fl c2), rfl, HV.up 10 _ (fun x hx => Option.some.inj hx), fun h0 => LgW.ext (s0 (by unfold More at h0; rwa [if_neg (by decide)] at h0)) he, fun h0 => LgW.ext (s1 (more_ne h0 rfl)) he⟩)
              have HU := Lib.hid (show (upd V 10 (.slice A2 fl c2)) 8 = .slice A2 fl c2 from e8)
              clear hK hC hW hL HV s0 s1
              rw [HFR.out]
              rw [e8]
              clear e8
              go_wp2_with fail
              show K _ _
              have := H.out _ (Ext.refl _)
              rw [HFR.out] at this
              obtain u8 := HU.out
              rw [u8] at this
              exact this
            · rintro L A W K hL hC hW ⟨V, rfl, HV, s0, s1⟩ hK
              have e9 : V 9 = .bool true := HV 9 _ rfl (hW 9 rfl)
              have H := Lib.hid (show ∀ W', Ext W W' → K (fr (upd V 11 (.bool true))) W' from fun W' he => hK _ _ ⟨upd V 11 (.bool true), rfl, HV.up 11 _ (fun x hx => Option.some.inj hx), fun h0 => LgW.ext (s0 (by unfold More at h0; rwa [if_neg (by decide)] at h0)) he, fun h0 => LgW.ext (s1 (more_ne h0 rfl)) he⟩)
              have HU := Lib.hid (show (upd V 11 (.bool true)) 9 = .bool true from e9)
              clear hK hC hW hL HV s0 s1
              rw [HFR.out]
              rw [e9]
              clear e9
              go_wp2_with fail
              show K _ _
              have := H.out _ (Ext.refl _)
              rw [HFR.out] at this
              obtain u9 := HU.out
              rw [u9] at this
              exact this
            · rintro L A W hL ⟨V, rfl, HV, s0, s1⟩
              have e0 : V 0 = .pointer (some ⟨g, 0, none⟩) := HV 0 _ rfl (hL 0 (by simp))
              have e1 : V 1 = .pointer (some ⟨g, 0, none⟩) := HV 1 _ rfl (hL 1 (by simp))
              have e2 : V 2 = .pointer (some ⟨g, 0, none⟩) := HV 2 _ rfl (hL 2 (by simp))
              have e3 : V 3 = .int .u64 (x : Nat) := HV 3 _ rfl (hL 3 (by simp))
              have e4 : V 4 = .int .i64 (x : Nat) := HV 4 _ rfl (hL 4 (by simp))
              have e5 : V 5 = .int .i64 (fl : Nat) := HV 5 _ rfl (hL 5 (by simp))
              have e6 : V 6 = .tuple #[.slice A2 fl c2, .bool true] := HV 6 _ rfl (hL 6 (by simp))
              have e7 : V 7 = .tuple #[.slice A2 fl c2, .bool true] := HV 7 _ rfl (hL 7 (by simp))
              have e8 : V 8 = .slice A2 fl c2 := HV 8 _ rfl (hL 8 (by simp))
              have e9 : V 9 = .bool true := HV 9 _ rfl (hL 9 (by simp))
              have e10 : V 10 = .slice A2 fl c2 := HV 10 _ rfl (hL 10 (by simp))
              have e11 : V 11 = .bool true := HV 11 _ rfl (hL 11 (by simp))
              have hA := s1 (hL 6 (by simp))
              rw [HFR.out]
              rw [e0, e1, e2, e3, e4, e5, e6, e7, e8, e9, e10, e11]
              clear hL HV HFR e0 e1 e2 e3 e4 e5 e6 e7 e8 e9 e10 e11 s0 s1
              have HL7 := Lib.hid hA
              clear hA HL4 HFB HHN
              have HBS := Lib.hid (HB2.out.sliced x fl HFLB.out.1 hf)
              obtain ⟨A4, h4⟩ := sliced_is A2 x fl c2 1
              rw [h4] at HBS
              have H4 := Lib.hid h4
              clear h4
              have hxf : x ≤ fl := HFLB.out.1
              go_wp2_with ((with_reducible refine wpList_slice_from ?_ 28 5 (.tmp 63) (.tmp 64) ?_ Try.underlying28 u8size A2 fl c2 x .u64 ?_ ?_ hxf ?_); (exact rfl); (exact rfl); (exact rfl); (exact rfl); rw [H4.out])
              refine (blank_any _ _ _ (HBS.out.ext HL7.out.2.2.2.1)).mono ?_
              rintro e w8 ⟨rfl, rfl⟩
              clear HBS H4
              by_cases hbk : blkB ((l2.take fl).drop x) = true
              · have HYES := Lib.hid (HY.out ⟨by rw [HD.out, HQ2.out], h32, h200, hf, hbk⟩)
                rw [hbk]
                clear hbk
                have HB4 := Lib.hid (HB2.out.take x (by omega))
                have hxc : (x : Int) ≤ (c2 : Int) := by omega
                have hflc : (fl : Int) ≤ (c2 : Int) := by omega
                go_wp2_with fail
                refine (packBytes_any _ (l2.take x) _ (HB4.out.ext HL7.out.2.2.2.1) (by rw [List.length_take]; omega)).mono ?_
                rintro e w9 ⟨u, rfl, ho, he9⟩
                have HL9 := Lib.hid (HL7.out.ext he9)
                have hz7 := HL7.out.2.2.2.2.2
                have HO := Lib.hid ho
                have HNE := Lib.hid (show u.ownBlock ≠ some (w.heap.size + 1) from fun e => by have := (ho.lt _ e).1; omega)
                obtain ⟨_, _, e9, _, _, _⟩ := ho.bs
                have hu1 : u.oneCell' = true := by rw [e9]; rfl
                have HU1 := Lib.hid hu1
                have hbase : w.heap.size ≤ W.heap.size := by omega
                clear ho he9 HL7 e9 hu1
                generalize hp : ptc (true, 0, l2.take x) u = p at *
                have HP := Lib.hid hp
                clear hp
                go_wp2_with ((with_reducible refine wpList_store_part ?_ ?_ (.tmp 4) (.tmp 73) ?_ (w.heap.size + 1) pz (true, 0, l2.take x) u ?_ ?_ ?_ ?_ ?_ ?_); (exact rfl); (exact rfl); (exact rfl); (exact HU1.out); (exact rfl); (rw [HP.out]; exact rfl); (exact HL9.out.2.1); (exact rfl); intro wz kz gz; have KZ := Lib.hid kz; have HGZ := Lib.hid gz; clear kz gz)
                have hw9 := HL9.out.2.2.2.2.1.size
                refine bodyPost_ret (results_part_tmp Try.results110 _ _ (w.heap.size + 1) _ _ rfl KZ.out) rfl (RetLg.yes HYES.out ⟨u, A3, c2 - fl, rfl, ?_, ?_, HB3.out, HL9.out.2.2.2.1.grown HGZ.out (by omega), grown_past HL9.out.2.2.2.2.1 HGZ.out (by omega)⟩)
                · exact Own.mono (World.ownsRow.kept HO.out HGZ.out (.inr HNE.out)) hbase
                · rw [← HS3.out]
                  exact Cs.kept HL9.out.2.2.1 HGZ.out (some_ne (by omega))
              · have HNO := Lib.hid (HN.out fun h => hbk h.2.2.2.2)
                have hbf : blkB ((l2.take fl).drop x) = false := by simpa using hbk
                rw [hbf]
                clear hbf hbk
                go_wp2_with ((with_reducible refine wpList_store_part ?_ ?_ (.tmp 4) (.tmp 69) ?_ (w.heap.size + 1) pz (false, 0, []) (.slice none 0 0) ?_ ?_ ?_ ?_ ?_ ?_); (exact rfl); (exact rfl); (exact rfl); (exact rfl); (exact rfl); (exact rfl); (exact HL7.out.2.1); (exact rfl); intro wz kz gz; have KZ := Lib.hid kz; have HEZ := Lib.hid (HL7.out.2.2.2.1.grown gz (by have := HL7.out.2.2.2.1.size; have := hg0; omega)); clear kz gz)
                exact bodyPost_ret (results_part_tmp Try.results110 _ _ (w.heap.size + 1) _ _ rfl KZ.out) rfl (RetLg.no HNO.out rfl HEZ.out)
          · have HNO := Lib.hid (HN.out fun h => hf h.2.2.2.1)
            have HHN := Lib.hid (fun W h1 => next_no g A2 l2.length c2 fl W h1 (by omega) (by have := HFLB.out.2; omega))
            go_upto_region 7 with (fail)
            refine wp_named fun a0 ha0 => ?_
            obtain ⟨fr, hfr⟩ : ∃ fr : (Nat → Value) → Act, ∀ V, fr V = ((((((((((((a0.put (some 51) (V 0)).put (some 52) (V 1)).put (some 53) (V 2)).put (some 54) (V 3)).put (some 55) (V 4)).put (some 56) (V 5)).put (some 57) (V 6)).put (some 50) (V 7)).put (some 58) (V 8)).put (some 59) (V 9)).put (some 10) (V 10)).put (some 7) (V 11)) := ⟨fun V => ((((((((((((a0.put (some 51) (V 0)).put (some 52) (V 1)).put (some 53) (V 2)).put (some 54) (V 3)).put (some 55) (V 4)).put (some 56) (V 5)).put (some 57) (V 6)).put (some 50) (V 7)).put (some 58) (V 8)).put (some 59) (V 9)).put (some 10) (V 10)).put (some 7) (V 11)), fun _ => rfl⟩
            rw [ha0] at hfr
            simp only [Act.put, List.setIfInBounds_toArray, List.set_cons_zero, List.set_cons_succ] at hfr
            have HFR := Lib.hid hfr
            clear hfr
            refine wp_region_inv (by kernel_rfl) (by kernel_rfl) (fun L A W => ∃ V : Nat → Value, A = fr V ∧ Vals (fun j => ([some (.pointer (some ⟨g, 0, none⟩)), some (.pointer (some ⟨g, 0, none⟩)), some (.pointer (some ⟨g, 0, none⟩)), some (.int .u64 (x : Nat)), some (.int .i64 (x : Nat)), some (.int .i64 (fl : Nat)), some (.tuple #[.slice none 0 0, .bool false]), some (.tuple #[.slice none 0 0, .bool false]), some (.slice none 0 0), some (.bool false), some (.slice none 0 0), some (.bool false)] : List (Option Value)).getD j none) L V ∧ (LgW w0 w g (.slice A2 l2.length c2) all hd W)) ?_ ⟨?_, ?_, ?_, ?_, ?_, ?_, ?_, ?_, ?_, ?_, ?_, ?_, trivial⟩ ?_
            · refine ⟨fun j => a0.tmps.getD (([51, 52, 53, 54, 55, 56, 57, 50, 58, 59, 10, 7] : List Nat).getD j 0) undef, ?_, Vals.no _ _ _ (far_none _ _ rfl), HL4.out.ext (Ext.refl _).drew⟩
              rw [HFR.out, ha0]
              rfl
            all_goals clear ha0
            · rintro L A W K hL hC hW ⟨V, rfl, HV, s0⟩ hK
              have H := Lib.hid (show ∀ W', Ext W W' → K (fr (upd V 0 (.pointer (some ⟨g, 0, none⟩)))) W' from fun W' he => hK _ _ ⟨upd V 0 (.pointer (some ⟨g, 0, none⟩)), rfl, HV.up 0 _ (fun x hx => Option.some.inj hx), LgW.ext s0 he⟩)
              clear hK hC hW hL HV s0
              rw [HFR.out]
              go_wp2_with fail
              show K _ _
              have := H.out _ (Ext.refl _)
              rw [HFR.out] at this
              exact this
            · rintro L A W K hL hC hW ⟨V, rfl, HV, s0⟩ hK
              have e0 : V 0 = .pointer (some ⟨g, 0, none⟩) := HV 0 _ rfl (hW 0 rfl)
              have H := Lib.hid (show ∀ W', Ext W W' → K (fr (upd V 1 (.pointer (some ⟨g, 0, none⟩)))) W' from fun W' he => hK _ _ ⟨upd V 1 (.pointer (some ⟨g, 0, none⟩)), rfl, HV.up 1 _ (fun x hx => Option.some.inj hx), LgW.ext s0 he⟩)
              have HU := Lib.hid (show (upd V 1 (.pointer (some ⟨g, 0, none⟩))) 0 = .pointer (some ⟨g, 0, none⟩) from e0)
              clear hK hC hW hL HV s0
              rw [HFR.out]
              rw [e0]
              clear e0
              go_wp2_with fail
              show K _ _
              have := H.out _ (Ext.refl _)
              rw [HFR.out] at this
              obtain u0 := HU.out
              rw [u0] at this
              exact this
            · rintro L A W K hL hC hW ⟨V, rfl, HV, s0⟩ hK
              have e1 : V 1 = .pointer (some ⟨g, 0, none⟩) := HV 1 _ rfl (hW 1 rfl)
              have H := Lib.hid (show ∀ W', Ext W W' → K (fr (upd V 2 (.pointer (some ⟨g, 0, none⟩)))) W' from fun W' he => hK _ _ ⟨upd V 2 (.pointer (some ⟨g, 0, none⟩)), rfl, HV.up 2 _ (fun x hx => Option.some.inj hx), LgW.ext s0 he⟩)
              have HU := Lib.hid (show (upd V 2 (.pointer (some ⟨g, 0, none⟩))) 1 = .pointer (some ⟨g, 0, none⟩) from e1)
              clear hK hC hW hL HV s0
              rw [HFR.out]
              rw [e1]
              clear e1
              go_wp2_with fail
              show K _ _
              have := H.out _ (Ext.refl _)
              rw [HFR.out] at this
              obtain u1 := HU.out
              rw [u1] at this
              exact this
            · rintro L A W K hL hC hW ⟨V, rfl, HV, s0⟩ hK
              have H := Lib.hid (show ∀ W', Ext W W' → K (fr (upd V 3 (.int .u64 (x : Nat)))) W' from fun W' he => hK _ _ ⟨upd V 3 (.int .u64 (x : Nat)), rfl, HV.up 3 _ (fun x hx => Option.some.inj hx), LgW.ext s0 he⟩)
              clear hK hC hW hL HV s0
              rw [HFR.out]
              go_wp2_with fail
              show K _ _
              have := H.out _ (Ext.refl _)
              rw [HFR.out] at this
              exact this
            · rintro L A W K hL hC hW ⟨V, rfl, HV, s0⟩ hK
              have e3 : V 3 = .int .u64 (x : Nat) := HV 3 _ rfl (hW 3 rfl)
              have hB := s0
              have H := Lib.hid (show ∀ W', Ext W W' → K (fr (upd V 4 (.int .i64 (x : Nat)))) W' from fun W' he => hK _ _ ⟨upd V 4 (.int .i64 (x : Nat)), rfl, HV.up 4 _ (fun x hx => Option.some.inj hx), LgW.ext s0 he⟩)
              have HU := Lib.hid (show (upd V 4 (.int .i64 (x : Nat))) 3 = .int .u64 (x : Nat) from e3)
              clear hK hC hW hL HV s0
              rw [HFR.out]
              rw [e3]
              clear e3
              clear hB
              go_wp2_with fail
              show K _ _
              have := H.out _ (Ext.refl _)
              rw [HFR.out] at this
              obtain u3 := HU.out
              rw [u3] at this
              exact this
            · rintro L A W K hL hC hW ⟨V, rfl, HV, s0⟩ hK
              have e4 : V 4 = .int .i64 (x : Nat) := HV 4 _ rfl (hW 4 rfl)
              have hB := s0
              have H := Lib.hid (show ∀ W', Ext W W' → K (fr (upd V 5 (.int .i64 (fl : Nat)))) W' from fun W' he => hK _ _ ⟨upd V 5 (.int .i64 (fl : Nat)), rfl, HV.up 5 _ (fun x hx => Option.some.inj hx), LgW.ext s0 he⟩)
              have HU := Lib.hid (show (upd V 5 (.int .i64 (fl : Nat))) 4 = .int .i64 (x : Nat) from e4)
              clear hK hC hW hL HV s0
              rw [HFR.out]
              rw [e4]
              clear e4
              go_wp2_with fail
              refine (HFB.out _).mono ?_
              rintro e wx ⟨rfl, rfl⟩
              have := H.out _ (Ext.refl _)
              clear H
              go_wp2_with fail
              show K _ _
              rw [HFR.out] at this
              obtain u4 := HU.out
              rw [u4] at this
              exact this
            · rintro L A W K hL hC hW ⟨V, rfl, HV, s0⟩ hK
              have e2 : V 2 = .pointer (some ⟨g, 0, none⟩) := HV 2 _ rfl (hW 2 rfl)
              have e5 : V 5 = .int .i64 (fl : Nat) := HV 5 _ rfl (hW 5 rfl)
              have hB := s0
              have H := Lib.hid (show ∀ W', Ext W W' → K (fr (upd V 6 (.tuple #[.slice none 0 0, .bool false]))) W' from fun W' he => hK _ _ ⟨upd V 6 (.tuple #[.slice none 0 0, .bool false]), rfl, HV.up 6 _ (fun x hx => Option.some.inj hx), LgW.ext s0 he⟩)
              have HU := Lib.hid (show (upd V 6 (.tuple #[.slice none 0 0, .bool false])) 2 = .pointer (some ⟨g, 0, none⟩) ∧ (upd V 6 (.tuple #[.slice none 0 0, .bool false])) 5 = .int .i64 (fl : Nat) from ⟨e2, e5⟩)
              clear hK hC hW hL HV s0
              rw [HFR.out]
              rw [e2, e5]
              clear e2 e5
              have HB := Lib.hid hB
              clear hB
              go_wp2_with fail
              refine (HHN.out _ (Cs.cell HB.out.2.2.1 0 _ rfl)).mono ?_
              rintro e wx ⟨rfl, rfl⟩
              have := H.out _ (Ext.refl _)
              clear H
              go_wp2_with fail
              show K _ _
              rw [HFR.out] at this
              obtain ⟨u2, u5⟩ := HU.out
              rw [u2, u5] at this
              exact this
            · rintro L A W K hL hC hW ⟨V, rfl, HV, s0⟩ hK
              have e6 : V 6 = .tuple #[.slice none 0 0, .bool false] := HV 6 _ rfl (hW 6 rfl)
              have H := Lib.hid (show ∀ W', Ext W W' → K (fr (upd V 7 (.tuple #[.slice none 0 0, .bool false]))) W' from fun W' he => hK _ _ ⟨upd V 7 (.tuple #[.slice none 0 0, .bool false]), rfl, HV.up 7 _ (fun x hx => Option.some.inj hx), LgW.ext s0 he⟩)
              have HU := Lib.hid (show (upd V 7 (.tuple #[.slice none 0 0, .bool false])) 6 = .tuple #[.slice none 0 0, .bool false] from e6)
              clear hK hC hW hL HV s0
              rw [HFR.out]
              rw [e6]
              clear e6
              go_wp2_with fail
              show K _ _
              have := H.out _ (Ext.refl _)
              rw [HFR.out] at this
              obtain u6 := HU.out
              rw [u6] at this
              exact this
            · rintro L A W K hL hC hW ⟨V, rfl, HV, s0⟩ hK
              have e7 : V 7 = .tuple #[.slice none 0 0, .bool false] := HV 7 _ rfl (hW 7 rfl)
              have H := Lib.hid (show ∀ W', Ext W W' → K (fr (upd V 8 (.slice none 0 0))) W' from fun W' he => hK _ _ ⟨upd V 8 (.slice none 0 0), rfl, HV.up 8 _ (fun x hx => Option.some.inj hx), LgW.ext s0 he⟩)
              have HU := Lib.hid (show (upd V 8 (.slice none 0 0)) 7 = .tuple #[.slice none 0 0, .bool false] from e7)
              clear hK hC hW hL HV s0
              rw [HFR.out]
              rw [e7]
              clear e7
              go_wp2_with fail
              show K _ _
              have := H.out _ (Ext.refl _)
              rw [HFR.out] at this
              obtain u7 := HU.out
              rw [u7] at this
              exact this
            · rintro L A W K hL hC hW ⟨V, rfl, HV, s0⟩ hK
              have e7 : V 7 = .tuple #[.slice none 0 0, .bool false] := HV 7 _ rfl (hW 7 rfl)
              have H := Lib.hid (show ∀ W', Ext W W' → K (fr (upd V 9 (.bool false))) W' from fun W' he => hK _ _ ⟨upd V 9 (.bool false), rfl, HV.up 9 _ (fun x hx => Option.some.inj hx), LgW.ext s0 he⟩)
              have HU := Lib.hid (show (upd V 9 (.bool false)) 7 = .tuple #[.slice none 0 0, .bool false] from e7)
              clear hK hC hW hL HV s0
              rw [HFR.out]
              rw [e7]
              clear e7
              go_wp2_with fail
              show K _ _
              have := H.out _ (Ext.refl _)
              rw [HFR.out] at this
              obtain u7 := HU.out
              rw [u7] at this
              exact this
            · rintro L A W K hL hC hW ⟨V, rfl, HV, s0⟩ hK
              have e8 : V 8 = .slice none 0 0 := HV 8 _ rfl (hW 8 rfl)
              have H := Lib.hid (show ∀ W', Ext W W' → K (fr (upd V 10 (.slice none 0 0))) W' from fun W' he => hK _ _ ⟨upd V 10 (.slice none 0 0), rfl, HV.up 10 _ (fun x hx => Option.some.inj hx), LgW.ext s0 he⟩)
              have HU := Lib.hid (show (upd V 10 (.slice none 0 0)) 8 = .slice none 0 0 from e8)
              clear hK hC hW hL HV s0
              rw [HFR.out]
              rw [e8]
              clear e8
              go_wp2_with fail
              show K _ _
              have := H.out _ (Ext.refl _)
              rw [HFR.out] at this
              obtain u8 := HU.out
              rw [u8] at this
              exact this
            · rintro L A W K hL hC hW ⟨V, rfl, HV, s0⟩ hK
              have e9 : V 9 = .bool false := HV 9 _ rfl (hW 9 rfl)
              have H := Lib.hid (show ∀ W', Ext W W' → K (fr (upd V 11 (.bool false))) W' from fun W' he => hK _ _ ⟨upd V 11 (.bool false), rfl, HV.up 11 _ (fun x hx => Option.some.inj hx), LgW.ext s0 he⟩)
              have HU := Lib.hid (show (upd V 11 (.bool false)) 9 = .bool false from e9)
              clear hK hC hW hL HV s0
              rw [HFR.out]
              rw [e9]
              clear e9
              go_wp2_with fail
              show K _ _
              have := H.out _ (Ext.refl _)
              rw [HFR.out] at this
              obtain u9 := HU.out
              rw [u9] at this
              exact this
            · rintro L A W hL ⟨V, rfl, HV, s0⟩
              have e0 : V 0 = .pointer (some ⟨g, 0, none⟩) := HV 0 _ rfl (hL 0 (by simp))
              have e1 : V 1 = .pointer (some ⟨g, 0, none⟩) := HV 1 _ rfl (hL 1 (by simp))
              have e2 : V 2 = .pointer (some ⟨g, 0, none⟩) := HV 2 _ rfl (hL 2 (by simp))
              have e3 : V 3 = .int .u64 (x : Nat) := HV 3 _ rfl (hL 3 (by simp))
              have e4 : V 4 = .int .i64 (x : Nat) := HV 4 _ rfl (hL 4 (by simp))
              have e5 : V 5 = .int .i64 (fl : Nat) := HV 5 _ rfl (hL 5 (by simp))
              have e6 : V 6 = .tuple #[.slice none 0 0, .bool false] := HV 6 _ rfl (hL 6 (by simp))
              have e7 : V 7 = .tuple #[.slice none 0 0, .bool false] := HV 7 _ rfl (hL 7 (by simp))
              have e8 : V 8 = .slice none 0 0 := HV 8 _ rfl (hL 8 (by simp))
              have e9 : V 9 = .bool false := HV 9 _ rfl (hL 9 (by simp))
              have e10 : V 10 = .slice none 0 0 := HV 10 _ rfl (hL 10 (by simp))
              have e11 : V 11 = .bool false := HV 11 _ rfl (hL 11 (by simp))
              have hA := s0
              rw [HFR.out]
              rw [e0, e1, e2, e3, e4, e5, e6, e7, e8, e9, e10, e11]
              clear hL HV HFR e0 e1 e2 e3 e4 e5 e6 e7 e8 e9 e10 e11 s0
              have HL7 := Lib.hid hA
              clear hA HL4 HFB HHN
              go_wp2_with ((with_reducible refine wpList_store_part ?_ ?_ (.tmp 4) (.tmp 69) ?_ (w.heap.size + 1) pz (false, 0, []) (.slice none 0 0) ?_ ?_ ?_ ?_ ?_ ?_); (exact rfl); (exact rfl); (exact rfl); (exact rfl); (exact rfl); (exact rfl); (exact HL7.out.2.1); (exact rfl); intro wz kz gz; have KZ := Lib.hid kz; have HEZ := Lib.hid (HL7.out.2.2.2.1.grown gz (by have := HL7.out.2.2.2.1.size; have := hg0; omega)); clear kz gz)
              exact bodyPost_ret (results_part_tmp Try.results110 _ _ (w.heap.size + 1) _ _ rfl KZ.out) rfl (RetLg.no HNO.out rfl HEZ.out)
        · have HNO := Lib.hid (HN.out fun h => h200 h.2.2.1)
          rcases small_big x h200 with hs | ⟨hs1, hs2, hs3, hs4⟩
          · rw [hs]
            go_wp2_with ((with_reducible refine wpList_store_part ?_ ?_ (.tmp 4) (.tmp 49) ?_ (w.heap.size + 1) pz (false, 0, []) (.slice none 0 0) ?_ ?_ ?_ ?_ ?_ ?_); (exact rfl); (exact rfl); (exact rfl); (exact rfl); (exact rfl); (exact rfl); (exact HL4.out.2.1); (exact rfl); intro wz kz gz; have KZ := Lib.hid kz; have HEZ := Lib.hid (HL4.out.2.2.2.1.grown gz (by have := HL4.out.2.2.2.1.size; have := hg0; omega)); clear kz gz)
            exact bodyPost_ret (results_part_tmp Try.results110 _ _ (w.heap.size + 1) _ _ rfl KZ.out) rfl (RetLg.no HNO.out rfl HEZ.out)
          · rw [hs1, hs2]
            have hd1 : decide ((200 : Int) < (x : Int)) = true := decide_eq_true (by omega)
            have hd2 : decide (200 < x) = true := decide_eq_true (by omega)
            go_wp2_with ((with_reducible refine wpList_store_part ?_ ?_ (.tmp 4) (.tmp 49) ?_ (w.heap.size + 1) pz (false, 0, []) (.slice none 0 0) ?_ ?_ ?_ ?_ ?_ ?_); (exact rfl); (exact rfl); (exact rfl); (exact rfl); (exact rfl); (exact rfl); (exact HL4.out.2.1); (exact rfl); intro wz kz gz; have KZ := Lib.hid kz; have HEZ := Lib.hid (HL4.out.2.2.2.1.grown gz (by have := HL4.out.2.2.2.1.size; have := hg0; omega)); clear kz gz)
            exact bodyPost_ret (results_part_tmp Try.results110 _ _ (w.heap.size + 1) _ _ rfl KZ.out) rfl (RetLg.no HNO.out rfl HEZ.out)
      · have HNO := Lib.hid (HN.out fun h => h32 h.2.1)
        go_wp2_with fail
        refine (nextWord_no g A0 left.length c W (Cs.cell HL1.out.2.2.1 0 _ rfl) (Cs.lt HL1.out.2.2.1) (by omega)).mono ?_
        rintro e w2 ⟨rfl, he2⟩
        have HL2 := Lib.hid (HL1.out.ext he2)
        clear he2 HL1
        go_wp2_with (first
          | ((with_reducible refine wpList_store_word ?_ ?_ 46 (.tmp 6) (.tmp 32) ?_ winfo w2.heap.size (wc 0) 0 ?_ ?_ ?_ ?_ ?_); (exact rfl); (exact rfl); (exact rfl); (exact rfl); (exact rfl); (exact Cs.new _ _ _ _ rfl); (exact rfl); intro w3 k3 g3; have K3 := Lib.hid k3; have HL3 := Lib.hid ((HL2.out.ext ((Ext.refl _).alloc _)).ext' g3 HL2.out.2.2.2.2.2 (Nat.ne_of_lt (Cs.lt HL2.out.2.2.1)) HL2.out.2.2.2.1.size); clear k3 g3)
          | ((with_reducible refine wpList_load_word ?_ 46 44 (.tmp 6) ?_ Try.underlying46 winfo w2.heap.size 0 ?_ ?_ ?_); (exact rfl); (exact rfl); (exact rfl); (exact K3.out)))
        refine (small_any 0 _ (by decide)).mono ?_
        rintro e w4 ⟨rfl, he4⟩
        have HL4 := Lib.hid (HL3.out.ext he4)
        clear he4 K3 HL2 HL3
        go_wp2_with ((with_reducible refine wpList_store_part ?_ ?_ (.tmp 4) (.tmp 49) ?_ (w.heap.size + 1) pz (false, 0, []) (.slice none 0 0) ?_ ?_ ?_ ?_ ?_ ?_); (exact rfl); (exact rfl); (exact rfl); (exact rfl); (exact rfl); (exact rfl); (exact HL4.out.2.1); (exact rfl); intro wz kz gz; have KZ := Lib.hid kz; have HEZ := Lib.hid (HL4.out.2.2.2.1.grown gz (by have := HL4.out.2.2.2.1.size; have := hg0; omega)); clear kz gz)
        exact bodyPost_ret (results_part_tmp Try.results110 _ _ (w.heap.size + 1) _ _ rfl KZ.out) rfl (RetLg.no HNO.out rfl HEZ.out)
end Go.Proofs.Ytdlllihfibjabaa
