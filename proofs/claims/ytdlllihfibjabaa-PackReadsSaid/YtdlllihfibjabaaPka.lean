/- Package pack: parts in memory; mayBe, Check, filled, number. -/
import Derived.Test.YtdlllihfibjabaaSlc
import Derived.Test.YtdlllihfibjabaaWrl
import Derived.Test.YtdlllihfibjabaaWri
import Derived.Deep.MidRow
import Derived.Deep.Cut
namespace Go.Proofs.Ytdlllihfibjabaa
open Go.RowKit Go.Shelf

/-! ### Parts -/
/-- A part: is it Long, its word, its bytes. -/
abbrev Pt := Bool × Nat × List UInt8
/-- Its cells; u is where its bytes are. -/
def ptc (p : Pt) (u : Value) : Array Value := #[.bool p.1, lv (lb p.2.1 0), lv (lb p.2.1 1), lv (lb p.2.1 2), lv (lb p.2.1 3), u]
/-- The cells cs read as the part p. -/
def PtR (W : World) (cs : List Value) (p : Pt) : Prop := p.2.1 < M256 ∧ ∃ u, cs = (ptc p u).toList ∧ Bs W u p.2.2
/-- A value that is a part. -/
def PtV (W : World) (v : Value) (p : Pt) : Prop := p.2.1 < M256 ∧ ∃ u, v = .agg (ptc p u) ∧ Bs W u p.2.2
/-- The slice v reads as the parts l. -/
def Pts (W : World) (v : Value) (l : List Pt) : Prop := Sl W 6 (PtR W) v l
set_option maxRecDepth 100000 in
theorem PtR.ext {W W' : World} {cs : List Value} {p : Pt} (h : PtR W cs p) (he : Ext W W') : PtR W' cs p := by
  obtain ⟨h0, u, e, hb⟩ := h
  exact ⟨h0, u, e, hb.ext he⟩
set_option maxRecDepth 100000 in
theorem Pts.ext {W W' : World} {v : Value} {l : List Pt} (h : Pts W v l) (he : Ext W W') : Pts W' v l :=
  Sl.mono h (fun _ _ hc => he.cell hc) fun _ _ h => h.ext he
set_option maxRecDepth 100000 in
theorem PtV.ext {W W' : World} {v : Value} {p : Pt} (h : PtV W v p) (he : Ext W W') : PtV W' v p := by
  obtain ⟨h0, u, e, hb⟩ := h
  exact ⟨h0, u, e, hb.ext he⟩
set_option maxRecDepth 100000 in
theorem Pts.len {W : World} {v : Value} {l : List Pt} (h : Pts W v l) : ∃ A c, v = .slice A l.length c ∧ l.length ≤ c ∧ c ≤ maxLen := by
  obtain ⟨A, c, e, h1, h2, _⟩ := h
  exact ⟨A, c, e, h1, h2⟩
set_option maxRecDepth 100000 in
theorem Pts.at {W : World} {A : Option Addr} {n c : Nat} {l : List Pt} (h : Pts W (.slice A n c) l) (i : Nat) (hi : i < l.length) : ∃ b o u, A = some ⟨b, o, none⟩ ∧ W.rangeAt b (o + i * 6) (ptc (l.getD i (false, 0, [])) u).toList ∧ Bs W u (l.getD i (false, 0, [])).2.2 ∧ (l.getD i (false, 0, [])).2.1 < M256 := by
  obtain ⟨A', c', e, _, _, h3⟩ := h
  injection e with e1 e2 e3
  subst e1
  obtain ⟨b, o, rfl, hc⟩ := h3 (by omega)
  obtain ⟨cs, _, ⟨k0, u, rfl, k2⟩, k3⟩ := hc i _ (List.getElem?_eq_getElem hi)
  have e : l.getD i (false, 0, []) = l[i] := by simp [List.getD, List.getElem?_eq_getElem hi]
  rw [e]
  exact ⟨b, o, u, rfl, k3, k2, k0⟩
set_option maxRecDepth 100000 in
theorem ptinfo : (Try.prog.info? 48).map (·.size) = some 6 := by kernel_rfl
set_option maxRecDepth 100000 in
theorem ptc_one (p : Pt) (u : Value) (hu : u.oneCell' = true) : (ptc p u).all (·.oneCell') = true := by simpa [ptc, lv, Value.oneCell'] using hu
set_option maxRecDepth 100000 in
theorem bs_one {W : World} {u : Value} {l : List UInt8} (h : Bs W u l) : u.oneCell' = true := by
  obtain ⟨A, c, rfl, _⟩ := h
  rfl
set_option maxRecDepth 100000 in
/-- A part in the midst of a row is loaded. -/
theorem wpList_load_part {ops : Array Oper} {rest : List Oper} {o : Oper} {a : Act} {w : World} {Q : Exit → Act → World → Prop} (hgd : Region.wanted o (yielded ops a.tmps) = true) (x : Operand) (ho : o.op = .load 48 x)
    (g k : Nat) (p : Pt) (u : Value) (hx : a.eval x = .pointer (some ⟨g, k, none⟩)) (hg : w.rangeAt g k (ptc p u).toList) (h : wpList Try.prog ops Q rest (a.put o.dst (.agg (ptc p u))) w) : wpList Try.prog ops Q (o :: rest) a w := by
  refine wpList_step fun K hK => ?_
  rw [if_pos hgd]
  refine wp_load_mid 48 x ho g k hx (ptc p u).toList _ hg Try.underlying48 rfl ptinfo ?_
  exact hK _ _ h
/-- A block that holds a part. -/
def Pb (W : World) (g : Nat) (p : Pt) (u : Value) : Prop := Cs W g 48 (ptc p u)
set_option maxRecDepth 100000 in
theorem Pb.range {W : World} {g : Nat} {p : Pt} {u : Value} (h : Pb W g p u) : W.rangeAt g 0 (ptc p u).toList := fun j v hv => by
  rw [Nat.zero_add]
  exact Cs.cell h j v (by rwa [Array.getElem?_toList] at hv)
set_option maxRecDepth 100000 in
theorem Pb.word {W : World} {g : Nat} {p : Pt} {u : Value} (h : Pb W g p u) : W.rangeAt g 1 (wc p.2.1).toList := fun j v hv => by
  refine Cs.cell h (1 + j) v ?_
  have hj : j < 4 := by have := (List.getElem?_eq_some_iff.1 hv).1; simpa [wc] using this
  match j, hj with
  | 0, _ => exact hv
  | 1, _ => exact hv
  | 2, _ => exact hv
  | 3, _ => exact hv
set_option maxRecDepth 100000 in
theorem Pb.long {W : World} {g : Nat} {p : Pt} {u : Value} (h : Pb W g p u) : W.cell? ⟨g, 0, none⟩ = some (.bool p.1) := Cs.cell h 0 _ rfl
set_option maxRecDepth 100000 in
theorem Pb.data {W : World} {g : Nat} {p : Pt} {u : Value} (h : Pb W g p u) : W.cell? ⟨g, 5, none⟩ = some u := Cs.cell h 5 _ rfl
set_option maxRecDepth 100000 in
theorem Pb.ext {W W' : World} {g : Nat} {p : Pt} {u : Value} (h : Pb W g p u) (he : Ext W W') : Pb W' g p u := Cs.ext h he
set_option maxRecDepth 100000 in
theorem wpList_load_wordIn {ops : Array Oper} {rest : List Oper} {o : Oper} {a : Act} {w : World} {Q : Exit → Act → World → Prop} (hgd : Region.wanted o (yielded ops a.tmps) = true) (x : Operand) (ho : o.op = .load 46 x)
    (g k n : Nat) (hx : a.eval x = .pointer (some ⟨g, k, none⟩)) (hg : w.rangeAt g k (wc n).toList) (h : wpList Try.prog ops Q rest (a.put o.dst (wv n)) w) : wpList Try.prog ops Q (o :: rest) a w := by
  refine wpList_step fun K hK => ?_
  rw [if_pos hgd]
  refine wp_load_mid 46 x ho g k hx (wc n).toList _ hg Try.underlying46 rfl winfo ?_
  exact hK _ _ h
set_option maxRecDepth 100000 in
/-- A part is stored. -/
theorem wpList_store_part {ops : Array Oper} {rest : List Oper} {o : Oper} {a : Act} {w : World} {Q : Exit → Act → World → Prop} (hgd : o.guard = none) (hd : o.dst = none) (x y : Operand) (ho : o.op = .store 48 x y)
    (g : Nat) (old : Array Value) (p : Pt) (u : Value) (hu : u.oneCell' = true) (hx : a.eval x = .pointer (some ⟨g, 0, none⟩)) (hy : a.eval y = .agg (ptc p u)) (hg : Cs w g 48 old) (hold : old.size = 6)
    (h : ∀ w', Pb w' g p u → w.grownBy w' (some g) → wpList Try.prog ops Q rest a w') : wpList Try.prog ops Q (o :: rest) a w := by
  have h' : ∀ w', Pb w' g p u → w.grownBy w' (some g) → wpList Try.prog ops Q rest (a.put o.dst undef) w' := by rw [hd]; exact h
  refine wpList_store_row hgd 48 x y ho g (ptc p u) hx hy 48 old hg ptinfo hold (ptc_one p u hu) (h' _ ?_ ?_)
  · exact setRow_heap w g _ _ 48 (0, 0) hg
  · exact ⟨rfl, rfl, rfl, by simp [World.setRow], fun k _ hk => setRow_other w g k _ (fun e => hk (by simp [e]))⟩
/-- A block of a part that is nothing yet. -/
def pz : Array Value := #[.bool false, .int .u64 0, .int .u64 0, .int .u64 0, .int .u64 0, .slice none 0 0]

/-! ### filled, number -/
/-- With the noughts behind them. -/
def flN (n : Nat) : Nat := (n + 31) / 32 * 32
set_option maxRecDepth 100000 in
theorem filled_any (n : Nat) (w : World) (hn : n ≤ 1000000000000) : Calls Try.prog 60 #[.int .i64 (n : Int)] w fun e w' => e = .returned (.int .i64 (flN n : Nat)) ∧ w = w' := by
  have b1 : (0 : Int) ≤ (n : Int) := by omega
  have b2 : (n : Int) ≤ 1000000000000 := by omega
  have HV := Lib.hid (show ((n : Int) + 32 - 1) / 32 * 32 = ((flN n : Nat) : Int) by unfold flN; omega)
  go_enter Try.func60, Try.ntmps60
  go_wp2_with fail
  go_ret
  exact ⟨by rw [← HV.out]; rfl, rfl⟩
/-- The bytes of a number's word. -/
def nbL (n : Nat) : List UInt8 := bytL n (List.range 32)
set_option maxRecDepth 100000 in
theorem nbL_len (n : Nat) : (nbL n).length = 32 := by simp [nbL, bytL_len]
set_option maxRecDepth 100000 in
theorem packNumber_any (n : Nat) (w : World) (hn : n ≤ 1000000000000) : Calls Try.prog 59 #[.int .i64 (n : Int)] w (RetB w (nbL n)) := by
  have b1 : (0 : Int) ≤ (n : Int) := by omega
  have b2 : (n : Int) ≤ 1000000000000 := by omega
  have HN := Lib.hid (show n < 18446744073709551616 by omega)
  go_enter Try.func59, Try.ntmps59
  go_wp2_with fail
  refine (of_any n _ rfl _ HN.out).mono ?_
  rintro e w1 ⟨rfl, he1⟩
  have HE := Lib.hid he1
  clear he1
  go_wp2_with fail
  refine (bytes_any n _).mono ?_
  rintro e w2 ⟨v, rfl, ho, he⟩
  have HO := Lib.hid (ho.mono HE.out.size)
  have HE2 := Lib.hid (HE.out.trans he)
  clear ho he
  go_wp2_with fail
  go_ret
  exact ⟨v, rfl, HO.out, HE2.out⟩

/-! ### mayBe, Check -/
def mayB (p : Pt) : Bool := if p.1 then decide (p.2.1 = 0) && decide (p.2.2.length ≤ 200) else decide (p.2.2.length = 0)
set_option maxRecDepth 100000 in
set_option maxHeartbeats 1000000 in
theorem mayBe_any (p : Pt) (u : Value) (w : World) (hw : p.2.1 < M256) (hu : Bs w u p.2.2) : Calls Try.prog 61 #[.agg (ptc p u)] w fun e w' => e = .returned (.bool (mayB p)) ∧ Ext w w' := by
  have HK : Hid (Pb (w.alloc (.cells (ptc p u) 48)) w.heap.size p u) := Lib.hid (Cs.new _ _ _ _ rfl)
  have HE := Lib.hid ((Ext.refl w).alloc (.cells (ptc p u) 48))
  have hc0 := HK.out.long
  have hc5 := HK.out.data
  have HM := Lib.hid (show mayB p = if p.1 then decide (p.2.1 = 0) && decide (p.2.2.length ≤ 200) else decide (p.2.2.length = 0) from rfl)
  obtain ⟨A, c, rfl, h1, h2, _⟩ := hu
  unfold maxLen at h2
  have HW := Lib.hid hw
  obtain ⟨lg, n, d⟩ := p
  dsimp only at *
  clear hw
  have b1 : (0 : Int) ≤ (d.length : Int) := by omega
  cases lg with
  | true =>
    simp only [if_true] at HM
    by_cases h0 : n = 0
    · subst h0
      by_cases h200 : d.length ≤ 200
      · have hd : decide ((d.length : Int) ≤ 200) = true := decide_eq_true (by omega)
        have HV := Lib.hid (show mayB (true, 0, d) = true by rw [HM.out, decide_eq_true h200]; rfl)
        clear h200 HM
        go_enter Try.func61, Try.ntmps61
        go_wp2_with (first
          | ((with_reducible refine wpList_load_wordIn ?_ (.tmp 5) ?_ w.heap.size 1 0 ?_ ?_ ?_); (exact rfl); (exact rfl); (exact rfl); (exact HK.out.word))
          | ((with_reducible refine wpList_eql_word ?_ (.tmp 6) (.tmp 7) ?_ 0 0 ?_ ?_ ?_ ?_ ?_); (exact rfl); (exact rfl); (exact HW.out); (exact HW.out); (exact rfl); (exact rfl); rw [show ((0 : Nat) == 0) = true from rfl]))
        go_ret
        exact ⟨by rw [HV.out]; rfl, HE.out⟩
      · have hd : decide ((d.length : Int) ≤ 200) = false := decide_eq_false (by omega)
        have HV := Lib.hid (show mayB (true, 0, d) = false by rw [HM.out, decide_eq_false h200]; rfl)
        clear h200 HM
        go_enter Try.func61, Try.ntmps61
        go_wp2_with (first
          | ((with_reducible refine wpList_load_wordIn ?_ (.tmp 5) ?_ w.heap.size 1 0 ?_ ?_ ?_); (exact rfl); (exact rfl); (exact rfl); (exact HK.out.word))
          | ((with_reducible refine wpList_eql_word ?_ (.tmp 6) (.tmp 7) ?_ 0 0 ?_ ?_ ?_ ?_ ?_); (exact rfl); (exact rfl); (exact HW.out); (exact HW.out); (exact rfl); (exact rfl); rw [show ((0 : Nat) == 0) = true from rfl]))
        go_ret
        exact ⟨by rw [HV.out]; rfl, HE.out⟩
    · have HV := Lib.hid (show mayB (true, n, d) = false by rw [HM.out, decide_eq_false h0]; rfl)
      have HN0 := Lib.hid (show (n == 0) = false by simp [h0])
      clear h0 HM
      go_enter Try.func61, Try.ntmps61
      go_wp2_with (first
        | ((with_reducible refine wpList_load_wordIn ?_ (.tmp 5) ?_ w.heap.size 1 n ?_ ?_ ?_); (exact rfl); (exact rfl); (exact rfl); (exact HK.out.word))
        | ((with_reducible refine wpList_eql_word ?_ (.tmp 6) (.tmp 7) ?_ n 0 ?_ ?_ ?_ ?_ ?_); (exact rfl); (exact rfl); (exact HW.out); (exact (by decide)); (exact rfl); (exact rfl); rw [HN0.out]))
      go_ret
      exact ⟨by rw [HV.out]; rfl, HE.out⟩
  | false =>
    simp only [Bool.false_eq_true, if_false] at HM
    by_cases h0 : d.length = 0
    · have hq : ((d.length : Int) == 0) = true := by simp only [beq_iff_eq]; omega
      have HV := Lib.hid (show mayB (false, n, d) = true by rw [HM.out, decide_eq_true h0])
      clear h0 HM
      go_enter Try.func61, Try.ntmps61
      go_wp2_with fail
      go_ret
      exact ⟨by rw [HV.out]; rfl, HE.out⟩
    · have hq : ((d.length : Int) == 0) = false := by simp only [beq_eq_false_iff_ne, ne_eq]; omega
      have HV := Lib.hid (show mayB (false, n, d) = false by rw [HM.out, decide_eq_false h0])
      clear h0 HM
      go_enter Try.func61, Try.ntmps61
      go_wp2_with fail
      go_ret
      exact ⟨by rw [HV.out]; rfl, HE.out⟩

/-- What Check answers. -/
def errP (l : List Pt) : Int := if 16 < l.length then 3 else if l.all mayB then 0 else 140
set_option maxRecDepth 100000 in
theorem errP_stop (l : List Pt) (k : Nat) (hl : ¬ 16 < l.length) (hk : k < l.length) (h : mayB (l.getD k (false, 0, [])) = false) : errP l = 140 := by
  unfold errP
  rw [if_neg hl, if_neg]
  intro e
  have h2 := List.all_eq_true.1 e (l.getD k (false, 0, [])) (by simp [List.getD, hk])
  rw [h] at h2
  cases h2
set_option maxRecDepth 100000 in
theorem errP_done (l : List Pt) (hl : ¬ 16 < l.length) (h : ∀ k, k < l.length → mayB (l.getD k (false, 0, [])) = true) : errP l = 0 := by
  unfold errP
  rw [if_neg hl, if_pos]
  rw [List.all_eq_true]
  intro p hp
  obtain ⟨i, hi, rfl⟩ := List.getElem_of_mem hp
  have := h i hi
  simpa [List.getD, hi] using this
set_option maxRecDepth 100000 in
set_option maxHeartbeats 1000000 in
theorem check_any (v : Value) (l : List Pt) (w : World) (hv : Pts w v l) : Calls Try.prog 19 #[v] w fun e w' => e = .returned (.int .i64 (errP l)) ∧ Ext w w' := by
  have HV := Lib.hid hv
  obtain ⟨A, c, rfl, h1, h2⟩ := hv.len
  unfold maxLen at h2
  clear hv
  by_cases h16 : 16 < l.length
  · have hd : decide ((16 : Int) < (l.length : Int)) = true := decide_eq_true (by omega)
    have HR := Lib.hid (show errP l = 3 by unfold errP; rw [if_pos h16])
    go_enter Try.func19, Try.ntmps19
    go_wp2_with fail
    go_ret
    exact ⟨by rw [HR.out]; rfl, Ext.refl _⟩
  · have hd : decide ((16 : Int) < (l.length : Int)) = false := decide_eq_false (by omega)
    have HST := Lib.hid (fun k (hk : k < l.length) (h : mayB (l.getD k (false, 0, [])) = false) => errP_stop l k h16 hk h)
    have HDN := Lib.hid (fun (h : ∀ k, k < l.length → mayB (l.getD k (false, 0, [])) = true) => errP_done l h16 h)
    go_enter Try.func19, Try.ntmps19
    go_wp2_with fail
    go_loopw [4, 10, 11, 12, 13, 14, 15, 16, 17] (fun _ u _ _ _ _ _ _ _ wr => ∃ k : Nat, k ≤ l.length ∧ u = .int .i64 k ∧ Hid (∀ j, j < k → mayB (l.getD j (false, 0, [])) = true) ∧ Hid (Ext w wr)) (fun _ u _ _ _ _ _ _ _ _ => l.length - (intOf u).toNat)
    case atStart => exact ⟨0, by omega, rfl, Lib.hid (fun j hj => absurd hj (by omega)), Lib.hid (Ext.refl w)⟩
    case round =>
      obtain ⟨k, hk, rfl, HP, HE⟩ := hrel
      by_cases hlt : k < l.length
      · have hdk : decide (k < l.length) = true := decide_eq_true hlt
        obtain ⟨b, o, u, rfl, hr, hu, hw⟩ := (HV.out.ext HE.out).at k hlt
        have HSK := Lib.hid (HST.out k hlt)
        have HNX := Lib.hid (fun (h : mayB (l.getD k (false, 0, [])) = true) j (hj : j < k + 1) => (show mayB (l.getD j (false, 0, [])) = true from by
          by_cases e : j = k
          · rw [e]; exact h
          · exact HP.out j (by omega)))
        have HR := Lib.hid hr
        have HU := Lib.hid hu
        have HW := Lib.hid hw
        clear hr hu hw
        generalize l.getD k (false, 0, []) = p at *
        go_wp2_with (first
          | ((with_reducible refine wpList_load_part ?_ (.tmp 12) ?_ b (o + k * 6) p u ?_ ?_ ?_); (exact rfl); (exact rfl); (exact rfl); (exact HR.out))
          | ((with_reducible refine wpList_store_part ?_ ?_ (.tmp 4) (.tmp 13) ?_ wr.heap.size pz p u ?_ ?_ ?_ ?_ ?_ ?_); (exact rfl); (exact rfl); (exact rfl); (exact bs_one HU.out); (exact rfl); (exact rfl); (exact Cs.new _ _ _ _ rfl); (exact rfl); intro w4 k4 g4; have K4 := Lib.hid k4; have HR4 := Lib.hid (((Ext.refl wr).alloc _).grown g4 (Nat.le_refl _)); clear k4 g4)
          | ((with_reducible refine wpList_load_part ?_ (.tmp 4) ?_ wr.heap.size 0 p u ?_ ?_ ?_); (exact rfl); (exact rfl); (exact rfl); (exact K4.out.range)))
        refine (mayBe_any p u _ HW.out (HU.out.ext HR4.out)).mono ?_
        rintro e w5 ⟨rfl, he⟩
        have HE5 := Lib.hid ((HE.out.trans HR4.out).trans he)
        clear he
        cases hm : mayB p with
        | true =>
          have HM := Lib.hid (HNX.out hm)
          clear hm
          go_wp2_with fail
          exact ⟨⟨k + 1, by omega, by go_num, HM, HE5⟩, by simp [intOf]; omega⟩
        | false =>
          have HM := Lib.hid (HSK.out hm)
          clear hm
          go_wp2_with fail
          go_ret
          exact ⟨by rw [HM.out]; rfl, HE5.out⟩
      · have HM := Lib.hid (HDN.out fun j hj => HP.out j (by omega))
        obtain rfl : k = l.length := by omega
        go_wp2_with fail
        go_ret
        exact ⟨by rw [HM.out]; rfl, HE.out⟩
end Go.Proofs.Ytdlllihfibjabaa
