/- Package pack: Same. -/
import Derived.Test.YtdlllihfibjabaaPks
import Derived.Test.YtdlllihfibjabaaLbe
namespace Go.Proofs.Ytdlllihfibjabaa
open Go.RowKit Go.Shelf

/-- Are two parts the same? -/
def samP (p q : Pt) : Bool := (p.1 == q.1) && ((p.2.1 == q.2.1) && (p.2.2 == q.2.2))
set_option maxRecDepth 100000 in
theorem samP_eq (p q : Pt) : samP p q = (p == q) := by
  obtain ⟨a, b, c⟩ := p
  obtain ⟨a', b', c'⟩ := q
  rfl
set_option maxRecDepth 100000 in
set_option maxHeartbeats 1000000 in
theorem same1_any (p q : Pt) (u v : Value) (w : World) (hp : p.2.1 < M256) (hq : q.2.1 < M256) (hu : Bs w u p.2.2) (hv : Bs w v q.2.2) : Calls Try.prog 63 #[.agg (ptc p u), .agg (ptc q v)] w fun e w' => e = .returned (.bool (p == q)) ∧ Ext w w' := by
  have HK : Hid (Pb ((w.alloc (.cells (ptc p u) 48)).alloc (.cells (ptc q v) 48)) w.heap.size p u) := Lib.hid (Cs.alloc (Cs.new _ _ _ _ rfl) _)
  have HL : Hid (Pb ((w.alloc (.cells (ptc p u) 48)).alloc (.cells (ptc q v) 48)) (w.heap.size + 1) q v) := Lib.hid (Cs.new _ _ _ _ (by simp))
  have HE := Lib.hid (((Ext.refl w).alloc (.cells (ptc p u) 48)).alloc (.cells (ptc q v) 48))
  have c1 := HK.out.long
  have c2 := HL.out.long
  have c3 := HK.out.data
  have c4 := HL.out.data
  have HP := Lib.hid hp
  have HQ := Lib.hid hq
  have HU := Lib.hid (hu.ext HE.out)
  have HV := Lib.hid (hv.ext HE.out)
  have HS := Lib.hid (samP_eq p q)
  have HSD := Lib.hid (show samP p q = ((p.1 == q.1) && ((p.2.1 == q.2.1) && (p.2.2 == q.2.2))) from rfl)
  obtain ⟨lg, n, d⟩ := p
  obtain ⟨lg', n', d'⟩ := q
  dsimp only at *
  clear hp hq hu hv
  cases hl : (lg == lg') with
  | false =>
    have HR := Lib.hid (show ((lg, n, d) == (lg', n', d')) = false by rw [← HS.out, HSD.out, hl]; rfl)
    clear HS HSD
    go_enter Try.func63, Try.ntmps63
    go_wp2_with fail
    go_ret
    exact ⟨by rw [HR.out]; rfl, HE.out⟩
  | true =>
    obtain ⟨b1, hb1⟩ : ∃ b, (n == n') = b := ⟨_, rfl⟩
    have HB1 := Lib.hid hb1
    obtain ⟨b2, hb2⟩ : ∃ b, (d == d') = b := ⟨_, rfl⟩
    have HB2 := Lib.hid hb2
    have HR := Lib.hid (show ((lg, n, d) == (lg', n', d')) = (b1 && b2) by rw [← HS.out, HSD.out, hl, hb1, hb2]; rfl)
    clear HS HSD hb1 hb2
    go_enter Try.func63, Try.ntmps63
    cases b1 with
    | false =>
      go_wp2_with (first
        | ((with_reducible refine wpList_load_wordIn ?_ (.tmp 11) ?_ w.heap.size 1 n ?_ ?_ ?_); (exact rfl); (exact rfl); (exact rfl); (exact HK.out.word))
        | ((with_reducible refine wpList_load_wordIn ?_ (.tmp 13) ?_ (w.heap.size + 1) 1 n' ?_ ?_ ?_); (exact rfl); (exact rfl); (exact rfl); (exact HL.out.word))
        | ((with_reducible refine wpList_eql_word ?_ (.tmp 12) (.tmp 14) ?_ n n' ?_ ?_ ?_ ?_ ?_); (exact rfl); (exact rfl); (exact HP.out); (exact HQ.out); (exact rfl); (exact rfl); rw [HB1.out]))
      go_ret
      exact ⟨by rw [HR.out]; rfl, HE.out⟩
    | true =>
      go_wp2_with (first
        | ((with_reducible refine wpList_load_wordIn ?_ (.tmp 11) ?_ w.heap.size 1 n ?_ ?_ ?_); (exact rfl); (exact rfl); (exact rfl); (exact HK.out.word))
        | ((with_reducible refine wpList_load_wordIn ?_ (.tmp 13) ?_ (w.heap.size + 1) 1 n' ?_ ?_ ?_); (exact rfl); (exact rfl); (exact rfl); (exact HL.out.word))
        | ((with_reducible refine wpList_eql_word ?_ (.tmp 12) (.tmp 14) ?_ n n' ?_ ?_ ?_ ?_ ?_); (exact rfl); (exact rfl); (exact HP.out); (exact HQ.out); (exact rfl); (exact rfl); rw [HB1.out]))
      refine (bytesEqual_any _ _ d d' _ HU.out HV.out).mono ?_
      rintro e w2 ⟨rfl, rfl⟩
      rw [HB2.out]
      go_wp2_with fail
      go_ret
      exact ⟨by rw [HR.out]; rfl, HE.out⟩
set_option maxRecDepth 100000 in
theorem list_ne_at {α : Type} [BEq α] [LawfulBEq α] (a b : List α) (k : Nat) (d : α) (hn : (a.getD k d == b.getD k d) = false) : (a == b) = false := by
  rw [beq_eq_false_iff_ne]
  rintro rfl
  simp at hn
set_option maxRecDepth 100000 in
theorem list_eq_all {α : Type} [BEq α] [LawfulBEq α] (a b : List α) (d : α) (hl : a.length = b.length) (h : ∀ i, i < a.length → a.getD i d = b.getD i d) : (a == b) = true := by
  rw [beq_iff_eq]
  apply List.ext_getElem hl
  intro i h1 h2
  have := h i h1
  rwa [List.getD, List.getElem?_eq_getElem h1, List.getD, List.getElem?_eq_getElem h2] at this
set_option maxRecDepth 100000 in
set_option maxHeartbeats 1000000 in
theorem partsEqual_any (v1 v2 : Value) (a b : List Pt) (w : World) (h1 : Pts w v1 a) (h2 : Pts w v2 b) :
    Calls Try.prog 62 #[v1, v2, .func (.func 63) #[] #[]] w fun e w' => e = .returned (.bool (a == b)) ∧ Ext w w' := by
  have H1 := Lib.hid h1
  have H2 := Lib.hid h2
  obtain ⟨A, c, rfl, p1, p2⟩ := h1.len
  obtain ⟨A', c', rfl, q1, q2⟩ := h2.len
  unfold maxLen at p2 q2
  clear h1 h2
  by_cases hl : a.length = b.length
  · have hd : ((a.length : Int) != (b.length : Int)) = false := by simp [hl]
    have HNE := Lib.hid (fun k h => list_ne_at a b k (false, 0, []) h)
    have HEQ := Lib.hid (fun h => list_eq_all a b (false, 0, []) hl h)
    have HL := Lib.hid hl
    clear hl
    go_enter Try.func62, Try.ntmps62
    go_wp2_with fail
    go_loopw [17] (fun u wr => ∃ k : Nat, k ≤ a.length ∧ u = .int .i64 k ∧ Hid (∀ i, i < k → a.getD i (false, 0, []) = b.getD i (false, 0, [])) ∧ Hid (Ext w wr)) (fun u _ => a.length - (intOf u).toNat)
    case atStart => exact ⟨0, by omega, rfl, Lib.hid fun i hi => absurd hi (by omega), Lib.hid (Ext.refl w)⟩
    case round =>
      obtain ⟨k, hk, rfl, HS, HE⟩ := hrel
      by_cases hlt : k < a.length
      · have hdk : decide (k < a.length) = true := decide_eq_true hlt
        have hkb : k < b.length := by have := HL.out; omega
        obtain ⟨b1, o1, u1, rfl, hr1, hu1, hw1⟩ := (H1.out.ext HE.out).at k hlt
        obtain ⟨b2, o2, u2, rfl, hr2, hu2, hw2⟩ := (H2.out.ext HE.out).at k hkb
        have HR1 := Lib.hid hr1
        have HU1 := Lib.hid hu1
        have HW1 := Lib.hid hw1
        have HR2 := Lib.hid hr2
        have HU2 := Lib.hid hu2
        have HW2 := Lib.hid hw2
        have HNX := Lib.hid (fun (h : (a.getD k (false, 0, []) == b.getD k (false, 0, [])) = true) i (hi : i < k + 1) => (show a.getD i (false, 0, []) = b.getD i (false, 0, []) from by
          by_cases e : i = k
          · rw [e]; simpa using h
          · exact HS.out i (by omega)))
        have HNK := Lib.hid (HNE.out k)
        clear hr1 hu1 hw1 hr2 hu2 hw2
        generalize a.getD k (false, 0, []) = p at *
        generalize b.getD k (false, 0, []) = q at *
        go_wp2_with (first
          | ((with_reducible refine wpList_load_part ?_ (.tmp 20) ?_ b1 (o1 + k * 6) p u1 ?_ ?_ ?_); (exact rfl); (exact rfl); (exact rfl); (exact HR1.out))
          | ((with_reducible refine wpList_store_part ?_ ?_ (.tmp 8) (.tmp 21) ?_ wr.heap.size pz p u1 ?_ ?_ ?_ ?_ ?_ ?_); (exact rfl); (exact rfl); (exact rfl); (exact bs_one HU1.out); (exact rfl); (exact rfl); (exact Cs.new _ _ _ _ rfl); (exact rfl); intro w4 k4 g4; have K4 := Lib.hid k4; have HE4 := Lib.hid (((Ext.refl wr).alloc _).grown g4 (Nat.le_refl _)); have HR4 := Lib.hid (show w4.rangeAt b2 (o2 + k * 6) (ptc q u2).toList from fun j x h => HE4.out.cell (HR2.out j x h)); clear k4 g4)
          | ((with_reducible refine wpList_load_part ?_ (.tmp 24) ?_ b2 (o2 + k * 6) q u2 ?_ ?_ ?_); (exact rfl); (exact rfl); (exact rfl); (exact HR4.out))
          | ((with_reducible refine wpList_store_part ?_ ?_ (.tmp 9) (.tmp 25) ?_ w4.heap.size pz q u2 ?_ ?_ ?_ ?_ ?_ ?_); (exact rfl); (exact rfl); (exact rfl); (exact bs_one HU2.out); (exact rfl); (exact rfl); (exact Cs.new _ _ _ _ rfl); (exact rfl); intro w5 k5 g5; have K5 := Lib.hid k5; have HE5 := Lib.hid (((Ext.refl w4).alloc _).grown g5 (Nat.le_refl _)); have K6 := Lib.hid (Pb.ext K4.out HE5.out); clear k5 g5)
          | ((with_reducible refine wpList_load_part ?_ (.tmp 8) ?_ wr.heap.size 0 p u1 ?_ ?_ ?_); (exact rfl); (exact rfl); (exact rfl); (exact K6.out.range))
          | ((with_reducible refine wpList_load_part ?_ (.tmp 9) ?_ w4.heap.size 0 q u2 ?_ ?_ ?_); (exact rfl); (exact rfl); (exact rfl); (exact K5.out.range)))
        refine (same1_any p q u1 u2 _ HW1.out HW2.out (HU1.out.ext (HE4.out.trans HE5.out)) (HU2.out.ext (HE4.out.trans HE5.out))).mono ?_
        rintro e w6 ⟨rfl, he⟩
        have HE6 := Lib.hid (HE.out.trans ((HE4.out.trans HE5.out).trans he))
        clear he
        cases hs : (p == q) with
        | true =>
          have HN := Lib.hid (HNX.out hs)
          clear hs
          go_wp2_with fail
          exact ⟨⟨k + 1, by omega, by go_num, HN, HE6⟩, by simp [intOf]; omega⟩
        | false =>
          have HF := Lib.hid (HNK.out hs)
          clear hs
          go_wp2_with fail
          go_ret
          exact ⟨by rw [HF.out]; rfl, HE6.out⟩
      · obtain rfl : k = a.length := by omega
        have HF := Lib.hid (HEQ.out HS.out)
        go_wp2_with fail
        go_ret
        exact ⟨by rw [HF.out]; rfl, HE.out⟩
  · have hd : ((a.length : Int) != (b.length : Int)) = true := by simp; omega
    have HF := Lib.hid (show (a == b) = false from by
      rw [beq_eq_false_iff_ne]
      rintro rfl
      exact hl rfl)
    go_enter Try.func62, Try.ntmps62
    go_wp2_with fail
    go_ret
    exact ⟨by rw [HF.out]; rfl, Ext.refl _⟩
set_option maxRecDepth 100000 in
theorem packSame_any (v1 v2 : Value) (a b : List Pt) (w : World) (h1 : Pts w v1 a) (h2 : Pts w v2 b) : Calls Try.prog 20 #[v1, v2] w fun e w' => e = .returned (.bool (a == b)) ∧ Ext w w' := by
  have HC := Lib.hid (partsEqual_any v1 v2 a b w h1 h2)
  clear h1 h2
  generalize (a == b) = r at *
  go_enter Try.func20, Try.ntmps20
  go_wp2_with fail
  refine HC.out.mono ?_
  rintro e w2 ⟨rfl, he⟩
  have HE := Lib.hid he
  clear he
  go_wp2_with fail
  go_ret
  exact ⟨rfl, HE.out⟩
end Go.Proofs.Ytdlllihfibjabaa
