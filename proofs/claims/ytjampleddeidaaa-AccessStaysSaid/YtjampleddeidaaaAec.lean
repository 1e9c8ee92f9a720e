/- Package access: the laws' wakes. -/
import Derived.Test.YtjampleddeidaaaAeb
namespace Go.Proofs.Ytjampleddeidaaa
open Go.ChangeShapes Go.WideShapes Go.ChangeAt Go.RowKit Go.Shelf

set_option maxRecDepth 100000 in
theorem RetX.ax {lo : Nat} {W : World} {v : Value} {x : Ax} (h : RetX lo W v x) : ∃ a s p, v = .agg #[a, s, p] ∧ AxR W a s p x ∧ a.oneCell' = true ∧ s.oneCell' = true ∧ p.oneCell' = true := by
  obtain ⟨a, s, p, e, h1, h2, h3⟩ := h
  exact ⟨a, s, p, e, ⟨h1.xs, h2.xs, h3.xs⟩, h1.one, h2.one, h3.one⟩
def wkL : List Pe := [⟨3, 0, 0⟩, ⟨1, 0, 0⟩, ⟨3, 0, 0⟩]
def wkA : Ax := ⟨[⟨1, 0, 0⟩, ⟨3, 0, 0⟩], [], []⟩
def wkB : Ax := ⟨[⟨1, 0, 0⟩, ⟨2, 0, 0⟩, ⟨3, 0, 0⟩], [], []⟩
set_option maxRecDepth 100000 in
theorem wk_row {w : World} {g : Nat} (h : w.heap[g]? = some (.cells #[.int .u64 3, .int .u64 1, .int .u64 3] 28 (0, 0))) : XA w (.slice (some ⟨g, 0, none⟩) 3 3) wkL := by
  have ho : AzO w 0 (.slice (some ⟨g, 0, none⟩) 3 3) [3, 1, 3] := own_row (l := [3, 1, 3]) h (Nat.zero_le _) (by unfold maxLen; decide)
  have : OwnA w 0 (.slice (some ⟨g, 0, none⟩) 3 3) wkL := ⟨ho, fun p hp => by
    simp only [wkL, List.mem_cons, List.not_mem_nil, or_false] at hp
    rcases hp with rfl | rfl | rfl <;> exact ⟨by decide, rfl, rfl⟩⟩
  exact this.xs
set_option maxRecDepth 100000 in
theorem wkNew_any (w : World) (g : Nat) (h : w.heap[g]? = some (.cells #[.int .u64 3, .int .u64 1, .int .u64 3] 28 (0, 0))) : Calls Try.prog 19 #[.slice (some ⟨g, 0, none⟩) 3 3] w fun e w' => ∃ v', e = .returned (.tuple #[v', .int .i64 0]) ∧ RetX w.heap.size w' v' wkA ∧ Ext w w' := by
  have := newX_any _ wkL w (wk_row h) (by decide)
  rw [show newX wkL = (wkA, 0) by decide +kernel] at this
  exact this
set_option maxRecDepth 100000 in
theorem wkTch_any (a s p : Value) (x y : Ax) (b : Bool) (w : World) (h : AxR w a s p x) (he : touchX x ⟨2, 0, 0⟩ = (y, b, 0)) : Calls Try.prog 27 #[.agg #[a, s, p], .int .u64 2] w fun e w' => ∃ v', e = .returned (.tuple #[v', .bool b, .int .i64 0]) ∧ RetX w.heap.size w' v' y ∧ Ext w w' := by
  have := touchX_any a s p x ⟨2, 0, 0⟩ w h ⟨by decide, rfl, rfl⟩
  rw [he] at this
  exact this
set_option maxRecDepth 100000 in
theorem wkWrm_any (a s p : Value) (x : Ax) (b : Bool) (w : World) (h : AxR w a s p x) (he : warmX x ⟨2, 0, 0⟩ = b) : Calls Try.prog 16 #[.agg #[a, s, p], .int .u64 2] w fun e w' => e = .returned (.bool b) ∧ Ext w w' := by
  have := warmX_any a s p x ⟨2, 0, 0⟩ w h ⟨by decide, rfl, rfl⟩
  rw [he] at this
  exact this
set_option maxRecDepth 100000 in
set_option maxHeartbeats 8000000 in
theorem wakesX_any (w : World) : Calls Try.prog 9 #[] w fun e w' => e = .returned (.bool true) ∧ Ext w w' := by
  have HN := Lib.hid (wkNew_any (w.alloc (.cells #[.int .u64 3, .int .u64 1, .int .u64 3] 28)) w.heap.size (heap_alloc_new _ _))
  go_enter Try.func9, Try.ntmps9
  go_wp2_with fail
  refine HN.out.mono ?_
  rintro e w1 ⟨v1, rfl, hr, he⟩
  have HE1 := Lib.hid (((Ext.refl w).alloc _).trans he)
  obtain ⟨a1, s1, p1, rfl, hx1, y1, y2, y3⟩ := hr.ax
  obtain ⟨A1, c1, rfl, _, _⟩ := hx1.1.len
  have HX1 := Lib.hid hx1
  have Y1 := Lib.hid y1
  have Y2 := Lib.hid y2
  have Y3 := Lib.hid y3
  clear hr he hx1 y1 y2 y3 HN
  go_wp2_with (first
    | ((with_reducible refine wpList_storeX ?_ ?_ (.tmp 1) (.tmp 12) ?_ w1.heap.size (.slice none 0 0) (.slice none 0 0) (.slice none 0 0) (.slice A1 wkA.a.length c1) s1 p1 ?_ ?_ Y1.out Y2.out Y3.out (Cs.new _ _ _ _ rfl) ?_); (exact rfl); (exact rfl); (exact rfl); (exact rfl); (exact rfl); intro w2 k2 g2; have K2 := Lib.hid k2; have E2 := Lib.hid (((Ext.refl w1).alloc _).grown g2 (Nat.le_refl _)); clear k2 g2)
    | ((with_reducible refine wpList_loadX ?_ (.tmp 1) ?_ w1.heap.size (.slice A1 wkA.a.length c1) s1 p1 ?_ K2.out ?_); (exact rfl); (exact rfl); (exact rfl)))
  refine (wkTch_any _ _ _ wkA wkB true _ (HX1.out.ext E2.out) (by decide +kernel)).mono ?_
  rintro e w3 ⟨v3, rfl, hr, he⟩
  have E3 := Lib.hid (E2.out.trans he)
  have K3 := Lib.hid (Cs.ext K2.out he)
  obtain ⟨a3, s3, p3, rfl, hx3, y1, y2, y3⟩ := hr.ax
  have HX3 := Lib.hid hx3
  have Z1 := Lib.hid y1
  have Z2 := Lib.hid y2
  have Z3 := Lib.hid y3
  clear hr he hx3 y1 y2 y3 K2
  go_wp2_with (first
    | ((with_reducible refine wpList_storeX ?_ ?_ (.tmp 3) (.tmp 17) ?_ w3.heap.size (.slice none 0 0) (.slice none 0 0) (.slice none 0 0) a3 s3 p3 ?_ ?_ Z1.out Z2.out Z3.out (Cs.new _ _ _ _ rfl) ?_); (exact rfl); (exact rfl); (exact rfl); (exact rfl); (exact rfl); intro w4 k4 g4; have K4 := Lib.hid k4; have E4 := Lib.hid (((Ext.refl w3).alloc _).grown g4 (Nat.le_refl _)); clear k4 g4)
    | ((with_reducible refine wpList_loadX ?_ (.tmp 3) ?_ w3.heap.size a3 s3 p3 ?_ K4.out ?_); (exact rfl); (exact rfl); (exact rfl)))
  refine (wkTch_any _ _ _ wkB wkB false _ (HX3.out.ext E4.out) (by decide +kernel)).mono ?_
  rintro e w5 ⟨v5, rfl, hr, he⟩
  have E5 := Lib.hid ((E3.out.trans E4.out).trans he)
  have K5 := Lib.hid (Cs.ext (Cs.ext K3.out E4.out) he)
  obtain ⟨a5, s5, p5, rfl, hx5, y1, y2, y3⟩ := hr.ax
  obtain ⟨A5, c5, rfl, _, _⟩ := hx5.1.len
  have HX5 := Lib.hid hx5
  have X1 := Lib.hid y1
  have X2 := Lib.hid y2
  have X3 := Lib.hid y3
  clear hr he hx5 y1 y2 y3 K3 K4
  go_wp2_with (first
    | ((with_reducible refine wpList_storeX ?_ ?_ (.tmp 6) (.tmp 23) ?_ w5.heap.size (.slice none 0 0) (.slice none 0 0) (.slice none 0 0) (.slice A5 wkB.a.length c5) s5 p5 ?_ ?_ X1.out X2.out X3.out (Cs.new _ _ _ _ rfl) ?_); (exact rfl); (exact rfl); (exact rfl); (exact rfl); (exact rfl); intro w7 k7 g7; have K7 := Lib.hid k7; have E7 := Lib.hid (((Ext.refl w5).alloc _).grown g7 (Nat.le_refl _)); have q7 := k7.cell 0 _ rfl; have q1 := (Cs.ext K5.out E7.out).cell 0 _ rfl; have hl3 : (wkB.a.length : Int) = 3 := rfl; have hl2 : (wkA.a.length : Int) = 2 := rfl; clear k7 g7)
    | ((with_reducible refine wpList_loadX ?_ (.tmp 6) ?_ w5.heap.size (.slice A5 wkB.a.length c5) s5 p5 ?_ K7.out ?_); (exact rfl); (exact rfl); (exact rfl)))
  refine (wkWrm_any _ _ _ wkB true _ (HX5.out.ext E7.out) (by decide +kernel)).mono ?_
  rintro e w8 ⟨rfl, he⟩
  have E8 := Lib.hid ((E5.out.trans E7.out).trans he)
  have K8 := Lib.hid (Cs.ext (Cs.ext K5.out E7.out) he)
  clear he q7 q1
  go_wp2_with ((with_reducible refine wpList_loadX ?_ (.tmp 1) ?_ w1.heap.size (.slice A1 wkA.a.length c1) s1 p1 ?_ K8.out ?_); (exact rfl); (exact rfl); (exact rfl))
  refine (wkWrm_any _ _ _ wkA false _ (HX1.out.ext E8.out) (by decide +kernel)).mono ?_
  rintro e w9 ⟨rfl, he⟩
  have E9 := Lib.hid ((HE1.out.trans E8.out).trans he)
  clear he
  go_wp2_with fail
  refine bodyPost_ret (results_tmp rfl _ _ _) rfl ?_
  exact ⟨rfl, E9.out⟩
end Go.Proofs.Ytjampleddeidaaa
