/- Package pack: Size. -/
import Derived.Test.YtdlllihfibjabaaPkb
namespace Go.Proofs.Ytdlllihfibjabaa
open Go.RowKit Go.Shelf

/-- The bytes of the tail of a part. -/
def tlN (p : Pt) : Nat := if p.1 then 32 + flN p.2.2.length else 0
/-- The bytes of the first k tails. -/
def tlS (l : List Pt) (k : Nat) : Nat := ((l.take k).map tlN).sum
set_option maxRecDepth 100000 in
theorem tlS_next (l : List Pt) (k : Nat) (hk : k < l.length) : tlS l (k + 1) = tlS l k + tlN (l.getD k (false, 0, [])) := by
  unfold tlS
  rw [List.take_succ_eq_append_getElem hk, List.map_append, List.sum_append]
  simp [List.getD, hk]
/-- How many bytes parts have. -/
def szN (l : List Pt) : Nat := if errP l = 0 then 32 * l.length + tlS l l.length else 0
set_option maxRecDepth 100000 in
theorem errP_len (l : List Pt) (h : errP l = 0) : l.length ≤ 16 := by
  unfold errP at h
  split at h
  · omega
  · omega
set_option maxRecDepth 100000 in
theorem errP_all (l : List Pt) (h : errP l = 0) (k : Nat) (hk : k < l.length) : mayB (l.getD k (false, 0, [])) = true := by
  cases e : mayB (l.getD k (false, 0, [])) with
  | true => rfl
  | false =>
    have := errP_stop l k (by have := errP_len l h; omega) hk e
    rw [h] at this
    exact absurd this (by decide)
set_option maxRecDepth 100000 in
theorem mayB_data (p : Pt) (h : mayB p = true) : p.2.2.length ≤ 200 := by
  unfold mayB at h
  split at h
  · simp at h; exact h.2
  · simp at h; simp [h]
set_option maxRecDepth 100000 in
theorem tlN_le (p : Pt) (h : mayB p = true) : tlN p ≤ 256 := by
  have := mayB_data p h
  unfold tlN flN
  split <;> omega
set_option maxRecDepth 100000 in
theorem tlS_le (l : List Pt) (h : errP l = 0) (k : Nat) (hk : k ≤ l.length) : tlS l k ≤ 256 * k := by
  induction k with
  | zero => simp [tlS]
  | succ k ih =>
    rw [tlS_next l k (by omega)]
    have := tlN_le _ (errP_all l h k (by omega))
    have := ih (by omega)
    omega

/-- What lies there between the tails. -/
def SzJ (w : World) (g : Nat) (l : List Pt) (i : Nat) (W : World) : Prop := Cs W g 3 #[.int .i64 (32 * l.length + tlS l i : Nat)] ∧ Ext w W
set_option maxRecDepth 100000 in
set_option maxHeartbeats 1000000 in
theorem size_any (v : Value) (l : List Pt) (w : World) (hv : Pts w v l) : Calls Try.prog 22 #[v] w fun e w' => e = .returned (.int .i64 (szN l : Nat)) ∧ Ext w w' := by
  have HV := Lib.hid hv
  obtain ⟨A, c, rfl, h1, h2⟩ := hv.len
  unfold maxLen at h2
  clear hv
  go_enter Try.func22, Try.ntmps22
  go_wp2_with fail
  refine (check_any _ l _ HV.out).mono ?_
  rintro e w1 ⟨rfl, he⟩
  have HE := Lib.hid he
  clear he
  by_cases h0 : errP l = 0
  · have hl := errP_len l h0
    have HZ := Lib.hid (show szN l = 32 * l.length + tlS l l.length by unfold szN; rw [if_pos h0])
    have HT := Lib.hid (fun W2 (h2 : SzJ w1 w1.heap.size l 0 W2) => show Calls Try.prog 57 #[.func (.func 65) #[] (#[.pointer (some ⟨w1.heap.size, 0, none⟩)]), .slice A l.length c] W2 fun e w' => e = .returned (.tuple #[]) ∧ SzJ w1 w1.heap.size l l.length w' from
      tails_any 65 #[.pointer (some ⟨w1.heap.size, 0, none⟩)] (.slice A l.length c) l (SzJ w1 w1.heap.size l) _ (enters_of Try.func65 (by kernel_rfl) rfl) h2
        w1 (HV.out.ext HE.out) (fun i W h => h.2) (fun i W W' h he => ⟨Cs.ext h.1 he, h.2.trans he⟩)
        (fun i W hi hn h => ⟨by rw [tlS_next l i hi]; unfold tlN; rw [hn]; exact h.1, h.2⟩)
        (fun i u W hi hy h _ hu => (size1_any i (32 * l.length + tlS l i) w1.heap.size u _ W (by have := tlS_le l h0 i (by omega); omega) (by have := mayB_data _ (errP_all l h0 i hi); omega) hu h.1).mono fun e W' ⟨e1, e2⟩ => ⟨e1, by
          have e3 : tlN (l.getD i (false, 0, [])) = 32 + flN (l.getD i (false, 0, [])).2.2.length := by unfold tlN; rw [hy]; rfl
          rw [tlS_next l i hi, e3, ← Nat.add_assoc (32 * l.length)]
          exact e2.1, h.2.grown e2.2 (Nat.le_refl _)⟩))
    have HS0 : Hid (SzJ w1 w1.heap.size l 0 (w1.alloc (.cells #[.int .i64 (32 * l.length : Nat)] 3))) := Lib.hid
      ⟨by simp only [tlS, List.take_zero, List.map_nil, List.sum_nil, Nat.add_zero]; exact Cs.new w1 _ _ _ rfl, (Ext.refl w1).alloc _⟩
    have hq : IntKind.i64.wrap (32 * (l.length : Int)) = ((32 * l.length : Nat) : Int) := by rw [IntWalk.i64_in _ (by omega)]; omega
    generalize errP l = er at *
    subst h0
    generalize h32 : 32 * l.length = sz at *
    go_wp2_with fail
    refine (HT.out _ HS0.out).mono ?_
    rintro e w2 ⟨rfl, hj⟩
    have HJ := Lib.hid hj
    have hc := Cs.cell hj.1 0 _ rfl
    clear hj
    go_wp2_with fail
    go_ret
    exact ⟨by rw [HZ.out]; rfl, HE.out.trans HJ.out.2⟩
  · have HZ := Lib.hid (show szN l = 0 by unfold szN; rw [if_neg h0])
    have hd : (errP l == 0) = false := by simpa using h0
    generalize errP l = er at *
    go_wp2_with fail
    go_ret
    exact ⟨by rw [HZ.out]; rfl, HE.out⟩
end Go.Proofs.Ytdlllihfibjabaa
