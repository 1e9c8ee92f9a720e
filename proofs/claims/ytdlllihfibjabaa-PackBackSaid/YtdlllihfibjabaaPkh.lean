/- Package pack: blank, Of, Bytes. -/
import Derived.Test.YtdlllihfibjabaaPkg
namespace Go.Proofs.Ytdlllihfibjabaa
open Go.RowKit Go.Shelf

/-- Are all bytes noughts? -/
def blkB (l : List UInt8) : Bool := l.all fun c => c == 0
set_option maxRecDepth 100000 in
theorem blkB_stop (l : List UInt8) (k : Nat) (hk : k < l.length) (h : l.getD k 0 ≠ 0) : blkB l = false := by
  cases e : blkB l with
  | false => rfl
  | true =>
    have := List.all_eq_true.1 e (l.getD k 0) (by simp [List.getD, hk])
    simp at this
    exact absurd this (by simpa [List.getD, hk] using h)
set_option maxRecDepth 100000 in
theorem blkB_all (l : List UInt8) (h : ∀ i, i < l.length → l.getD i 0 = 0) : blkB l = true := by
  refine List.all_eq_true.2 fun c hc => ?_
  obtain ⟨i, hi, rfl⟩ := List.mem_iff_getElem.1 hc
  have := h i hi
  simpa [List.getD, hi] using this
set_option maxRecDepth 100000 in
theorem blank_any (v : Value) (l : List UInt8) (w : World) (hb : Bs w v l) : Calls Try.prog 134 #[v] w fun e w' => e = .returned (.bool (blkB l)) ∧ w = w' := by
  obtain ⟨A, c, rfl, h1, h2, h3⟩ := hb
  unfold maxLen at h2
  have H3 := Lib.hid h3
  clear h3
  go_enter Try.func134, Try.ntmps134
  go_wp2_with fail
  go_loop [7] (fun u => ∃ k : Nat, k ≤ l.length ∧ u = .int .i64 k ∧ Hid (∀ i, i < k → l.getD i 0 = 0)) (fun u => l.length - (intOf u).toNat)
  case atStart => exact ⟨0, by omega, rfl, Lib.hid fun i hi => absurd hi (by omega)⟩
  case round =>
    obtain ⟨k, hk, rfl, HB⟩ := hrel
    by_cases hlt : k < l.length
    · have hd : decide (k < l.length) = true := decide_eq_true hlt
      obtain ⟨b, o, rfl, hc⟩ := H3.out (by omega)
      have hcl := hc k hlt
      unfold bv at hcl
      clear hc
      by_cases h0 : l.getD k 0 = 0
      · have HN : Hid (∀ i, i < k + 1 → l.getD i 0 = 0) := Lib.hid fun i hi => by
          by_cases h : i = k
          · rw [h]; exact h0
          · exact HB.out i (by omega)
        rw [h0] at hcl
        clear h0
        go_wp2_with fail
        exact ⟨⟨k + 1, by omega, by go_num, HN⟩, by simp [intOf]; omega⟩
      · have HF := Lib.hid (blkB_stop l k hlt h0)
        have hz : (((l.getD k 0).toNat : Int) == 0) = false := by
          simp
          intro e
          exact h0 (UInt8.toNat_inj.1 (by simpa using e))
        have hz2 : ((l.getD k 0).toNat == 0) = false := by
          simp
          intro e
          exact h0 (UInt8.toNat_inj.1 (by simpa using e))
        clear h0
        generalize (l.getD k 0).toNat = y at *
        go_wp2_with fail
        go_ret
        exact ⟨by rw [HF.out]; rfl, rfl⟩
    · obtain rfl : k = l.length := by omega
      have HF := Lib.hid (blkB_all l HB.out)
      go_wp2_with fail
      go_ret
      exact ⟨by rw [HF.out]; rfl, rfl⟩
set_option maxRecDepth 100000 in
theorem results_part {fn : Func} {p : Tmp} (h : fn.results = #[.cell p 48]) (tmps : Array Value) (w : World) (g : Nat) (q : Pt) (u : Value) (hp : tmps.getD p undef = .pointer (some ⟨g, 0, none⟩)) (hg : Pb w g q u) : (results fn tmps).run Try.prog w = .ok (.agg (ptc q u)) w :=
  results_cell_row h tmps w g 48 (ptc q u) (0, 0) _ hp hg Try.underlying48 rfl ptinfo
set_option maxRecDepth 100000 in
theorem packOf_any (n : Nat) (w : World) : Calls Try.prog 27 #[wv n] w fun e w' => e = .returned (.agg (ptc (false, n, []) (.slice none 0 0))) ∧ Ext w w' := by
  unfold wv
  have hcs := Cs.new w (wc n) 46 _ rfl
  go_enter Try.func27, Try.ntmps27
  go_wp2_with (first
    | ((with_reducible refine wpList_load_word rfl 46 44 (.tmp 1) rfl Try.underlying46 winfo w.heap.size n ?_ ?_ ?_); (exact rfl); (exact hcs.alloc _); (unfold wv wc))
    | ((with_reducible refine wpList_store_part ?_ ?_ (.tmp 2) (.tmp 4) ?_ (w.heap.size + 1) pz (false, n, []) (.slice none 0 0) ?_ ?_ ?_ ?_ ?_ ?_); (exact rfl); (exact rfl); (exact rfl); (exact rfl); (exact rfl); (exact rfl); (exact Cs.new _ _ _ _ (by simp)); (exact rfl); intro w4 k4 g4; have K4 := Lib.hid k4; have HE := Lib.hid ((((Ext.refl w).alloc (.cells (wc n) 46)).alloc (.cells pz 48)).grown g4 (by omega)); clear k4 g4))
  exact bodyPost_ret (results_part Try.results27 _ _ (w.heap.size + 1) _ _ rfl K4.out) rfl ⟨rfl, HE.out⟩
end Go.Proofs.Ytdlllihfibjabaa
