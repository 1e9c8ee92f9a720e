/- Package pack: blank, Of, Bytes. Package pack: Bytes. Package pack: next. -/
import Derived.Test.YtdlllihfibjabaaPkg
import Derived.Lib.SliceRun
namespace Go.Proofs.Ytdlllihfibjabaa
open Go.RowKit Go.Shelf

/-- Are all bytes noughts? -/
def blkB (l : List UInt8) : Bool := l.all fun c => c == 0
set_option maxRecDepth 100000 in
theorem blkB_stop (l : List UInt8) (k : Nat) (hk : k < l.length) (h : l.getD k 0 ≠ 0) : blkB l = false := by
  cases e : blkB l with
  | false => rfl
  | true =>
    have := List.all_eq_true.1 e (l.getD k 0) (by simp [List.getD, hk])
    simp at this
    exact absurd this (by simpa [List.getD, hk] using h)
set_option maxRecDepth 100000 in
theorem blkB_all (l : List UInt8) (h : ∀ i, i < l.length → l.getD i 0 = 0) : blkB l = true := by
  refine List.all_eq_true.2 fun c hc => ?_
  obtain ⟨i, hi, rfl⟩ := List.mem_iff_getElem.1 hc
  have := h i hi
  simpa [List.getD, hi] using this
set_option maxRecDepth 100000 in
theorem blank_any (v : Value) (l : List UInt8) (w : World) (hb : Bs w v l) : Calls Try.prog 134 #[v] w fun e w' => e = .returned (.bool (blkB l)) ∧ w = w' := by
  obtain ⟨A, c, rfl, h1, h2, h3⟩ := hb
  unfold maxLen at h2
  have H3 := Lib.hid h3
  clear h3
  go_enter Try.func134, Try.ntmps134
  go_wp2_with fail
  go_loop [7] (fun u => ∃ k : Nat, k ≤ l.length ∧ u = .int .i64 k ∧ Hid (∀ i, i < k → l.getD i 0 = 0)) (fun u => l.length - (intOf u).toNat)
  case atStart => exact ⟨0, by omega, rfl, Lib.hid fun i hi => absurd hi (by omega)⟩
  case round =>
    obtain ⟨k, hk, rfl, HB⟩ := hrel
    by_cases hlt : k < l.length
    · have hd : decide (k < l.length) = true := decide_eq_true hlt
      obtain ⟨b, o, rfl, hc⟩ := H3.out (by omega)
      have hcl := hc k hlt
      unfold bv at hcl
      clear hc
      by_cases h0 : l.getD k 0 = 0
      · have HN : Hid (∀ i, i < k + 1 → l.getD i 0 = 0) := Lib.hid fun i hi => by
          by_cases h : i = k
          · rw [h]; exact h0
          · exact HB.out i (by omega)
        rw [h0] at hcl
        clear h0
        go_wp2_with fail
        exact ⟨⟨k + 1, by omega, by go_num, HN⟩, by simp [intOf]; omega⟩
      · have HF := Lib.hid (blkB_stop l k hlt h0)
        have hz : (((l.getD k 0).toNat : Int) == 0) = false := by
          simp
          intro e
          exact h0 (UInt8.toNat_inj.1 (by simpa using e))
        have hz2 : ((l.getD k 0).toNat == 0) = false := by
          simp
          intro e
          exact h0 (UInt8.toNat_inj.1 (by simpa using e))
        clear h0
        generalize (l.getD k 0).toNat = y at *
        go_wp2_with fail
        go_ret
        exact ⟨by rw [HF.out]; rfl, rfl⟩
    · obtain rfl : k = l.length := by omega
      have HF := Lib.hid (blkB_all l HB.out)
      go_wp2_with fail
      go_ret
      exact ⟨by rw [HF.out]; rfl, rfl⟩
set_option maxRecDepth 100000 in
theorem results_part {fn : Func} {p : Tmp} (h : fn.results = #[.cell p 48]) (tmps : Array Value) (w : World) (g : Nat) (q : Pt) (u : Value) (hp : tmps.getD p undef = .pointer (some ⟨g, 0, none⟩)) (hg : Pb w g q u) : (results fn tmps).run Try.prog w = .ok (.agg (ptc q u)) w :=
  results_cell_row h tmps w g 48 (ptc q u) (0, 0) _ hp hg Try.underlying48 rfl ptinfo
set_option maxRecDepth 100000 in
theorem packOf_any (n : Nat) (w : World) : Calls Try.prog 27 #[wv n] w fun e w' => e = .returned (.agg (ptc (false, n, []) (.slice none 0 0))) ∧ Ext w w' := by
  unfold wv
  have hcs := Cs.new w (wc n) 46 _ rfl
  go_enter Try.func27, Try.ntmps27
  go_wp2_with (first
    | ((with_reducible refine wpList_load_word rfl 46 44 (.tmp 1) rfl Try.underlying46 winfo w.heap.size n ?_ ?_ ?_); (exact rfl); (exact hcs.alloc _); (unfold wv wc))
    | ((with_reducible refine wpList_store_part ?_ ?_ (.tmp 2) (.tmp 4) ?_ (w.heap.size + 1) pz (false, n, []) (.slice none 0 0) ?_ ?_ ?_ ?_ ?_ ?_); (exact rfl); (exact rfl); (exact rfl); (exact rfl); (exact rfl); (exact rfl); (exact Cs.new _ _ _ _ (by simp)); (exact rfl); intro w4 k4 g4; have K4 := Lib.hid k4; have HE := Lib.hid ((((Ext.refl w).alloc (.cells (wc n) 46)).alloc (.cells pz 48)).grown g4 (by omega)); clear k4 g4))
  exact bodyPost_ret (results_part Try.results27 _ _ (w.heap.size + 1) _ _ rfl K4.out) rfl ⟨rfl, HE.out⟩
end Go.Proofs.Ytdlllihfibjabaa
namespace Go.Proofs.Ytdlllihfibjabaa
open Go.RowKit Go.Shelf

set_option maxRecDepth 100000 in
set_option maxHeartbeats 400000 in
theorem pclone_any (v : Value) (l : List UInt8) (w : World) (hb : Bs w v l) (hl : l.length ≤ 140737488355328) :
    Calls Try.prog 73 #[v] w (RetB w l) := by
  have HB := Lib.hid hb
  obtain ⟨A, c, rfl, h1, h2, h3⟩ := hb
  clear h1 h2
  have hnil := fun (w : World) (n : Nat) => Lib.run_eql_slice_nil (P := Try.prog) w 28 5 A n c 0 0 Try.underlying28
  rcases A with _ | ad
  · obtain rfl : l = [] := by
      rcases Nat.eq_zero_or_pos l.length with h0 | h0
      · exact List.eq_nil_of_length_eq_zero h0
      · obtain ⟨b, o, e, _⟩ := h3 h0
        cases e
    clear h3
    go_enter Try.func73, Try.ntmps73
    go_wp2
    go_ret
    exact ⟨_, rfl, World.ownsRow_nil _ _ _ _, Ext.refl _⟩
  · clear h3
    have hmd : Own (w.alloc (.cells #[] 5)) w.heap.size 5 (.slice (some ⟨w.heap.size, 0, none⟩) 0 0) [] := World.ownsRow_made w #[] 0 (Nat.le_refl _) (by simp [maxLen]) (by simp)
    go_enter Try.func73, Try.ntmps73
    go_wp2_with (at_builtin; (refine wpList_append_bytes rfl (.tmp 5) (.tmp 6) _ rfl w.heap.size 5 Try.underlying28 u8info _ [] rfl hmd _ l rfl (HB.out.ext ((Ext.refl w).alloc _)) (by simpa using hl) (by simp) ?_); intro v' w' ho hg hat; have HO := Lib.hid ho; have HG := Lib.hid hg; clear ho hg hat)
    go_ret
    exact ⟨v', rfl, by simpa using HO.out, ((Ext.refl w).alloc _).grown HG.out (Nat.le_refl _)⟩
/-- What Bytes answers. -/
def RetPt (w : World) (l : List UInt8) (e : Ending) (w' : World) : Prop := ∃ u, e = .returned (.agg (ptc (true, 0, l) u)) ∧ Own w' w.heap.size 5 u l ∧ Ext w w'
set_option maxRecDepth 100000 in
theorem packBytes_any (v : Value) (l : List UInt8) (w : World) (hb : Bs w v l) (hl : l.length ≤ 140737488355328) :
    Calls Try.prog 28 #[v] w (RetPt w l) := by
  have HZ : Hid (Cs (w.alloc (.cells pz 48)) w.heap.size 48 pz) := Lib.hid (Cs.new _ _ _ _ rfl)
  have HE : Hid (Ext w (w.alloc (.cells pz 48))) := Lib.hid ((Ext.refl w).alloc _)
  have HB := Lib.hid hb
  obtain ⟨A, c, rfl, h1, h2, _⟩ := hb
  unfold pz at HZ HE
  go_enter Try.func28, Try.ntmps28
  go_wp2_with fail
  refine (pclone_any _ l _ (HB.out.ext HE.out) hl).mono ?_
  rintro e w1 ⟨u, rfl, ho, he⟩
  have HO := Lib.hid (Own.mono ho HE.out.size)
  have HZ1 := Lib.hid (Cs.ext HZ.out he)
  have HE1 := Lib.hid (HE.out.trans he)
  have HNE := Lib.hid (show u.ownBlock ≠ some w.heap.size from fun e => by have := (ho.lt _ e).1; simp at this; omega)
  obtain ⟨A2, c2, rfl, _, _, _⟩ := ho.bs
  clear ho he HZ HE
  have HN1 := Lib.hid (show Pb ((((((w1.setCell ⟨w.heap.size, 0, none⟩ (.bool true)).setCell ⟨w.heap.size, 1, none⟩ (.int .u64 0)).setCell ⟨w.heap.size, 2, none⟩ (.int .u64 0)).setCell ⟨w.heap.size, 3, none⟩ (.int .u64 0)).setCell ⟨w.heap.size, 4, none⟩ (.int .u64 0)).setCell ⟨w.heap.size, 5, none⟩ (.slice A2 l.length c2)) w.heap.size (true, 0, l) (.slice A2 l.length c2) from by
    have h := Cs.set (Cs.set (Cs.set (Cs.set (Cs.set (Cs.set HZ1.out 0 (.bool true)) 1 (.int .u64 0)) 2 (.int .u64 0)) 3 (.int .u64 0)) 4 (.int .u64 0)) 5 (.slice A2 l.length c2)
    simp only [List.setIfInBounds_toArray, List.set_cons_zero, List.set_cons_succ] at h
    have e : ptc (true, 0, l) (.slice A2 l.length c2) = #[.bool true, .int .u64 0, .int .u64 0, .int .u64 0, .int .u64 0, .slice A2 l.length c2] := by simp [ptc, lv, lb]
    unfold Pb
    rw [e]
    exact h)
  have hg6 : w1.grownBy ((((((w1.setCell ⟨w.heap.size, 0, none⟩ (.bool true)).setCell ⟨w.heap.size, 1, none⟩ (.int .u64 0)).setCell ⟨w.heap.size, 2, none⟩ (.int .u64 0)).setCell ⟨w.heap.size, 3, none⟩ (.int .u64 0)).setCell ⟨w.heap.size, 4, none⟩ (.int .u64 0)).setCell ⟨w.heap.size, 5, none⟩ (.slice A2 l.length c2)) (some w.heap.size) :=
    grown_trans (grown_trans (grown_trans (grown_trans (grown_trans (grown_set _ _ _ _) (grown_set _ _ _ _)) (grown_set _ _ _ _)) (grown_set _ _ _ _)) (grown_set _ _ _ _)) (grown_set _ _ _ _)
  have HO4 := Lib.hid (World.ownsRow.kept HO.out hg6 (.inr HNE.out))
  have HE4 := Lib.hid (HE1.out.grown hg6 (Nat.le_refl _))
  clear hg6
  have c0 := Cs.cell HZ1.out 0 _ rfl
  have c1 := Cs.cell HZ1.out 1 _ rfl
  have c2' := Cs.cell HZ1.out 2 _ rfl
  have c3 := Cs.cell HZ1.out 3 _ rfl
  have c4 := Cs.cell HZ1.out 4 _ rfl
  have c5 := Cs.cell HZ1.out 5 _ rfl
  have f0 := Cs.frozen HZ1.out 0
  have f1 := Cs.frozen HZ1.out 1
  have f2 := Cs.frozen HZ1.out 2
  have f3 := Cs.frozen HZ1.out 3
  have f4 := Cs.frozen HZ1.out 4
  have f5 := Cs.frozen HZ1.out 5
  go_wp2_with fail
  exact bodyPost_ret (results_part Try.results28 _ _ w.heap.size _ _ rfl HN1.out) rfl ⟨_, rfl, HO4.out, HE4.out⟩
end Go.Proofs.Ytdlllihfibjabaa
namespace Go.Proofs.Ytdlllihfibjabaa
open Go.RowKit Go.Shelf

/-- What is left of a slice behind its first n elements. -/
def behV (A : Option Addr) (m c n : Nat) : Value := .slice (if c = n then A else A.map (·.add n)) (m - n) (c - n)
set_option maxRecDepth 100000 in
theorem next_no (g : Nat) (A : Option Addr) (m c n : Nat) (w : World) (hc : w.cell? ⟨g, 0, none⟩ = some (.slice A m c)) (hn : m < n) (_hm : n ≤ 1000000000000) :
    Calls Try.prog 68 #[.pointer (some ⟨g, 0, none⟩), .int .i64 (n : Int)] w fun e w' => e = .returned (.tuple #[.slice none 0 0, .bool false]) ∧ w = w' := by
  have hd : decide ((m : Int) < (n : Int)) = true := decide_eq_true (by omega)
  have hd2 : decide (m < n) = true := decide_eq_true hn
  go_enter Try.func68, Try.ntmps68
  go_wp2_with fail
  exact bodyPost_ret (results_tmp2 rfl _ _ _) rfl ⟨rfl, rfl⟩
set_option maxRecDepth 100000 in
theorem next_yes (g : Nat) (A : Option Addr) (m c n : Nat) (w : World) (hc : w.cell? ⟨g, 0, none⟩ = some (.slice A m c)) (hf : w.frozen? ⟨g, 0, none⟩ = false) (hn : n ≤ m) (hmc : m ≤ c) (_hcm : c ≤ maxLen) :
    Calls Try.prog 68 #[.pointer (some ⟨g, 0, none⟩), .int .i64 (n : Int)] w fun e w' => e = .returned (.tuple #[.slice A n c, .bool true]) ∧ w' = w.setCell ⟨g, 0, none⟩ (behV A m c n) := by

  have hd : decide ((m : Int) < (n : Int)) = false := decide_eq_false (by omega)
  have hd2 : decide (m < n) = false := decide_eq_false (by omega)
  have b1 : (0 : Int) ≤ (n : Int) := by omega
  have b2 : (n : Int) ≤ (m : Int) := by omega
  have b3 : (n : Int) ≤ (c : Int) := by omega
  have b4 : n ≤ c := by omega
  by_cases hcn : c = n
  · have hv : behV A m c n = .slice A (m - n) (c - n) := by unfold behV; rw [if_pos hcn]
    rw [hv]
    have b5 : c - n = 0 := by omega
    subst hcn
    go_enter Try.func68, Try.ntmps68
    go_wp2_with fail
    exact bodyPost_ret (results_tmp2 rfl _ _ _) rfl ⟨rfl, by rw [show m - c = 0 by omega, Nat.sub_self]⟩
  · have hv : behV A m c n = .slice (A.map (·.add n)) (m - n) (c - n) := by unfold behV; rw [if_neg hcn]
    rw [hv]
    have b5 : ¬ c - n = 0 := by omega
    go_enter Try.func68, Try.ntmps68
    go_wp2_with fail
    exact bodyPost_ret (results_tmp2 rfl _ _ _) rfl ⟨rfl, rfl⟩
end Go.Proofs.Ytdlllihfibjabaa
