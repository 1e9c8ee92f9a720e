/- Package journal: lists in memory of their own. -/
import Derived.Test.YtnjpdchmdimaaaaGreatQJna
namespace Go.Proofs.YtnjpdchmdimaaaaGreat
open Go.ChangeShapes Go.WideShapes Go.ChangeAt Go.RowKit Go.Shelf

set_option maxRecDepth 100000 in
set_option maxHeartbeats 2000000 in
theorem jownB_any (v : Value) (l : List UInt8) (w : World) (hb : Bs w v l) (hl : l.length ≤ 1000000000) : Calls Tryz.prog 149 #[v] w (RetB w l) := by
 have HB := Lib.hid hb
 obtain ⟨A, c, rfl, k1, k2, k3⟩ := hb
 unfold maxLen at k2
 clear k3
 by_cases h0 : l.length = 0
 ·have hz : ((l.length : Int) == 0) = true := by simp [h0]
  have hz2 : (l.length == 0) = true := by simp [h0]
  have HL := Lib.hid (List.eq_nil_of_length_eq_zero h0)
  clear h0
  go_enter Tryz.func149, Tryz.ntmps149
  go_wp2_with fail
  go_ret
  exact ⟨_, rfl, by rw [HL.out]; exact World.ownsRow_nil _ _ _ _, Ext.refl _⟩
 ·have hz : ((l.length : Int) == 0) = false := by simp [h0]
  have hz2 : (l.length == 0) = false := by simp [h0]
  have HP := Lib.hid (show 0 < l.length by omega)
  have HX := Lib.hid (lay_all l)
  clear h0
  obtain ⟨n, hn⟩ : ∃ n, l.length = n := ⟨_, rfl⟩
  have HN := Lib.hid hn
  rw [hn] at hz hz2 HB k1
  rw [hn]
  have hnb : n ≤ 140737488355328 := by omega
  clear hn
  go_enter Tryz.func149, Tryz.ntmps149
  go_wp2_with (first
   | (at_make; refine wpList_make_bytes rfl _ _ _ rfl 5 Tryz.underlying76 u8info .i64 .i64 _ _ n rfl rfl rfl rfl hnb ?_; intro w1 hr1 he1; have HR := Lib.hid hr1; have HE := Lib.hid he1; clear hr1 he1)
   | (with_reducible refine wpList_copy_bytes rfl (.tmp 10) (.tmp 11) _ _ rfl 5 Tryz.underlying76 u8size w.heap.size n n (List.replicate n 0) rfl (by simp) HR.out (.slice A n c) l rfl (HB.out.ext HE.out) ?_; intro w2 hr2 hg2; have HR2 := Lib.hid hr2; have HG2 := Lib.hid hg2; clear hr2 hg2))
  go_ret
  refine ⟨_, rfl, ?_, HE.out.grown HG2.out (Nat.le_refl _)⟩
  have := HR2.out
  rw [← HN.out, HX.out] at this
  have h2 := Row.own (base := w.heap.size) this (Nat.le_refl _) (by unfold maxLen; rw [HN.out]; omega)
  rw [HN.out] at h2
  exact h2
set_option maxRecDepth 100000 in
set_option maxHeartbeats 2000000 in
theorem jownPk_any (v : Value) (l : List (Nat × Nat)) (w : World) (hb : Pks w v l) (hl : l.length ≤ 1000000000) : Calls Tryz.prog 150 #[v] w fun e w' => ∃ v', e = .returned v' ∧ OwnK w' w.heap.size v' l ∧ Ext w w' := by
 have HB := Lib.hid hb.rs
 have HW := Lib.hid hb.words
 obtain ⟨A, c, rfl, k1, k2⟩ := hb.len
 unfold maxLen at k2
 clear hb
 by_cases h0 : l.length = 0
 ·have hz : ((l.length : Int) == 0) = true := by simp [h0]
  have hz2 : (l.length == 0) = true := by simp [h0]
  have HL := Lib.hid (List.eq_nil_of_length_eq_zero h0)
  clear h0
  go_enter Tryz.func150, Tryz.ntmps150
  go_wp2_with fail
  go_ret
  exact ⟨_, rfl, ⟨by rw [HL.out]; exact World.ownsRow_nil _ _ _ _, HW.out⟩, Ext.refl _⟩
 ·have hz : ((l.length : Int) == 0) = false := by simp [h0]
  have hz2 : (l.length == 0) = false := by simp [h0]
  have HP := Lib.hid (show 0 < l.length by omega)
  clear h0
  obtain ⟨n, hn⟩ : ∃ n, l.length = n := ⟨_, rfl⟩
  have HN := Lib.hid hn
  rw [hn] at hz hz2 HB k1 HP hl
  rw [hn]
  obtain ⟨i0, hi, hz0, hz1, hzb⟩ := info_parts pkinfo3
  clear hn
  go_enter Tryz.func150, Tryz.ntmps150
  go_wp2_with (first
   | (at_make; go_loud (refine wpList_make_full _ rfl _ _ 77 rfl w.heap.size 106 i0 (.agg (pkc (0, 0))) 8 Tryz.underlying77 hi hz0 hz1 .i64 .i64 _ _ n rfl rfl rfl rfl (by rw [hzb]; omega) (by unfold maxLen; omega) (Nat.le_refl _) ?_; intro w1 hr1 hg1; have HR := Lib.hid hr1; have HE := Lib.hid (ext_of_grown hg1); clear hr1 hg1))
   | (with_reducible refine wpList_copy_whole rfl (.tmp 10) (.tmp 11) _ _ rfl 106 Tryz.underlying77 8 pkinfo w.heap.size w.heap.size n n _ (pkf l) rfl HP.out HR.out rfl (.slice A n c) rfl (HB.out.ext HE.out) (pkf_one l) ?_; intro w2 hr2 hg2; have HR2 := Lib.hid hr2; have HG2 := Lib.hid hg2; clear hr2 hg2))
  go_ret
  exact ⟨_, rfl, ⟨by rw [HN.out]; exact HR2.out, HW.out⟩, HE.out.grown HG2.out (Nat.le_refl _)⟩
set_option maxRecDepth 100000 in
set_option maxHeartbeats 2000000 in
theorem jownH_any (v : Value) (l : List Hd) (w : World) (hb : Hds w v l) (hl : l.length ≤ 1000000000) : Calls Tryz.prog 151 #[v] w fun e w' => ∃ v', e = .returned v' ∧ OwnH w' w.heap.size v' l ∧ Ext w w' := by
 have HB := Lib.hid hb.rs
 have HW := Lib.hid hb.oks
 obtain ⟨A, c, rfl, k1, k2⟩ := hb.len
 unfold maxLen at k2
 clear hb
 by_cases h0 : l.length = 0
 ·have hz : ((l.length : Int) == 0) = true := by simp [h0]
  have hz2 : (l.length == 0) = true := by simp [h0]
  have HL := Lib.hid (List.eq_nil_of_length_eq_zero h0)
  clear h0
  go_enter Tryz.func151, Tryz.ntmps151
  go_wp2_with fail
  go_ret
  exact ⟨_, rfl, ⟨by rw [HL.out]; exact World.ownsRow_nil _ _ _ _, HW.out⟩, Ext.refl _⟩
 ·have hz : ((l.length : Int) == 0) = false := by simp [h0]
  have hz2 : (l.length == 0) = false := by simp [h0]
  have HP := Lib.hid (show 0 < l.length by omega)
  clear h0
  obtain ⟨n, hn⟩ : ∃ n, l.length = n := ⟨_, rfl⟩
  have HN := Lib.hid hn
  rw [hn] at hz hz2 HB k1 HP hl
  rw [hn]
  obtain ⟨i0, hi, hzq0, hz1, hzb⟩ := info_parts hdinfo3
  clear hn
  go_enter Tryz.func151, Tryz.ntmps151
  go_wp2_with (first
   | (at_make; go_loud (refine wpList_make_full _ rfl _ _ 25 rfl w.heap.size 109 i0 (.agg (hdc hz0)) 11 Tryz.underlying25 hi hzq0 hz1 .i64 .i64 _ _ n rfl rfl rfl rfl (by rw [hzb]; omega) (by unfold maxLen; omega) (Nat.le_refl _) ?_; intro w1 hr1 hg1; have HR := Lib.hid hr1; have HE := Lib.hid (ext_of_grown hg1); clear hr1 hg1))
   | (with_reducible refine wpList_copy_wholeX rfl (.tmp 10) (.tmp 11) _ _ rfl 109 Tryz.underlying25 11 hdinfo w.heap.size w.heap.size n n _ (hdf l) rfl HP.out HR.out rfl (.slice A n c) rfl (HB.out.ext HE.out) (hdf_one l) ?_; intro w2 hr2 hg2; have HR2 := Lib.hid hr2; have HG2 := Lib.hid hg2; clear hr2 hg2))
  go_ret
  exact ⟨_, rfl, ⟨by rw [HN.out]; exact HR2.out, HW.out⟩, HE.out.grown HG2.out (Nat.le_refl _)⟩
set_option maxRecDepth 100000 in
set_option maxHeartbeats 2000000 in
theorem jownN_any (v : Value) (l : List Nn) (w : World) (hb : Nns w v l) (hl : l.length ≤ 1000000000) : Calls Tryz.prog 152 #[v] w fun e w' => ∃ v', e = .returned v' ∧ OwnN w' w.heap.size v' l ∧ Ext w w' := by
 have HB := Lib.hid hb.rs
 have HW := Lib.hid hb.oks
 obtain ⟨A, c, rfl, k1, k2⟩ := hb.len
 unfold maxLen at k2
 clear hb
 by_cases h0 : l.length = 0
 ·have hz : ((l.length : Int) == 0) = true := by simp [h0]
  have hz2 : (l.length == 0) = true := by simp [h0]
  have HL := Lib.hid (List.eq_nil_of_length_eq_zero h0)
  clear h0
  go_enter Tryz.func152, Tryz.ntmps152
  go_wp2_with fail
  go_ret
  exact ⟨_, rfl, ⟨by rw [HL.out]; exact World.ownsRow_nil _ _ _ _, HW.out⟩, Ext.refl _⟩
 ·have hz : ((l.length : Int) == 0) = false := by simp [h0]
  have hz2 : (l.length == 0) = false := by simp [h0]
  have HP := Lib.hid (show 0 < l.length by omega)
  clear h0
  obtain ⟨n, hn⟩ : ∃ n, l.length = n := ⟨_, rfl⟩
  have HN := Lib.hid hn
  rw [hn] at hz hz2 HB k1 HP hl
  rw [hn]
  obtain ⟨i0, hi, hzq0, hz1, hzb⟩ := info_parts nninfo3
  clear hn
  go_enter Tryz.func152, Tryz.ntmps152
  go_wp2_with (first
   | (at_make; go_loud (refine wpList_make_full _ rfl _ _ 28 rfl w.heap.size 112 i0 (.agg (nnc nz0)) 6 Tryz.underlying28 hi hzq0 hz1 .i64 .i64 _ _ n rfl rfl rfl rfl (by rw [hzb]; omega) (by unfold maxLen; omega) (Nat.le_refl _) ?_; intro w1 hr1 hg1; have HR := Lib.hid hr1; have HE := Lib.hid (ext_of_grown hg1); clear hr1 hg1))
   | (with_reducible refine wpList_copy_wholeX rfl (.tmp 10) (.tmp 11) _ _ rfl 112 Tryz.underlying28 6 nninfo w.heap.size w.heap.size n n _ (nnf l) rfl HP.out HR.out rfl (.slice A n c) rfl (HB.out.ext HE.out) (nnf_one l) ?_; intro w2 hr2 hg2; have HR2 := Lib.hid hr2; have HG2 := Lib.hid hg2; clear hr2 hg2))
  go_ret
  exact ⟨_, rfl, ⟨by rw [HN.out]; exact HR2.out, HW.out⟩, HE.out.grown HG2.out (Nat.le_refl _)⟩
set_option maxRecDepth 100000 in
set_option maxHeartbeats 2000000 in
theorem jownA_any (v : Value) (l : List Pe) (w : World) (hb : XA w v l) (hl : l.length ≤ 1000000000) : Calls Tryz.prog 153 #[v] w fun e w' => ∃ v', e = .returned v' ∧ OwnA w' w.heap.size v' l ∧ Ext w w' := by
 have HB := Lib.hid hb.rs
 have HW := Lib.hid hb.oks
 obtain ⟨A, c, rfl, k1, k2⟩ := hb.len
 unfold maxLen at k2
 clear hb
 by_cases h0 : l.length = 0
 ·have hz : ((l.length : Int) == 0) = true := by simp [h0]
  have hz2 : (l.length == 0) = true := by simp [h0]
  have HL := Lib.hid (List.eq_nil_of_length_eq_zero h0)
  clear h0
  go_enter Tryz.func153, Tryz.ntmps153
  go_wp2_with fail
  go_ret
  exact ⟨_, rfl, ⟨by rw [HL.out]; exact World.ownsRow_nil _ _ _ _, HW.out⟩, Ext.refl _⟩
 ·have hz : ((l.length : Int) == 0) = false := by simp [h0]
  have hz2 : (l.length == 0) = false := by simp [h0]
  have HP := Lib.hid (show 0 < l.length by omega)
  clear h0
  obtain ⟨n, hn⟩ : ∃ n, l.length = n := ⟨_, rfl⟩
  have HN := Lib.hid hn
  rw [hn] at hz hz2 HB k1 HP hl
  rw [hn]
  obtain ⟨i0, hi, hzq0, hz1, hzb⟩ := info_parts infoA3
  clear hn
  go_enter Tryz.func153, Tryz.ntmps153
  go_wp2_with (first
   | (at_make; go_loud (refine wpList_make_full _ rfl _ _ 31 rfl w.heap.size 45 i0 (.int .u64 0) 1 Tryz.underlying31 hi hzq0 hz1 .i64 .i64 _ _ n rfl rfl rfl rfl (by rw [hzb]; omega) (by unfold maxLen; omega) (Nat.le_refl _) ?_; intro w1 hr1 hg1; have HR := Lib.hid hr1; have HE := Lib.hid (ext_of_grown hg1); clear hr1 hg1))
   | (with_reducible refine wpList_copy_wholeX rfl (.tmp 10) (.tmp 11) _ _ rfl 45 Tryz.underlying31 1 infoA w.heap.size w.heap.size n n _ (fA l) rfl HP.out HR.out rfl (.slice A n c) rfl (HB.out.ext HE.out) (fA_one l) ?_; intro w2 hr2 hg2; have HR2 := Lib.hid hr2; have HG2 := Lib.hid hg2; clear hr2 hg2))
  go_ret
  exact ⟨_, rfl, ⟨by rw [HN.out]; exact HR2.out, HW.out⟩, HE.out.grown HG2.out (Nat.le_refl _)⟩
set_option maxRecDepth 100000 in
set_option maxHeartbeats 2000000 in
theorem jownS_any (v : Value) (l : List Pe) (w : World) (hb : XS w v l) (hl : l.length ≤ 1000000000) : Calls Tryz.prog 154 #[v] w fun e w' => ∃ v', e = .returned v' ∧ OwnS w' w.heap.size v' l ∧ Ext w w' := by
 have HB := Lib.hid hb.rs
 have HW := Lib.hid hb.oks
 obtain ⟨A, c, rfl, k1, k2⟩ := hb.len
 unfold maxLen at k2
 clear hb
 by_cases h0 : l.length = 0
 ·have hz : ((l.length : Int) == 0) = true := by simp [h0]
  have hz2 : (l.length == 0) = true := by simp [h0]
  have HL := Lib.hid (List.eq_nil_of_length_eq_zero h0)
  clear h0
  go_enter Tryz.func154, Tryz.ntmps154
  go_wp2_with fail
  go_ret
  exact ⟨_, rfl, ⟨by rw [HL.out]; exact World.ownsRow_nil _ _ _ _, HW.out⟩, Ext.refl _⟩
 ·have hz : ((l.length : Int) == 0) = false := by simp [h0]
  have hz2 : (l.length == 0) = false := by simp [h0]
  have HP := Lib.hid (show 0 < l.length by omega)
  clear h0
  obtain ⟨n, hn⟩ : ∃ n, l.length = n := ⟨_, rfl⟩
  have HN := Lib.hid hn
  rw [hn] at hz hz2 HB k1 HP hl
  rw [hn]
  obtain ⟨i0, hi, hzq0, hz1, hzb⟩ := info_parts infoS3
  clear hn
  go_enter Tryz.func154, Tryz.ntmps154
  go_wp2_with (first
   | (at_make; go_loud (refine wpList_make_full _ rfl _ _ 32 rfl w.heap.size 115 i0 (.agg (cS pz0)) 5 Tryz.underlying32 hi hzq0 hz1 .i64 .i64 _ _ n rfl rfl rfl rfl (by rw [hzb]; omega) (by unfold maxLen; omega) (Nat.le_refl _) ?_; intro w1 hr1 hg1; have HR := Lib.hid hr1; have HE := Lib.hid (ext_of_grown hg1); clear hr1 hg1))
   | (with_reducible refine wpList_copy_wholeX rfl (.tmp 10) (.tmp 11) _ _ rfl 115 Tryz.underlying32 5 infoS w.heap.size w.heap.size n n _ (fS l) rfl HP.out HR.out rfl (.slice A n c) rfl (HB.out.ext HE.out) (fS_one l) ?_; intro w2 hr2 hg2; have HR2 := Lib.hid hr2; have HG2 := Lib.hid hg2; clear hr2 hg2))
  go_ret
  exact ⟨_, rfl, ⟨by rw [HN.out]; exact HR2.out, HW.out⟩, HE.out.grown HG2.out (Nat.le_refl _)⟩
set_option maxRecDepth 100000 in
set_option maxHeartbeats 2000000 in
theorem jownP_any (v : Value) (l : List Pe) (w : World) (hb : XP w v l) (hl : l.length ≤ 1000000000) : Calls Tryz.prog 155 #[v] w fun e w' => ∃ v', e = .returned v' ∧ OwnP w' w.heap.size v' l ∧ Ext w w' := by
 have HB := Lib.hid hb.rs
 have HW := Lib.hid hb.oks
 obtain ⟨A, c, rfl, k1, k2⟩ := hb.len
 unfold maxLen at k2
 clear hb
 by_cases h0 : l.length = 0
 ·have hz : ((l.length : Int) == 0) = true := by simp [h0]
  have hz2 : (l.length == 0) = true := by simp [h0]
  have HL := Lib.hid (List.eq_nil_of_length_eq_zero h0)
  clear h0
  go_enter Tryz.func155, Tryz.ntmps155
  go_wp2_with fail
  go_ret
  exact ⟨_, rfl, ⟨by rw [HL.out]; exact World.ownsRow_nil _ _ _ _, HW.out⟩, Ext.refl _⟩
 ·have hz : ((l.length : Int) == 0) = false := by simp [h0]
  have hz2 : (l.length == 0) = false := by simp [h0]
  have HP := Lib.hid (show 0 < l.length by omega)
  clear h0
  obtain ⟨n, hn⟩ : ∃ n, l.length = n := ⟨_, rfl⟩
  have HN := Lib.hid hn
  rw [hn] at hz hz2 HB k1 HP hl
  rw [hn]
  obtain ⟨i0, hi, hzq0, hz1, hzb⟩ := info_parts infoP3
  clear hn
  go_enter Tryz.func155, Tryz.ntmps155
  go_wp2_with (first
   | (at_make; go_loud (refine wpList_make_full _ rfl _ _ 33 rfl w.heap.size 118 i0 (.agg (cP pz0)) 9 Tryz.underlying33 hi hzq0 hz1 .i64 .i64 _ _ n rfl rfl rfl rfl (by rw [hzb]; omega) (by unfold maxLen; omega) (Nat.le_refl _) ?_; intro w1 hr1 hg1; have HR := Lib.hid hr1; have HE := Lib.hid (ext_of_grown hg1); clear hr1 hg1))
   | (with_reducible refine wpList_copy_wholeX rfl (.tmp 10) (.tmp 11) _ _ rfl 118 Tryz.underlying33 9 infoP w.heap.size w.heap.size n n _ (fP l) rfl HP.out HR.out rfl (.slice A n c) rfl (HB.out.ext HE.out) (fP_one l) ?_; intro w2 hr2 hg2; have HR2 := Lib.hid hr2; have HG2 := Lib.hid hg2; clear hr2 hg2))
  go_ret
  exact ⟨_, rfl, ⟨by rw [HN.out]; exact HR2.out, HW.out⟩, HE.out.grown HG2.out (Nat.le_refl _)⟩
theorem flat_at {s : Nat} : ∀ (css : List (List Value)), (∀ cs ∈ css, cs.length = s) → ∀ (k : Nat) (cs : List Value), css[k]? = some cs → (css.flatten.drop (k * s)).take s = cs
 | [], _, k, cs, h => by simp at h
 | c :: css, hl, 0, cs, h => by
  have e : c = cs := by simpa using h
  subst e
  rw [Nat.zero_mul, List.drop_zero, List.flatten_cons, List.take_append_of_le_length (by rw [hl c (List.mem_cons_self ..)]; exact Nat.le_refl _), List.take_of_length_le (by rw [hl c (List.mem_cons_self ..)]; exact Nat.le_refl _)]
 | c :: css, hl, k + 1, cs, h => by
  have hc := hl c (List.mem_cons_self ..)
  rw [List.flatten_cons, show (k + 1) * s = c.length + k * s by rw [hc, Nat.add_mul]; omega, List.drop_append]
  rw [show c.length + k * s - c.length = k * s by omega, List.drop_of_length_le (show c.length ≤ c.length + k * s by omega), List.nil_append]
  exact flat_at css (fun cs hc => hl cs (List.mem_cons_of_mem _ hc)) k cs (by simpa using h)
theorem flat_set {s : Nat} : ∀ (css : List (List Value)), (∀ cs ∈ css, cs.length = s) → ∀ (k : Nat) (ds : List Value), k < css.length → ds.length = s → css.flatten.take (k * s) ++ ds ++ css.flatten.drop (k * s + s) = (css.set k ds).flatten
 | [], _, k, ds, h, _ => by simp at h
 | c :: css, hl, 0, ds, _, hd => by
  have hc := hl c (List.mem_cons_self ..)
  rw [Nat.zero_mul, List.take_zero, List.nil_append, Nat.zero_add, List.flatten_cons, List.drop_append, hc, Nat.sub_self, List.drop_zero, List.drop_of_length_le (by rw [hc]; exact Nat.le_refl _), List.nil_append]
  rfl
 | c :: css, hl, k + 1, ds, h, hd => by
  have hc := hl c (List.mem_cons_self ..)
  have ih := flat_set css (fun cs hc => hl cs (List.mem_cons_of_mem _ hc)) k ds (by simpa using h) hd
  rw [List.set_cons_succ, List.flatten_cons, List.flatten_cons, ← ih, show (k + 1) * s = c.length + k * s by rw [hc, Nat.add_mul]; omega]
  rw [List.take_append, show c.length + k * s - c.length = k * s by omega, List.take_of_length_le (show c.length ≤ c.length + k * s by omega)]
  rw [show c.length + k * s + s = c.length + (k * s + s) by omega, List.drop_append, show c.length + (k * s + s) - c.length = k * s + s by omega, List.drop_of_length_le (show c.length ≤ c.length + (k * s + s) by omega), List.nil_append]
  simp only [List.append_assoc]
theorem Sl.css {α : Type} {W : World} {s : Nat} (hs : 0 < s) {Rd : List Value → α → Prop} {v : Value} {l : List α} (h : Sl W s Rd v l) :
  ∃ css : List (List Value), css.length = l.length ∧ (∀ cs ∈ css, cs.length = s) ∧ Rs W s v l.length css.flatten ∧ ∀ (i : Nat) cs x, css[i]? = some cs → l[i]? = some x → Rd cs x := by
 obtain ⟨A, c, e, h1, h2, h3⟩ := h
 subst e
 rcases Nat.eq_zero_or_pos l.length with h0 | h0
 ·obtain rfl := List.eq_nil_of_length_eq_zero h0
  exact ⟨[], rfl, fun _ hc => by simp at hc, ⟨by simp, A, c, rfl, h1, h2, fun h => absurd h (by simp)⟩, fun i cs x hc => by simp at hc⟩
 ·obtain ⟨b, o, rfl, hc⟩ := h3 h0
  have hf : ∀ n, n ≤ l.length → ∃ css : List (List Value), css.length = n ∧ (∀ cs ∈ css, cs.length = s) ∧ (∀ (i : Nat) cs, css[i]? = some cs → W.rangeAt b (o + i * s) cs) ∧ ∀ (i : Nat) cs x, css[i]? = some cs → l[i]? = some x → Rd cs x := by
   intro n
   induction n with
   | zero => exact fun _ => ⟨[], rfl, fun _ hc => by simp at hc, fun i cs hc => by simp at hc, fun i cs x hc => by simp at hc⟩
   | succ n ih =>
    intro hn
    obtain ⟨css, k1, k2, k3, k4⟩ := ih (by omega)
    obtain ⟨cs, q1, q2, q3⟩ := hc n _ (List.getElem?_eq_getElem (show n < l.length by omega))
    refine ⟨css ++ [cs], by simp [k1], fun c hm => ?_, fun i c hi => ?_, fun i c x hi hx => ?_⟩
    ·rcases List.mem_append.1 hm with hm | hm
     ·exact k2 c hm
     ·rw [List.mem_singleton.1 hm]; exact q1
    ·rcases Nat.lt_or_ge i css.length with hlt | hge
     ·rw [List.getElem?_append_left hlt] at hi; exact k3 i c hi
     ·rw [List.getElem?_append_right hge] at hi
      have h5 := (List.getElem?_eq_some_iff.1 hi).1
      have e : i = n := by simp at h5; omega
      subst e
      rw [k1, Nat.sub_self] at hi
      have e2 : cs = c := by simpa using hi
      rw [← e2]; exact q3
    ·rcases Nat.lt_or_ge i css.length with hlt | hge
     ·rw [List.getElem?_append_left hlt] at hi; exact k4 i c x hi hx
     ·rw [List.getElem?_append_right hge] at hi
      have h5 := (List.getElem?_eq_some_iff.1 hi).1
      have e : i = n := by simp at h5; omega
      subst e
      rw [k1, Nat.sub_self] at hi
      have e2 : cs = c := by simpa using hi
      rw [List.getElem?_eq_getElem (show i < l.length by omega)] at hx
      rw [← e2, ← Option.some.inj hx]; exact q2
  obtain ⟨css, k1, k2, k3, k4⟩ := hf l.length (Nat.le_refl _)
  refine ⟨css, k1, k2, ⟨by rw [flat_len css k2, k1], some ⟨b, o, none⟩, c, rfl, h1, h2, fun _ => ⟨b, o, rfl, fun i u hu => ?_⟩⟩, k4⟩
  obtain ⟨cs, q1, q2⟩ := flat_inv hs css k2 i u hu
  have := k3 _ cs q1 _ u q2
  rwa [show o + i / s * s + i % s = o + i by have := Nat.div_add_mod i s; rw [Nat.mul_comm] at this; omega] at this
theorem acR_one {W : World} {cs : List Value} {a : Ac} (h : AcR W cs a) : ∀ u ∈ cs, u.oneCell' = true := by
 obtain ⟨_, u, v, rfl, hu, hv⟩ := h
 obtain ⟨A, c, rfl, _⟩ := hu
 exact fun x hx => Array.all_eq_true_iff_forall_mem.1 (acc_one a _ v rfl (pks_one hv)) x (by simpa using hx)
theorem poR_one {W : World} {cs : List Value} {p : Po} (h : PoR W cs p) : ∀ u ∈ cs, u.oneCell' = true := by
 obtain ⟨u, v, z, a, s, q, rfl, hw, hx⟩ := h
 obtain ⟨y1, y2, y3⟩ := axr_one hx
 intro x hm
 simp only [List.mem_cons, List.not_mem_nil, or_false] at hm
 rcases hm with rfl | rfl | rfl | rfl | rfl | rfl
 ·exact acs_one hw.1
 ·exact hds_one hw.2.1
 ·exact nns_one hw.2.2
 ·exact y1
 ·exact y2
 ·exact y3
set_option maxRecDepth 100000 in
theorem poinfo3 : (Tryz.prog.info? 37).map (fun i => (i.zero, i.size, i.bytes)) = some (some (.agg #[.slice none 0 0, .slice none 0 0, .slice none 0 0, .slice none 0 0, .slice none 0 0, .slice none 0 0]), 6, 144) := by kernel_rfl
set_option maxRecDepth 100000 in
set_option maxHeartbeats 2000000 in
theorem jownAc_any (v : Value) (l : List Ac) (w : World) (hb : Acs w v l) (hl : l.length ≤ 1000000000) : Calls Tryz.prog 162 #[v] w fun e w' => ∃ (v' : Value) (css : List (List Value)), e = .returned v' ∧ w'.ownsRow w.heap.size 79 8 v' l.length css.flatten ∧ css.length = l.length ∧ (∀ cs ∈ css, cs.length = 8) ∧ (∀ (i : Nat) cs x, css[i]? = some cs → l[i]? = some x → AcR w cs x) ∧ Ext w w' := by
 obtain ⟨css, kl, ks, kr, kd⟩ := Sl.css (by decide) hb
 have HB := Lib.hid kr
 have HW := Lib.hid (And.intro kl (And.intro ks kd))
 have HO := Lib.hid (show ∀ u ∈ css.flatten, u.oneCell' = true from fun u hu => by
  obtain ⟨cs, hc, hu⟩ := List.mem_flatten.1 hu
  obtain ⟨i, hi, e⟩ := List.getElem_of_mem hc
  exact acR_one (kd i cs _ (by rw [← e]; exact List.getElem?_eq_getElem hi) (List.getElem?_eq_getElem (by omega))) u hu)
 clear kl ks kr kd
 obtain ⟨A, c, rfl, k1, k2⟩ := hb.len
 unfold maxLen at k2
 clear hb
 by_cases h0 : l.length = 0
 ·have hz : ((l.length : Int) == 0) = true := by simp [h0]
  have hz2 : (l.length == 0) = true := by simp [h0]
  have HL := Lib.hid (List.eq_nil_of_length_eq_zero h0)
  clear h0
  go_enter Tryz.func162, Tryz.ntmps162
  go_wp2_with fail
  go_ret
  have hc : css = [] := List.eq_nil_of_length_eq_zero (by rw [HW.out.1, HL.out]; rfl)
  exact ⟨_, css, rfl, by rw [HL.out, hc]; exact World.ownsRow_nil _ _ _ _, HW.out.1, HW.out.2.1, HW.out.2.2, Ext.refl _⟩
 ·have hz : ((l.length : Int) == 0) = false := by simp [h0]
  have hz2 : (l.length == 0) = false := by simp [h0]
  have HP := Lib.hid (show 0 < l.length by omega)
  clear h0
  obtain ⟨n, hn⟩ : ∃ n, l.length = n := ⟨_, rfl⟩
  have HN := Lib.hid hn
  rw [hn] at hz hz2 HB k1 HP hl HW
  rw [hn]
  obtain ⟨i0, hi, hzq0, hz1, hzb⟩ := info_parts acinfo3
  clear hn
  go_enter Tryz.func162, Tryz.ntmps162
  go_wp2_with (first
   | (at_make; go_loud (refine wpList_make_full _ rfl _ _ 22 rfl w.heap.size 79 i0 (.agg az0) 8 Tryz.underlying22 hi hzq0 hz1 .i64 .i64 _ _ n rfl rfl rfl rfl (by rw [hzb]; omega) (by unfold maxLen; omega) (Nat.le_refl _) ?_; intro w1 hr1 hg1; have HR := Lib.hid hr1; have HE := Lib.hid (ext_of_grown hg1); clear hr1 hg1))
   | (with_reducible refine wpList_copy_wholeX rfl (.tmp 10) (.tmp 11) _ _ rfl 79 Tryz.underlying22 8 acinfo w.heap.size w.heap.size n n _ css.flatten rfl HP.out HR.out rfl (.slice A n c) rfl (HB.out.ext HE.out) HO.out ?_; intro w2 hr2 hg2; have HR2 := Lib.hid hr2; have HG2 := Lib.hid hg2; clear hr2 hg2))
  go_ret
  exact ⟨_, css, rfl, HR2.out, HW.out.1, HW.out.2.1, HW.out.2.2, HE.out.grown HG2.out (Nat.le_refl _)⟩
set_option maxRecDepth 100000 in
set_option maxHeartbeats 2000000 in
theorem jownPo_any (v : Value) (l : List Po) (w : World) (hb : Pos w v l) (hl : l.length ≤ 1000000000) : Calls Tryz.prog 146 #[v] w fun e w' => ∃ (v' : Value) (css : List (List Value)), e = .returned v' ∧ w'.ownsRow w.heap.size 37 6 v' l.length css.flatten ∧ css.length = l.length ∧ (∀ cs ∈ css, cs.length = 6) ∧ (∀ (i : Nat) cs x, css[i]? = some cs → l[i]? = some x → PoR w cs x) ∧ Ext w w' := by
 obtain ⟨css, kl, ks, kr, kd⟩ := Sl.css (by decide) hb
 have HB := Lib.hid kr
 have HW := Lib.hid (And.intro kl (And.intro ks kd))
 have HO := Lib.hid (show ∀ u ∈ css.flatten, u.oneCell' = true from fun u hu => by
  obtain ⟨cs, hc, hu⟩ := List.mem_flatten.1 hu
  obtain ⟨i, hi, e⟩ := List.getElem_of_mem hc
  exact poR_one (kd i cs _ (by rw [← e]; exact List.getElem?_eq_getElem hi) (List.getElem?_eq_getElem (by omega))) u hu)
 clear kl ks kr kd
 obtain ⟨A, c, rfl, k1, k2⟩ := hb.len
 unfold maxLen at k2
 clear hb
 by_cases h0 : l.length = 0
 ·have hz : ((l.length : Int) == 0) = true := by simp [h0]
  have hz2 : (l.length == 0) = true := by simp [h0]
  have HL := Lib.hid (List.eq_nil_of_length_eq_zero h0)
  clear h0
  go_enter Tryz.func146, Tryz.ntmps146
  go_wp2_with fail
  go_ret
  have hc : css = [] := List.eq_nil_of_length_eq_zero (by rw [HW.out.1, HL.out]; rfl)
  exact ⟨_, css, rfl, by rw [HL.out, hc]; exact World.ownsRow_nil _ _ _ _, HW.out.1, HW.out.2.1, HW.out.2.2, Ext.refl _⟩
 ·have hz : ((l.length : Int) == 0) = false := by simp [h0]
  have hz2 : (l.length == 0) = false := by simp [h0]
  have HP := Lib.hid (show 0 < l.length by omega)
  clear h0
  obtain ⟨n, hn⟩ : ∃ n, l.length = n := ⟨_, rfl⟩
  have HN := Lib.hid hn
  rw [hn] at hz hz2 HB k1 HP hl HW
  rw [hn]
  obtain ⟨i0, hi, hzq0, hz1, hzb⟩ := info_parts poinfo3
  clear hn
  go_enter Tryz.func146, Tryz.ntmps146
  go_wp2_with (first
   | (at_make; go_loud (refine wpList_make_full _ rfl _ _ 38 rfl w.heap.size 37 i0 (.agg #[.slice none 0 0, .slice none 0 0, .slice none 0 0, .slice none 0 0, .slice none 0 0, .slice none 0 0]) 6 Tryz.underlying38 hi hzq0 hz1 .i64 .i64 _ _ n rfl rfl rfl rfl (by rw [hzb]; omega) (by unfold maxLen; omega) (Nat.le_refl _) ?_; intro w1 hr1 hg1; have HR := Lib.hid hr1; have HE := Lib.hid (ext_of_grown hg1); clear hr1 hg1))
   | (with_reducible refine wpList_copy_wholeX rfl (.tmp 10) (.tmp 11) _ _ rfl 37 Tryz.underlying38 6 infoPo w.heap.size w.heap.size n n _ css.flatten rfl HP.out HR.out rfl (.slice A n c) rfl (HB.out.ext HE.out) HO.out ?_; intro w2 hr2 hg2; have HR2 := Lib.hid hr2; have HG2 := Lib.hid hg2; clear hr2 hg2))
  go_ret
  exact ⟨_, css, rfl, HR2.out, HW.out.1, HW.out.2.1, HW.out.2.2, HE.out.grown HG2.out (Nat.le_refl _)⟩
end Go.Proofs.YtnjpdchmdimaaaaGreat
