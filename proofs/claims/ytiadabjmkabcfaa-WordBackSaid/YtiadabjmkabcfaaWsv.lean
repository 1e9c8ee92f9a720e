/- The law WordBack: words lead back from their bytes and their digits; they stand as their bytes do. -/
import Derived.Test.YtiadabjmkabcfaaWru
import Derived.Test.YtiadabjmkabcfaaInw
import Derived.WalkLawsBesides
import Derived.ChangeMaps5
namespace Go.Proofs.Ytiadabjmkabcfaa
open Go.ChangeShapes Go.WideShapes Go.ChangeAt Go.RowKit

theorem cmpB_w (a b : Nat) (v u : Value) (ha : a < M256) (hb : b < M256) (w : World) (h : Bs w v (bytL a (List.range 32))) (k : Bs w u (bytL b (List.range 32))) :
    Calls Try.prog 51 #[v, u] w fun e w' => e = .returned (.int .i64 (cmpN a b)) ∧ Ext w w' :=
  (bytesCompare_any v u _ _ w h k).mono fun e w' ⟨h1, h2⟩ => ⟨by rw [h1, cmp_bytes a b ha hb], h2 ▸ Ext.refl _⟩
theorem cmp_zero (a b : Nat) : (cmpN a b == 0) = (a == b) := by
  unfold cmpN
  by_cases h : a < b
  · rw [if_pos h]
    have : ¬ a = b := by omega
    simp [this]
  · rw [if_neg h]
    by_cases h2 : b < a
    · rw [if_pos h2]
      have : ¬ a = b := by omega
      simp [this]
    · rw [if_neg h2]
      have : a = b := by omega
      simp [this]

set_option maxRecDepth 100000 in
set_option maxHeartbeats 8000000 in
theorem back_walk (a b : Nat) (s : ByteArray) (w : World) (ha : a < M256) (hb : b < M256) (hsz : s.size ≤ 9223372036854775807) : Calls Try.prog 12 #[wv a, wv b, .string s] w (RetT w) := by
  unfold wv
  go_enter Try.func12, Try.ntmps12
  go_wp2_with fail
  refine (wakes_any _).mono ?_
  rintro e w1 ⟨rfl, he1⟩
  have HS : Ks w [(w.heap.size, a), (w.heap.size + 1, b)] w1 :=
    ⟨fun x hx => by
      simp only [List.mem_cons, List.not_mem_nil, or_false] at hx
      rcases hx with rfl | rfl
      · exact Cs.ext ((Cs.new _ _ _ _ rfl).alloc _) he1
      · exact Cs.ext (Cs.new _ _ _ _ (by simp)) he1, Ext.trans (((Ext.refl w).alloc _).alloc _) he1⟩
  clear he1
  have HS := HS.drew
  go_wp2_with fail
  go_region_held3 (fun w' => (w'.cell? ⟨w.heap.size, 0, none⟩ = some (.int .u64 (lb a 0 : Nat)) ∧ w'.cell? ⟨w.heap.size, 1, none⟩ = some (.int .u64 (lb a 1 : Nat)) ∧ w'.cell? ⟨w.heap.size, 2, none⟩ = some (.int .u64 (lb a 2 : Nat)) ∧ w'.cell? ⟨w.heap.size, 3, none⟩ = some (.int .u64 (lb a 3 : Nat))) ∧ (w'.cell? ⟨w.heap.size + 1, 0, none⟩ = some (.int .u64 (lb b 0 : Nat)) ∧ w'.cell? ⟨w.heap.size + 1, 1, none⟩ = some (.int .u64 (lb b 1 : Nat)) ∧ w'.cell? ⟨w.heap.size + 1, 2, none⟩ = some (.int .u64 (lb b 2 : Nat)) ∧ w'.cell? ⟨w.heap.size + 1, 3, none⟩ = some (.int .u64 (lb b 3 : Nat))))
    (exact ⟨(HS.at _ a (by simp)).f4, (HS.at _ b (by simp)).f4⟩)
    (first
      | (go_at_call 43; have _t := hb1; refine (bytes_any b _).mono ?_; rintro e wy ⟨vy, rfl, ho, he⟩; have hb2 := ho.bs; have hb1 := hb1.ext he; have HS := HS.ext he; clear ho he)
      | (go_at_call 43; refine (bytes_any a _).mono ?_; rintro e wx ⟨vx, rfl, ho, he⟩; have hb1 := ho.bs; have HS := HS.ext he; clear ho he)
      | fail)
  obtain ⟨A1, c1, hA1, _⟩ := id hb1
  obtain ⟨A2, c2, hA2, _⟩ := id hb2
  rw [bytL_len, List.length_range] at hA1 hA2
  subst hA1
  subst hA2
  have HB1 := Lib.hid hb1
  have HB2 := Lib.hid hb2
  clear hb1 hb2
  have hc0 : (cmpN a b == 0) = (a == b) := cmp_zero a b
  go_wp2_with fail
  refine wp_named fun a0 ha0 => ?_
  obtain ⟨fr, hfr⟩ : ∃ fr : (Nat → Value) → Act, ∀ V, fr V = ((((((((((((((((((((((a0.put (some 20) (V 0)).put (some 21) (V 1)).put (some 22) (V 2)).put (some 23) (V 3)).put (some 24) (V 4)).put (some 25) (V 5)).put (some 26) (V 6)).put (some 27) (V 7)).put (some 28) (V 8)).put (some 29) (V 9)).put (some 30) (V 10)).put (some 31) (V 11)).put (some 32) (V 12)).put (some 33) (V 13)).put (some 34) (V 14)).put (some 35) (V 15)).put (some 36) (V 16)).put (some 37) (V 17)).put (some 38) (V 18)).put (some 39) (V 19)).put (some 40) (V 20)).put (some 41) (V 21)) := ⟨fun V => ((((((((((((((((((((((a0.put (some 20) (V 0)).put (some 21) (V 1)).put (some 22) (V 2)).put (some 23) (V 3)).put (some 24) (V 4)).put (some 25) (V 5)).put (some 26) (V 6)).put (some 27) (V 7)).put (some 28) (V 8)).put (some 29) (V 9)).put (some 30) (V 10)).put (some 31) (V 11)).put (some 32) (V 12)).put (some 33) (V 13)).put (some 34) (V 14)).put (some 35) (V 15)).put (some 36) (V 16)).put (some 37) (V 17)).put (some 38) (V 18)).put (some 39) (V 19)).put (some 40) (V 20)).put (some 41) (V 21)), fun _ => rfl⟩
  rw [ha0] at hfr
  simp only [Act.put, List.setIfInBounds_toArray, List.set_cons_zero, List.set_cons_succ] at hfr
  have HFR := Lib.hid hfr
  clear hfr
  refine wp_region_inv (by kernel_rfl) (by kernel_rfl) (fun L A W => ∃ V : Nat → Value, A = fr V ∧ Ks w [(w.heap.size, a), (w.heap.size + 1, b)] W ∧ Vals (fun j => ([some (.slice A1 32 c1), some (.int .i64 32), some (.bool false), some (.bool false), some (wv (a)), some (wv (b)), some (.int .i64 (cmpN a b)), some (.slice A1 32 c1), some (.slice A2 32 c2), some (.int .i64 (cmpN a b)), some (.bool false), some (.bool false), some (.bool false), some (wv (a)), some (wv (b)), some (.int .i64 (cmpN a b)), some (.bool (a == b)), some (wv (a)), some (wv (b)), some (.bool (a == b)), some (.bool false), some (.bool false)] : List (Option Value)).getD j none) L V ∧ Bs W (.slice A1 32 c1) (bytL a (List.range 32)) ∧ Bs W (.slice A2 32 c2) (bytL b (List.range 32))) ?_ ⟨?_, ?_, ?_, ?_, ?_, ?_, ?_, ?_, ?_, ?_, ?_, ?_, ?_, ?_, ?_, ?_, ?_, ?_, ?_, ?_, ?_, ?_, trivial⟩ ?_
  · refine ⟨fun j => a0.tmps.getD (([20, 21, 22, 23, 24, 25, 26, 27, 28, 29, 30, 31, 32, 33, 34, 35, 36, 37, 38, 39, 40, 41] : List Nat).getD j 0) undef, ?_, HS.drew, Vals.no _ _ _ (far_none _ _ rfl), Bs.ext (HB1.out) (Ext.refl _).drew, Bs.ext (HB2.out) (Ext.refl _).drew⟩
    rw [HFR.out, ha0]
    rfl
  all_goals clear ha0
  · rintro L A W K hL hC hW ⟨V, rfl, HS, HV, x0, x1⟩ hK
    have H := Lib.hid (show ∀ W', Ext W W' → K (fr (upd V 0 (.slice A1 32 c1))) W' from fun W' he => hK _ _ ⟨upd V 0 (.slice A1 32 c1), rfl, HS.ext he, HV.up 0 _ (fun x hx => Option.some.inj hx), Bs.ext x0 he, Bs.ext x1 he⟩)
    clear hK hC hW hL HV 
    rw [HFR.out]
    go_wp2_with fail
    show K _ _
    have := H.out _ (Ext.refl _)
    rw [HFR.out] at this
    exact this
  · rintro L A W K hL hC hW ⟨V, rfl, HS, HV, x0, x1⟩ hK
    have e0 : V 0 = .slice A1 32 c1 := HV 0 _ rfl (hW 0 rfl)
    have u0 : (upd V 1 (.int .i64 32)) 0 = .slice A1 32 c1 := e0
    have HU := Lib.hid (show (upd V 1 (.int .i64 32)) 0 = .slice A1 32 c1 from u0)
    clear u0
    have H := Lib.hid (show ∀ W', Ext W W' → K (fr (upd V 1 (.int .i64 32))) W' from fun W' he => hK _ _ ⟨upd V 1 (.int .i64 32), rfl, HS.ext he, HV.up 1 _ (fun x hx => Option.some.inj hx), Bs.ext x0 he, Bs.ext x1 he⟩)
    clear hK hC hW hL HV 
    rw [HFR.out]
    rw [e0]
    clear e0
    go_wp2_with fail
    show K _ _
    have := H.out _ (Ext.refl _)
    rw [HFR.out] at this
    obtain u0 := HU.out
    rw [u0] at this
    exact this
  · rintro L A W K hL hC hW ⟨V, rfl, HS, HV, x0, x1⟩ hK
    have e1 : V 1 = .int .i64 32 := HV 1 _ rfl (hW 1 rfl)
    have u1 : (upd V 2 (.bool false)) 1 = .int .i64 32 := e1
    have HU := Lib.hid (show (upd V 2 (.bool false)) 1 = .int .i64 32 from u1)
    clear u1
    have H := Lib.hid (show ∀ W', Ext W W' → K (fr (upd V 2 (.bool false))) W' from fun W' he => hK _ _ ⟨upd V 2 (.bool false), rfl, HS.ext he, HV.up 2 _ (fun x hx => Option.some.inj hx), Bs.ext x0 he, Bs.ext x1 he⟩)
    clear hK hC hW hL HV 
    rw [HFR.out]
    rw [e1]
    clear e1
    go_wp2_with fail
    show K _ _
    have := H.out _ (Ext.refl _)
    rw [HFR.out] at this
    obtain u1 := HU.out
    rw [u1] at this
    exact this
  · rintro L A W K hL hC hW ⟨V, rfl, HS, HV, x0, x1⟩ hK
    have e2 : V 2 = .bool false := HV 2 _ rfl (hW 2 rfl)
    have u2 : (upd V 3 (.bool false)) 2 = .bool false := e2
    have HU := Lib.hid (show (upd V 3 (.bool false)) 2 = .bool false from u2)
    clear u2
    have H := Lib.hid (show ∀ W', Ext W W' → K (fr (upd V 3 (.bool false))) W' from fun W' he => hK _ _ ⟨upd V 3 (.bool false), rfl, HS.ext he, HV.up 3 _ (fun x hx => Option.some.inj hx), Bs.ext x0 he, Bs.ext x1 he⟩)
    clear hK hC hW hL HV 
    rw [HFR.out]
    rw [e2]
    clear e2
    go_wp2_with fail
    show K _ _
    have := H.out _ (Ext.refl _)
    rw [HFR.out] at this
    obtain u2 := HU.out
    rw [u2] at this
    exact this
  · rintro L A W K hL hC hW ⟨V, rfl, HS, HV, x0, x1⟩ hK
    have e3 : V 3 = .bool false := HV 3 _ rfl (hW 3 rfl)
    have u3 : (upd V 4 (wv (a))) 3 = .bool false := e3
    have HU := Lib.hid (show (upd V 4 (wv (a))) 3 = .bool false from u3)
    clear u3
    have H := Lib.hid (show ∀ W', Ext W W' → K (fr (upd V 4 (wv (a)))) W' from fun W' he => hK _ _ ⟨upd V 4 (wv (a)), rfl, HS.ext he, HV.up 4 _ (fun x hx => Option.some.inj hx), Bs.ext x0 he, Bs.ext x1 he⟩)
    clear hK hC hW hL HV 
    rw [HFR.out]
    rw [e3]
    clear e3
    refine wpList_load_wordG rfl 27 25 (.tmp 3) rfl Try.underlying27 winfo (w.heap.size) (a) rfl (HS.at (w.heap.size) (a) (by simp)) ?_
    show K _ _
    have := H.out _ (Ext.refl _)
    rw [HFR.out] at this
    obtain u3 := HU.out
    rw [u3] at this
    exact this
  · rintro L A W K hL hC hW ⟨V, rfl, HS, HV, x0, x1⟩ hK
    have e3 : V 3 = .bool false := HV 3 _ rfl (hW 3 rfl)
    have u3 : (upd V 5 (wv (b))) 3 = .bool false := e3
    have HU := Lib.hid (show (upd V 5 (wv (b))) 3 = .bool false from u3)
    clear u3
    have H := Lib.hid (show ∀ W', Ext W W' → K (fr (upd V 5 (wv (b)))) W' from fun W' he => hK _ _ ⟨upd V 5 (wv (b)), rfl, HS.ext he, HV.up 5 _ (fun x hx => Option.some.inj hx), Bs.ext x0 he, Bs.ext x1 he⟩)
    clear hK hC hW hL HV 
    rw [HFR.out]
    rw [e3]
    clear e3
    refine wpList_load_wordG rfl 27 25 (.tmp 4) rfl Try.underlying27 winfo (w.heap.size + 1) (b) rfl (HS.at (w.heap.size + 1) (b) (by simp)) ?_
    show K _ _
    have := H.out _ (Ext.refl _)
    rw [HFR.out] at this
    obtain u3 := HU.out
    rw [u3] at this
    exact this
  · rintro L A W K hL hC hW ⟨V, rfl, HS, HV, x0, x1⟩ hK
    have e3 : V 3 = .bool false := HV 3 _ rfl (hW 3 rfl)
    have e4 : V 4 = wv (a) := HV 4 _ rfl (hW 4 rfl)
    have e5 : V 5 = wv (b) := HV 5 _ rfl (hW 5 rfl)
    have u3 : (upd V 6 (.int .i64 (cmpN a b))) 3 = .bool false := e3
    have u4 : (upd V 6 (.int .i64 (cmpN a b))) 4 = wv (a) := e4
    have u5 : (upd V 6 (.int .i64 (cmpN a b))) 5 = wv (b) := e5
    have HU := Lib.hid (show (upd V 6 (.int .i64 (cmpN a b))) 3 = .bool false ∧ (upd V 6 (.int .i64 (cmpN a b))) 4 = wv (a) ∧ (upd V 6 (.int .i64 (cmpN a b))) 5 = wv (b) from ⟨u3, u4, u5⟩)
    clear u3 u4 u5
    have H := Lib.hid (show ∀ W', Ext W W' → K (fr (upd V 6 (.int .i64 (cmpN a b)))) W' from fun W' he => hK _ _ ⟨upd V 6 (.int .i64 (cmpN a b)), rfl, HS.ext he, HV.up 6 _ (fun x hx => Option.some.inj hx), Bs.ext x0 he, Bs.ext x1 he⟩)
    clear hK hC hW hL HV 
    rw [HFR.out]
    rw [e3, e4, e5]
    clear e3 e4 e5
    go_wp2_with fail
    refine (cmp_any a b _ ha hb).mono ?_
    rintro e wx ⟨rfl, he⟩
    have := H.out _ he
    clear H
    go_wp2_with fail
    show K _ _
    rw [HFR.out] at this
    obtain ⟨u3, u4, u5⟩ := HU.out
    rw [u3, u4, u5] at this
    exact this
  · rintro L A W K hL hC hW ⟨V, rfl, HS, HV, x0, x1⟩ hK
    have e3 : V 3 = .bool false := HV 3 _ rfl (hW 3 rfl)
    have u3 : (upd V 7 (.slice A1 32 c1)) 3 = .bool false := e3
    have HU := Lib.hid (show (upd V 7 (.slice A1 32 c1)) 3 = .bool false from u3)
    clear u3
    have H := Lib.hid (show ∀ W', Ext W W' → K (fr (upd V 7 (.slice A1 32 c1))) W' from fun W' he => hK _ _ ⟨upd V 7 (.slice A1 32 c1), rfl, HS.ext he, HV.up 7 _ (fun x hx => Option.some.inj hx), Bs.ext x0 he, Bs.ext x1 he⟩)
    clear hK hC hW hL HV 
    rw [HFR.out]
    rw [e3]
    clear e3
    go_wp2_with fail
    show K _ _
    have := H.out _ (Ext.refl _)
    rw [HFR.out] at this
    obtain u3 := HU.out
    rw [u3] at this
    exact this
  · rintro L A W K hL hC hW ⟨V, rfl, HS, HV, x0, x1⟩ hK
    have e3 : V 3 = .bool false := HV 3 _ rfl (hW 3 rfl)
    have u3 : (upd V 8 (.slice A2 32 c2)) 3 = .bool false := e3
    have HU := Lib.hid (show (upd V 8 (.slice A2 32 c2)) 3 = .bool false from u3)
    clear u3
    have H := Lib.hid (show ∀ W', Ext W W' → K (fr (upd V 8 (.slice A2 32 c2))) W' from fun W' he => hK _ _ ⟨upd V 8 (.slice A2 32 c2), rfl, HS.ext he, HV.up 8 _ (fun x hx => Option.some.inj hx), Bs.ext x0 he, Bs.ext x1 he⟩)
    clear hK hC hW hL HV 
    rw [HFR.out]
    rw [e3]
    clear e3
    go_wp2_with fail
    show K _ _
    have := H.out _ (Ext.refl _)
    rw [HFR.out] at this
    obtain u3 := HU.out
    rw [u3] at this
    exact this
  · rintro L A W K hL hC hW ⟨V, rfl, HS, HV, x0, x1⟩ hK
    have e3 : V 3 = .bool false := HV 3 _ rfl (hW 3 rfl)
    have e7 : V 7 = .slice A1 32 c1 := HV 7 _ rfl (hW 7 rfl)
    have e8 : V 8 = .slice A2 32 c2 := HV 8 _ rfl (hW 8 rfl)
    have u3 : (upd V 9 (.int .i64 (cmpN a b))) 3 = .bool false := e3
    have u7 : (upd V 9 (.int .i64 (cmpN a b))) 7 = .slice A1 32 c1 := e7
    have u8 : (upd V 9 (.int .i64 (cmpN a b))) 8 = .slice A2 32 c2 := e8
    have HU := Lib.hid (show (upd V 9 (.int .i64 (cmpN a b))) 3 = .bool false ∧ (upd V 9 (.int .i64 (cmpN a b))) 7 = .slice A1 32 c1 ∧ (upd V 9 (.int .i64 (cmpN a b))) 8 = .slice A2 32 c2 from ⟨u3, u7, u8⟩)
    clear u3 u7 u8
    have H := Lib.hid (show ∀ W', Ext W W' → K (fr (upd V 9 (.int .i64 (cmpN a b)))) W' from fun W' he => hK _ _ ⟨upd V 9 (.int .i64 (cmpN a b)), rfl, HS.ext he, HV.up 9 _ (fun x hx => Option.some.inj hx), Bs.ext x0 he, Bs.ext x1 he⟩)
    clear hK hC hW hL HV 
    rw [HFR.out]
    rw [e3, e7, e8]
    clear e3 e7 e8
    go_wp2_with fail
    refine (cmpB_w a b _ _ ha hb _ x0 x1).mono ?_
    rintro e wx ⟨rfl, he⟩
    have := H.out _ he
    clear H
    go_wp2_with fail
    show K _ _
    rw [HFR.out] at this
    obtain ⟨u3, u7, u8⟩ := HU.out
    rw [u3, u7, u8] at this
    exact this
  · rintro L A W K hL hC hW ⟨V, rfl, HS, HV, x0, x1⟩ hK
    have e3 : V 3 = .bool false := HV 3 _ rfl (hW 3 rfl)
    have e6 : V 6 = .int .i64 (cmpN a b) := HV 6 _ rfl (hW 6 rfl)
    have e9 : V 9 = .int .i64 (cmpN a b) := HV 9 _ rfl (hW 9 rfl)
    have u3 : (upd V 10 (.bool false)) 3 = .bool false := e3
    have u6 : (upd V 10 (.bool false)) 6 = .int .i64 (cmpN a b) := e6
    have u9 : (upd V 10 (.bool false)) 9 = .int .i64 (cmpN a b) := e9
    have HU := Lib.hid (show (upd V 10 (.bool false)) 3 = .bool false ∧ (upd V 10 (.bool false)) 6 = .int .i64 (cmpN a b) ∧ (upd V 10 (.bool false)) 9 = .int .i64 (cmpN a b) from ⟨u3, u6, u9⟩)
    clear u3 u6 u9
    have H := Lib.hid (show ∀ W', Ext W W' → K (fr (upd V 10 (.bool false))) W' from fun W' he => hK _ _ ⟨upd V 10 (.bool false), rfl, HS.ext he, HV.up 10 _ (fun x hx => Option.some.inj hx), Bs.ext x0 he, Bs.ext x1 he⟩)
    clear hK hC hW hL HV 
    rw [HFR.out]
    rw [e3, e6, e9]
    clear e3 e6 e9
    go_wp2_with fail
    show K _ _
    have := H.out _ (Ext.refl _)
    rw [HFR.out] at this
    obtain ⟨u3, u6, u9⟩ := HU.out
    rw [u3, u6, u9] at this
    exact this
  · rintro L A W K hL hC hW ⟨V, rfl, HS, HV, x0, x1⟩ hK
    have e3 : V 3 = .bool false := HV 3 _ rfl (hW 3 rfl)
    have e10 : V 10 = .bool false := HV 10 _ rfl (hW 10 rfl)
    have u3 : (upd V 11 (.bool false)) 3 = .bool false := e3
    have u10 : (upd V 11 (.bool false)) 10 = .bool false := e10
    have HU := Lib.hid (show (upd V 11 (.bool false)) 3 = .bool false ∧ (upd V 11 (.bool false)) 10 = .bool false from ⟨u3, u10⟩)
    clear u3 u10
    have H := Lib.hid (show ∀ W', Ext W W' → K (fr (upd V 11 (.bool false))) W' from fun W' he => hK _ _ ⟨upd V 11 (.bool false), rfl, HS.ext he, HV.up 11 _ (fun x hx => Option.some.inj hx), Bs.ext x0 he, Bs.ext x1 he⟩)
    clear hK hC hW hL HV 
    rw [HFR.out]
    rw [e3, e10]
    clear e3 e10
    go_wp2_with fail
    show K _ _
    have := H.out _ (Ext.refl _)
    rw [HFR.out] at this
    obtain ⟨u3, u10⟩ := HU.out
    rw [u3, u10] at this
    exact this
  · rintro L A W K hL hC hW ⟨V, rfl, HS, HV, x0, x1⟩ hK
    have e11 : V 11 = .bool false := HV 11 _ rfl (hW 11 rfl)
    have u11 : (upd V 12 (.bool false)) 11 = .bool false := e11
    have HU := Lib.hid (show (upd V 12 (.bool false)) 11 = .bool false from u11)
    clear u11
    have H := Lib.hid (show ∀ W', Ext W W' → K (fr (upd V 12 (.bool false))) W' from fun W' he => hK _ _ ⟨upd V 12 (.bool false), rfl, HS.ext he, HV.up 12 _ (fun x hx => Option.some.inj hx), Bs.ext x0 he, Bs.ext x1 he⟩)
    clear hK hC hW hL HV 
    rw [HFR.out]
    rw [e11]
    clear e11
    go_wp2_with fail
    show K _ _
    have := H.out _ (Ext.refl _)
    rw [HFR.out] at this
    obtain u11 := HU.out
    rw [u11] at this
    exact this
  · rintro L A W K hL hC hW ⟨V, rfl, HS, HV, x0, x1⟩ hK
    have e12 : V 12 = .bool false := HV 12 _ rfl (hW 12 rfl)
    have u12 : (upd V 13 (wv (a))) 12 = .bool false := e12
    have HU := Lib.hid (show (upd V 13 (wv (a))) 12 = .bool false from u12)
    clear u12
    have H := Lib.hid (show ∀ W', Ext W W' → K (fr (upd V 13 (wv (a)))) W' from fun W' he => hK _ _ ⟨upd V 13 (wv (a)), rfl, HS.ext he, HV.up 13 _ (fun x hx => Option.some.inj hx), Bs.ext x0 he, Bs.ext x1 he⟩)
    clear hK hC hW hL HV 
    rw [HFR.out]
    rw [e12]
    clear e12
    refine wpList_load_wordG rfl 27 25 (.tmp 3) rfl Try.underlying27 winfo (w.heap.size) (a) rfl (HS.at (w.heap.size) (a) (by simp)) ?_
    show K _ _
    have := H.out _ (Ext.refl _)
    rw [HFR.out] at this
    obtain u12 := HU.out
    rw [u12] at this
    exact this
  · rintro L A W K hL hC hW ⟨V, rfl, HS, HV, x0, x1⟩ hK
    have e12 : V 12 = .bool false := HV 12 _ rfl (hW 12 rfl)
    have u12 : (upd V 14 (wv (b))) 12 = .bool false := e12
    have HU := Lib.hid (show (upd V 14 (wv (b))) 12 = .bool false from u12)
    clear u12
    have H := Lib.hid (show ∀ W', Ext W W' → K (fr (upd V 14 (wv (b)))) W' from fun W' he => hK _ _ ⟨upd V 14 (wv (b)), rfl, HS.ext he, HV.up 14 _ (fun x hx => Option.some.inj hx), Bs.ext x0 he, Bs.ext x1 he⟩)
    clear hK hC hW hL HV 
    rw [HFR.out]
    rw [e12]
    clear e12
    refine wpList_load_wordG rfl 27 25 (.tmp 4) rfl Try.underlying27 winfo (w.heap.size + 1) (b) rfl (HS.at (w.heap.size + 1) (b) (by simp)) ?_
    show K _ _
    have := H.out _ (Ext.refl _)
    rw [HFR.out] at this
    obtain u12 := HU.out
    rw [u12] at this
    exact this
  · rintro L A W K hL hC hW ⟨V, rfl, HS, HV, x0, x1⟩ hK
    have e12 : V 12 = .bool false := HV 12 _ rfl (hW 12 rfl)
    have e13 : V 13 = wv (a) := HV 13 _ rfl (hW 13 rfl)
    have e14 : V 14 = wv (b) := HV 14 _ rfl (hW 14 rfl)
    have u12 : (upd V 15 (.int .i64 (cmpN a b))) 12 = .bool false := e12
    have u13 : (upd V 15 (.int .i64 (cmpN a b))) 13 = wv (a) := e13
    have u14 : (upd V 15 (.int .i64 (cmpN a b))) 14 = wv (b) := e14
    have HU := Lib.hid (show (upd V 15 (.int .i64 (cmpN a b))) 12 = .bool false ∧ (upd V 15 (.int .i64 (cmpN a b))) 13 = wv (a) ∧ (upd V 15 (.int .i64 (cmpN a b))) 14 = wv (b) from ⟨u12, u13, u14⟩)
    clear u12 u13 u14
    have H := Lib.hid (show ∀ W', Ext W W' → K (fr (upd V 15 (.int .i64 (cmpN a b)))) W' from fun W' he => hK _ _ ⟨upd V 15 (.int .i64 (cmpN a b)), rfl, HS.ext he, HV.up 15 _ (fun x hx => Option.some.inj hx), Bs.ext x0 he, Bs.ext x1 he⟩)
    clear hK hC hW hL HV 
    rw [HFR.out]
    rw [e12, e13, e14]
    clear e12 e13 e14
    go_wp2_with fail
    refine (cmp_any a b _ ha hb).mono ?_
    rintro e wx ⟨rfl, he⟩
    have := H.out _ he
    clear H
    go_wp2_with fail
    show K _ _
    rw [HFR.out] at this
    obtain ⟨u12, u13, u14⟩ := HU.out
    rw [u12, u13, u14] at this
    exact this
  · rintro L A W K hL hC hW ⟨V, rfl, HS, HV, x0, x1⟩ hK
    have e12 : V 12 = .bool false := HV 12 _ rfl (hW 12 rfl)
    have e15 : V 15 = .int .i64 (cmpN a b) := HV 15 _ rfl (hW 15 rfl)
    have u12 : (upd V 16 (.bool (a == b))) 12 = .bool false := e12
    have u15 : (upd V 16 (.bool (a == b))) 15 = .int .i64 (cmpN a b) := e15
    have HU := Lib.hid (show (upd V 16 (.bool (a == b))) 12 = .bool false ∧ (upd V 16 (.bool (a == b))) 15 = .int .i64 (cmpN a b) from ⟨u12, u15⟩)
    clear u12 u15
    have H := Lib.hid (show ∀ W', Ext W W' → K (fr (upd V 16 (.bool (a == b)))) W' from fun W' he => hK _ _ ⟨upd V 16 (.bool (a == b)), rfl, HS.ext he, HV.up 16 _ (fun x hx => Option.some.inj hx), Bs.ext x0 he, Bs.ext x1 he⟩)
    clear hK hC hW hL HV 
    rw [HFR.out]
    rw [e12, e15]
    clear e12 e15
    go_wp2_with fail
    show K _ _
    have := H.out _ (Ext.refl _)
    rw [HFR.out] at this
    obtain ⟨u12, u15⟩ := HU.out
    rw [u12, u15] at this
    exact this
  · rintro L A W K hL hC hW ⟨V, rfl, HS, HV, x0, x1⟩ hK
    have e12 : V 12 = .bool false := HV 12 _ rfl (hW 12 rfl)
    have u12 : (upd V 17 (wv (a))) 12 = .bool false := e12
    have HU := Lib.hid (show (upd V 17 (wv (a))) 12 = .bool false from u12)
    clear u12
    have H := Lib.hid (show ∀ W', Ext W W' → K (fr (upd V 17 (wv (a)))) W' from fun W' he => hK _ _ ⟨upd V 17 (wv (a)), rfl, HS.ext he, HV.up 17 _ (fun x hx => Option.some.inj hx), Bs.ext x0 he, Bs.ext x1 he⟩)
    clear hK hC hW hL HV 
    rw [HFR.out]
    rw [e12]
    clear e12
    refine wpList_load_wordG rfl 27 25 (.tmp 3) rfl Try.underlying27 winfo (w.heap.size) (a) rfl (HS.at (w.heap.size) (a) (by simp)) ?_
    show K _ _
    have := H.out _ (Ext.refl _)
    rw [HFR.out] at this
    obtain u12 := HU.out
    rw [u12] at this
    exact this
  · rintro L A W K hL hC hW ⟨V, rfl, HS, HV, x0, x1⟩ hK
    have e12 : V 12 = .bool false := HV 12 _ rfl (hW 12 rfl)
    have u12 : (upd V 18 (wv (b))) 12 = .bool false := e12
    have HU := Lib.hid (show (upd V 18 (wv (b))) 12 = .bool false from u12)
    clear u12
    have H := Lib.hid (show ∀ W', Ext W W' → K (fr (upd V 18 (wv (b)))) W' from fun W' he => hK _ _ ⟨upd V 18 (wv (b)), rfl, HS.ext he, HV.up 18 _ (fun x hx => Option.some.inj hx), Bs.ext x0 he, Bs.ext x1 he⟩)
    clear hK hC hW hL HV 
    rw [HFR.out]
    rw [e12]
    clear e12
    refine wpList_load_wordG rfl 27 25 (.tmp 4) rfl Try.underlying27 winfo (w.heap.size + 1) (b) rfl (HS.at (w.heap.size + 1) (b) (by simp)) ?_
    show K _ _
    have := H.out _ (Ext.refl _)
    rw [HFR.out] at this
    obtain u12 := HU.out
    rw [u12] at this
    exact this
  · rintro L A W K hL hC hW ⟨V, rfl, HS, HV, x0, x1⟩ hK
    have e12 : V 12 = .bool false := HV 12 _ rfl (hW 12 rfl)
    have e17 : V 17 = wv (a) := HV 17 _ rfl (hW 17 rfl)
    have e18 : V 18 = wv (b) := HV 18 _ rfl (hW 18 rfl)
    have u12 : (upd V 19 (.bool (a == b))) 12 = .bool false := e12
    have u17 : (upd V 19 (.bool (a == b))) 17 = wv (a) := e17
    have u18 : (upd V 19 (.bool (a == b))) 18 = wv (b) := e18
    have HU := Lib.hid (show (upd V 19 (.bool (a == b))) 12 = .bool false ∧ (upd V 19 (.bool (a == b))) 17 = wv (a) ∧ (upd V 19 (.bool (a == b))) 18 = wv (b) from ⟨u12, u17, u18⟩)
    clear u12 u17 u18
    have H := Lib.hid (show ∀ W', Ext W W' → K (fr (upd V 19 (.bool (a == b)))) W' from fun W' he => hK _ _ ⟨upd V 19 (.bool (a == b)), rfl, HS.ext he, HV.up 19 _ (fun x hx => Option.some.inj hx), Bs.ext x0 he, Bs.ext x1 he⟩)
    clear hK hC hW hL HV 
    rw [HFR.out]
    rw [e12, e17, e18]
    clear e12 e17 e18
    refine wpList_eql_word rfl (.tmp 37) (.tmp 38) rfl (a) (b) (ha) (hb) rfl rfl ?_
    show K _ _
    have := H.out _ (Ext.refl _)
    rw [HFR.out] at this
    obtain ⟨u12, u17, u18⟩ := HU.out
    rw [u12, u17, u18] at this
    exact this
  · rintro L A W K hL hC hW ⟨V, rfl, HS, HV, x0, x1⟩ hK
    have e12 : V 12 = .bool false := HV 12 _ rfl (hW 12 rfl)
    have e16 : V 16 = .bool (a == b) := HV 16 _ rfl (hW 16 rfl)
    have e19 : V 19 = .bool (a == b) := HV 19 _ rfl (hW 19 rfl)
    have u12 : (upd V 20 (.bool false)) 12 = .bool false := e12
    have u16 : (upd V 20 (.bool false)) 16 = .bool (a == b) := e16
    have u19 : (upd V 20 (.bool false)) 19 = .bool (a == b) := e19
    have HU := Lib.hid (show (upd V 20 (.bool false)) 12 = .bool false ∧ (upd V 20 (.bool false)) 16 = .bool (a == b) ∧ (upd V 20 (.bool false)) 19 = .bool (a == b) from ⟨u12, u16, u19⟩)
    clear u12 u16 u19
    have H := Lib.hid (show ∀ W', Ext W W' → K (fr (upd V 20 (.bool false))) W' from fun W' he => hK _ _ ⟨upd V 20 (.bool false), rfl, HS.ext he, HV.up 20 _ (fun x hx => Option.some.inj hx), Bs.ext x0 he, Bs.ext x1 he⟩)
    clear hK hC hW hL HV 
    rw [HFR.out]
    rw [e12, e16, e19]
    clear e12 e16 e19
    go_wp2_with fail
    show K _ _
    have := H.out _ (Ext.refl _)
    rw [HFR.out] at this
    obtain ⟨u12, u16, u19⟩ := HU.out
    rw [u12, u16, u19] at this
    exact this
  · rintro L A W K hL hC hW ⟨V, rfl, HS, HV, x0, x1⟩ hK
    have e12 : V 12 = .bool false := HV 12 _ rfl (hW 12 rfl)
    have e20 : V 20 = .bool false := HV 20 _ rfl (hW 20 rfl)
    have u12 : (upd V 21 (.bool false)) 12 = .bool false := e12
    have u20 : (upd V 21 (.bool false)) 20 = .bool false := e20
    have HU := Lib.hid (show (upd V 21 (.bool false)) 12 = .bool false ∧ (upd V 21 (.bool false)) 20 = .bool false from ⟨u12, u20⟩)
    clear u12 u20
    have H := Lib.hid (show ∀ W', Ext W W' → K (fr (upd V 21 (.bool false))) W' from fun W' he => hK _ _ ⟨upd V 21 (.bool false), rfl, HS.ext he, HV.up 21 _ (fun x hx => Option.some.inj hx), Bs.ext x0 he, Bs.ext x1 he⟩)
    clear hK hC hW hL HV 
    rw [HFR.out]
    rw [e12, e20]
    clear e12 e20
    go_wp2_with fail
    show K _ _
    have := H.out _ (Ext.refl _)
    rw [HFR.out] at this
    obtain ⟨u12, u20⟩ := HU.out
    rw [u12, u20] at this
    exact this
  · rintro L A W hL ⟨V, rfl, HS, HV, x0, x1⟩
    have e0 : V 0 = .slice A1 32 c1 := HV 0 _ rfl (hL 0 (by simp))
    have e1 : V 1 = .int .i64 32 := HV 1 _ rfl (hL 1 (by simp))
    have e2 : V 2 = .bool false := HV 2 _ rfl (hL 2 (by simp))
    have e3 : V 3 = .bool false := HV 3 _ rfl (hL 3 (by simp))
    have e4 : V 4 = wv (a) := HV 4 _ rfl (hL 4 (by simp))
    have e5 : V 5 = wv (b) := HV 5 _ rfl (hL 5 (by simp))
    have e6 : V 6 = .int .i64 (cmpN a b) := HV 6 _ rfl (hL 6 (by simp))
    have e7 : V 7 = .slice A1 32 c1 := HV 7 _ rfl (hL 7 (by simp))
    have e8 : V 8 = .slice A2 32 c2 := HV 8 _ rfl (hL 8 (by simp))
    have e9 : V 9 = .int .i64 (cmpN a b) := HV 9 _ rfl (hL 9 (by simp))
    have e10 : V 10 = .bool false := HV 10 _ rfl (hL 10 (by simp))
    have e11 : V 11 = .bool false := HV 11 _ rfl (hL 11 (by simp))
    have e12 : V 12 = .bool false := HV 12 _ rfl (hL 12 (by simp))
    have e13 : V 13 = wv (a) := HV 13 _ rfl (hL 13 (by simp))
    have e14 : V 14 = wv (b) := HV 14 _ rfl (hL 14 (by simp))
    have e15 : V 15 = .int .i64 (cmpN a b) := HV 15 _ rfl (hL 15 (by simp))
    have e16 : V 16 = .bool (a == b) := HV 16 _ rfl (hL 16 (by simp))
    have e17 : V 17 = wv (a) := HV 17 _ rfl (hL 17 (by simp))
    have e18 : V 18 = wv (b) := HV 18 _ rfl (hL 18 (by simp))
    have e19 : V 19 = .bool (a == b) := HV 19 _ rfl (hL 19 (by simp))
    have e20 : V 20 = .bool false := HV 20 _ rfl (hL 20 (by simp))
    have e21 : V 21 = .bool false := HV 21 _ rfl (hL 21 (by simp))
    rw [HFR.out]
    rw [e0, e1, e2, e3, e4, e5, e6, e7, e8, e9, e10, e11, e12, e13, e14, e15, e16, e17, e18, e19, e20, e21]
    clear hL HV e0 e1 e2 e3 e4 e5 e6 e7 e8 e9 e10 e11 e12 e13 e14 e15 e16 e17 e18 e19 e20 e21
    clear HFR hc0
    go_wp2_with fail
    refine (read_any _ _ _ x0).mono ?_
    rintro e w6 ⟨rfl, he⟩
    rw [bytes_read a ha]
    have HS := HS.ext he
    clear he x0 x1 HB1 HB2
    go_wp2_with (first
      | ((with_reducible refine wpList_store_word rfl rfl 27 (.tmp 9) (.tmp 45) rfl winfo (w6.heap.size) (wc 0) (a) ?_ ?_ ?_ ?_ ?_); (exact rfl); (exact rfl); (exact heap_alloc_new _ _); (exact rfl); intro w7 kz gz; have HS := HS.put gz kz; clear kz gz)
      | ((with_reducible refine wpList_load_wordG ?_ 27 25 (.tmp 3) rfl Try.underlying27 winfo (w.heap.size) (a) ?_ ?_ ?_); (exact rfl); (exact rfl); (exact HS.at (w.heap.size) (a) (by simp))))
    refine (text_any a _).mono ?_
    rintro e w8 ⟨rfl, he⟩
    have HS := HS.ext he
    clear he
    have hsr1 : (⟨(txtL a (List.range 64)).toArray⟩ : ByteArray).size ≤ 9223372036854775807 := by
      have h1 := txtL_len a (List.range 64)
      rw [List.length_range] at h1
      show (txtL a (List.range 64)).toArray.size ≤ _
      rw [List.size_toArray]
      omega
    have hsr2 : parseV (⟨(txtL a (List.range 64)).toArray⟩ : ByteArray).toList = .tuple #[wv a, .int .i64 0] := by rw [ByteArray.toList_mk, text_read a ha]
    generalize (⟨(txtL a (List.range 64)).toArray⟩ : ByteArray) = sr at *
    have HSR := Lib.hid hsr2
    clear hsr2
    go_wp2_with fail
    refine (parse_any sr _ hsr1).mono ?_
    rintro e w9 ⟨rfl, he⟩
    rw [HSR.out]
    have HS := HS.ext he
    clear he HSR hsr1
    have hbf : (a != a) = false := bne_self_eq_false a
    go_wp2_with (first
      | ((with_reducible refine wpList_store_word rfl rfl 27 (.tmp 11) (.tmp 51) rfl winfo (w9.heap.size) (wc 0) (a) ?_ ?_ ?_ ?_ ?_); (exact rfl); (exact rfl); (exact heap_alloc_new _ _); (exact rfl); intro w10 kz gz; have HS := HS.put gz kz; clear kz gz)
      | ((with_reducible refine wpList_load_wordG ?_ 27 25 (.tmp 9) rfl Try.underlying27 winfo (w6.heap.size) (a) ?_ ?_ ?_); (exact rfl); (exact rfl); (exact HS.at (w6.heap.size) (a) (by simp)))
      | ((with_reducible refine wpList_load_wordG ?_ 27 25 (.tmp 3) rfl Try.underlying27 winfo (w.heap.size) (a) ?_ ?_ ?_); (exact rfl); (exact rfl); (exact HS.at (w.heap.size) (a) (by simp)))
      | ((with_reducible refine wpList_load_wordG ?_ 27 25 (.tmp 11) rfl Try.underlying27 winfo (w9.heap.size) (a) ?_ ?_ ?_); (exact rfl); (exact rfl); (exact HS.at (w9.heap.size) (a) (by simp)))
      | ((with_reducible refine wpList_neq_word ?_ (.tmp 60) (.tmp 61) rfl (a) (a) (ha) (ha) ?_ ?_ ?_); (exact rfl); (exact rfl); (exact rfl); rw [hbf])
      | ((with_reducible refine wpList_neq_word ?_ (.tmp 65) (.tmp 66) rfl (a) (a) (ha) (ha) ?_ ?_ ?_); (exact rfl); (exact rfl); (exact rfl); rw [hbf]))
    have hts : (s.extract 0 (min ((s.size : Nat) : Int) 80).toNat).size ≤ 9223372036854775807 := by
      rw [ByteArray.size_extract]
      omega
    generalize (s.extract 0 (min ((s.size : Nat) : Int) 80).toNat) = t at *
    refine (parse_any t _ hts).mono ?_
    rintro e w11 ⟨rfl, he⟩
    have HS := HS.ext he
    clear he hts hbf
    by_cases hg : badS t.toList = false ∧ t.toList.all isDg = true
    · obtain ⟨ht, hlt⟩ := read_text _ hg.1 hg.2
      rw [parseV_ok _ hg.1 hg.2]
      have HT := Lib.hid ht
      clear hg ht
      generalize hexN t.toList = h at *
      go_wp2_with (first
        | ((with_reducible refine wpList_store_word rfl rfl 27 (.tmp 13) (.tmp 77) rfl winfo (w11.heap.size) (wc 0) (h) ?_ ?_ ?_ ?_ ?_); (exact rfl); (exact rfl); (exact heap_alloc_new _ _); (exact rfl); intro w12 kz gz; have HS := HS.put gz kz; clear kz gz)
        | ((with_reducible refine wpList_load_wordG ?_ 27 25 (.tmp 13) rfl Try.underlying27 winfo (w11.heap.size) (h) ?_ ?_ ?_); (exact rfl); (exact rfl); (exact HS.at (w11.heap.size) (h) (by simp))))
      refine (text_any h _).mono ?_
      rintro e w13 ⟨rfl, he⟩
      have HS := HS.ext he
      clear he
      rw [HT.out]
      have he : ((⟨t.toList.toArray⟩ : ByteArray).toList == t.toList) = true := by rw [ByteArray.toList_mk]; exact beq_self_eq_true _
      generalize (⟨t.toList.toArray⟩ : ByteArray) = t2 at *
      go_wp2_with fail
      go_ret
      exact ⟨rfl, HS.2⟩
    · rw [show parseV t.toList = .tuple #[wv 0, .int .i64 2] by unfold parseV; rw [if_neg hg]]
      clear hg
      go_wp2_with (first
        | ((with_reducible refine wpList_store_word rfl rfl 27 (.tmp 13) (.tmp 77) rfl winfo (w11.heap.size) (wc 0) (0) ?_ ?_ ?_ ?_ ?_); (exact rfl); (exact rfl); (exact heap_alloc_new _ _); (exact rfl); intro w12 kz gz; have HS := HS.put gz kz; clear kz gz))
      go_ret
      exact ⟨rfl, HS.2⟩

theorem back_told (W : World) (args : Array Value) (h : Told Try.f12 W args) : Calls Try.prog 12 args W (RetT W) := by
  obtain ⟨H, enc, base, ds, p, hval, hA⟩ := h
  rw [Try.params12] at hA hval
  obtain ⟨v0, v1, v2, d0, d1, d2, p0, p1, p2, rfl, rfl, rfl, h0, h1, h2⟩ := trodAll_three hA
  obtain ⟨a, ha, rfl⟩ := word_came (hval 0 _ v0 rfl rfl) h0
  obtain ⟨b, hb, rfl⟩ := word_came (hval 1 _ v1 rfl rfl) h1
  obtain ⟨s, rfl, _, _, hs⟩ := Go.ChangeMaps.open_string Try.underlying9 (hval 2 _ v2 rfl rfl) h2
  unfold maxLen at hs
  exact back_walk a b s W ha hb hs

theorem back_spec (H : Type) : ∀ ds : List (DataW H), ds.length = Try.f12.params.toList.length → Rows.wordBackSpec.fn H ds = { results := [.lit (.bool true)], args := ds }
  | [_, _, _], _ => rfl
  | [], h | [_], h | [_, _], h | _ :: _ :: _ :: _ :: _, h => by rw [Try.params12] at h; simp at h

set_option maxRecDepth 100000 in
theorem wordBack_holds : Rows.WordBackSaid :=
  OpenClaim.holds_of_wide 12 Try.f12 rfl rfl rfl rfl rfl rfl rfl ⟨rfl, rfl, rfl, rfl, rfl⟩ rfl rfl rfl rfl rfl (by kernel_rfl) Try.func12 (by kernel_rfl)
    (of_decide_eq_true (by kernel_rfl)) (by unfold Func.isWrapper; first | (rw [if_pos (by decide +kernel)]; kernel_rfl) | (rw [if_neg (by decide +kernel)]; exact ⟨rfl, rfl⟩))
    (fun os started H enc _ => law_lifted started (by kernel_rfl) Try.func12 rfl rfl (back_spec H) (of_decide_eq_true (by kernel_rfl))
      (ChangeSpec.witness6 (enc := enc) (C := Try.checked) false ⟨#[], #[.agg #[.int .u64 0, .int .u64 0, .int .u64 0, .int .u64 0], .agg #[.int .u64 0, .int .u64 0, .int .u64 0, .int .u64 0], .string ⟨#[]⟩], []⟩ 8 (by kernel_rfl) (by kernel_rfl) (by kernel_rfl) (by kernel_rfl)) back_told)
end Go.Proofs.Ytiadabjmkabcfaa
