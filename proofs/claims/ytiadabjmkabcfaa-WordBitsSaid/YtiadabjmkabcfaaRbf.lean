/- The law WordBits: what is done bit by bit is what the document says, for every row of pairs. -/
import Derived.Test.YtiadabjmkabcfaaRbd
import Derived.Test.YtiadabjmkabcfaaRbe
namespace Go.Proofs.Ytiadabjmkabcfaa
open Go.ChangeShapes Go.WideShapes Go.ChangeAt Go.RowKit

theorem pinfo : (Try.prog.info? 28).map (·.size) = some 8 := by kernel_rfl
theorem wpList_load_pair {ops : Array Oper} {rest : List Oper} {o : Oper} {a : Act} {W : World} {Q : Exit → Act → World → Prop} (hgd : o.guard = none) (x : Operand) (ho : o.op = .load 28 x) (g off m n : Nat) (hx : a.eval x = .pointer (some ⟨g, off, none⟩))
    (hr : W.rangeAt g off (pcs m n).toList) (h : wpList Try.prog ops Q rest (a.put o.dst (.agg (pcs m n))) W) : wpList Try.prog ops Q (o :: rest) a W :=
  wpList_load_mid hgd 28 x ho g off hx (pcs m n).toList _ hr Try.underlying28 rfl pinfo h
theorem wpList_store_pair {ops : Array Oper} {rest : List Oper} {o : Oper} {a : Act} {W : World} {Q : Exit → Act → World → Prop} (hgd : o.guard = none) (hd : o.dst = none) (x y : Operand) (ho : o.op = .store 28 x y) (g m n : Nat)
    (hx : a.eval x = .pointer (some ⟨g, 0, none⟩)) (hy : a.eval y = .agg (pcs m n)) (hg : Cs W g 28 #[.int .u64 0, .int .u64 0, .int .u64 0, .int .u64 0, .int .u64 0, .int .u64 0, .int .u64 0, .int .u64 0])
    (h : ∀ W', Cs W' g 28 (pcs m n) → W.grownBy W' (some g) → wpList Try.prog ops Q rest a W') : wpList Try.prog ops Q (o :: rest) a W := by
  have h' : ∀ W', Cs W' g 28 (pcs m n) → W.grownBy W' (some g) → wpList Try.prog ops Q rest (a.put o.dst undef) W' := by rw [hd]; exact h
  refine wpList_store_row hgd 28 x y ho g (pcs m n) hx hy 28 _ hg pinfo rfl (pcs_one m n) (h' _ ?_ ?_)
  · exact setRow_heap W g _ _ 28 (0, 0) hg
  · exact ⟨rfl, rfl, rfl, by simp [World.setRow], fun k _ hk => setRow_other W g k _ (fun e => hk (by simp [e]))⟩
theorem refShl_m (a n m : Nat) (w : World) (hm : min n 256 = m) (ha : a < M256) : Calls Try.prog 37 #[wv a, .int .i64 (m : Nat)] w (RetW w (shlN a n)) := hm ▸ refShl_w a n w ha
theorem refShr_m (a n m : Nat) (w : World) (hm : min n 256 = m) (ha : a < M256) : Calls Try.prog 39 #[wv a, .int .i64 (m : Nat)] w (RetW w (shrN a n)) := hm ▸ refShr_w a n w ha

set_option maxRecDepth 100000 in
set_option maxHeartbeats 8000000 in
theorem bits_walk (v : Value) (l : List (Nat × Nat)) (w : World) (h : Ps w v l) : Calls Try.prog 5 #[v] w (RetT w) := by
  obtain ⟨hlt0, A, c, rfl, hlc, hcm, hcell⟩ := h
  unfold maxLen at hcm
  have HC := Lib.hid hcell
  have HLT := Lib.hid hlt0
  clear hcell hlt0
  go_enter Try.func5, Try.ntmps5
  go_wp2_with fail
  refine (wakes_any _).mono ?_
  rintro e w1 ⟨rfl, he1⟩
  have HE1 := Lib.hid he1
  clear he1
  go_wp2_with fail
  go_loopw [3, 4, 5, 6, 7, 12, 13, 14, 15, 16, 17, 18, 19, 20, 21, 22, 23, 24, 25, 26, 27, 28, 29, 30, 31, 32, 33, 34, 35, 36, 37, 38, 39, 40, 41, 42, 43, 44, 45, 46, 47, 48, 49, 50, 51, 52, 53, 54, 55, 56, 57, 58, 59, 60, 61, 62, 63, 64, 65, 66, 67, 68, 69, 70, 71, 72, 73] (fun _ _ _ _ _ i _ _ _ _ _ _ _ _ _ _ _ _ _ _ _ _ _ _ _ _ _ _ _ _ _ _ _ _ _ _ _ _ _ _ _ _ _ _ _ _ _ _ _ _ _ _ _ _ _ _ _ _ _ _ _ _ _ _ _ _ _ wr => ∃ k : Nat, k ≤ l.length ∧ k ≤ 12 ∧ i = .int .i64 k ∧ Hid (Ext w wr)) (fun _ _ _ _ _ i _ _ _ _ _ _ _ _ _ _ _ _ _ _ _ _ _ _ _ _ _ _ _ _ _ _ _ _ _ _ _ _ _ _ _ _ _ _ _ _ _ _ _ _ _ _ _ _ _ _ _ _ _ _ _ _ _ _ _ _ _ _ => l.length - (intOf i).toNat)
  case atStart => exact ⟨0, by omega, by omega, rfl, HE1⟩
  case round =>
    clear HE1
    obtain ⟨k, hk, hk12, rfl, he⟩ := hrel
    by_cases hlt : k < l.length
    · obtain ⟨b0, o0, rfl, hc⟩ := HC.out (by omega)
      obtain ⟨⟨a, b⟩, hp⟩ : ∃ p, l[k]? = some p := ⟨l[k], List.getElem?_eq_getElem hlt⟩
      obtain ⟨ha, hb⟩ := HLT.out (a, b) (List.mem_of_getElem? hp)
      have HR := Lib.hid (show wr.rangeAt b0 (o0 + k * 8) (pcs a b).toList from fun j u hu => he.out.cell (hc k (a, b) hp j u hu))
      clear hc hp
      dsimp only at ha hb
      by_cases h12 : k = 12
      · have hd : ((k : Int) == 12) = true := by rw [h12]; rfl
        clear h12 hk12
        go_wp2_with (first
        | ((with_reducible refine wpList_load_pair ?_ (.tmp 15) rfl b0 (o0 + k * 8) a b ?_ ?_ ?_); (exact rfl); (exact rfl); (exact HR.out))
        | ((with_reducible refine wpList_store_pair ?_ ?_ (.tmp 4) (.tmp 16) rfl wr.heap.size a b ?_ ?_ ?_ ?_); (exact rfl); (exact rfl); (exact rfl); (exact rfl); (exact Cs.new _ _ _ _ rfl); intro w4 kp gp; have KP := Lib.hid kp; have HE4 := Lib.hid ((he.out.alloc _).grown gp he.out.size); clear kp gp))
        go_ret
        exact ⟨rfl, HE4.out⟩
      · have hd : ((k : Int) == 12) = false := by simp only [beq_eq_false_iff_ne]; omega
        go_wp2_with (first
        | ((with_reducible refine wpList_load_pair ?_ (.tmp 15) rfl b0 (o0 + k * 8) a b ?_ ?_ ?_); (exact rfl); (exact rfl); (exact HR.out))
        | ((with_reducible refine wpList_store_pair ?_ ?_ (.tmp 4) (.tmp 16) rfl wr.heap.size a b ?_ ?_ ?_ ?_); (exact rfl); (exact rfl); (exact rfl); (exact rfl); (exact Cs.new _ _ _ _ rfl); intro w4 kp gp; have KP := Lib.hid kp; have HE4 := Lib.hid ((he.out.alloc _).grown gp he.out.size); clear kp gp))
        have HS : Ks w [] w4 := ⟨fun x hx => (by cases hx), HE4.out⟩
        clear HE4 HR he
        refine wp_named fun a0 ha0 => ?_
        obtain ⟨fr, hfr⟩ : ∃ fr : (Nat → Value) → Act, ∀ V, fr V = ((((((a0.put (some 19) (V 0)).put (some 20) (V 1)).put (some 21) (V 2)).put (some 22) (V 3)).put (some 5) (V 4)).put (some 6) (V 5)) := ⟨fun V => ((((((a0.put (some 19) (V 0)).put (some 20) (V 1)).put (some 21) (V 2)).put (some 22) (V 3)).put (some 5) (V 4)).put (some 6) (V 5)), fun _ => rfl⟩
        rw [ha0] at hfr
        simp only [Act.put, List.setIfInBounds_toArray, List.set_cons_zero, List.set_cons_succ] at hfr
        have HFR := Lib.hid hfr
        clear hfr
        refine wp_region_inv (by kernel_rfl) (by kernel_rfl) (fun L A W => ∃ V : Nat → Value, A = fr V ∧ Ks w [] W ∧ Vals (fun j => ([some (.pointer (some ⟨wr.heap.size, 0, none⟩)), some (wv (a)), some (.pointer (some ⟨wr.heap.size, 4, none⟩)), some (wv (b)), none, none, none, none] : List (Option Value)).getD j none) L V ∧ Cs W wr.heap.size 28 (pcs a b) ∧ (L 4 = true → Nb w ((wr.heap.size, 0) :: []) W (V 4) (L 6) (a)) ∧ (L 5 = true → Nb w ((wr.heap.size, 0) :: []) W (V 5) (L 7) (b)) ∧ (L 4 = true → L 5 = true → V 4 ≠ V 5)) ?_ ⟨?_, ?_, ?_, ?_, ?_, ?_, ?_, ?_, trivial⟩ ?_
        · refine ⟨fun j => a0.tmps.getD (([19, 20, 21, 22, 5, 6, 0, 0] : List Nat).getD j 0) undef, ?_, HS.drew, Vals.no _ _ _ (far_none _ _ rfl), Cs.ext (KP.out) (Ext.refl _).drew, fun h => absurd h (by decide), fun h => absurd h (by decide), fun h => absurd h (by decide)⟩
          rw [HFR.out, ha0]
          rfl
        all_goals clear ha0
        · rintro L A W K hL hC hW ⟨V, rfl, HS, HV, xp, f4, f5, d4_5⟩ hK
          have H := Lib.hid (show ∀ W', Ext W W' → K (fr (upd V 0 (.pointer (some ⟨wr.heap.size, 0, none⟩)))) W' from fun W' he => hK _ _ ⟨upd V 0 (.pointer (some ⟨wr.heap.size, 0, none⟩)), rfl, HS.ext he, HV.up 0 _ (fun x hx => Option.some.inj hx), Cs.ext xp he, fun h => Nb.weak (Nb.ext (f4 (more_ne h rfl)) he) (fun h => more_ne h rfl), fun h => Nb.weak (Nb.ext (f5 (more_ne h rfl)) he) (fun h => more_ne h rfl), fun h h' => d4_5 (more_ne h rfl) (more_ne h' rfl)⟩)
          clear hK hC hW hL HV f4 f5 d4_5
          rw [HFR.out]
          go_wp2_with fail
          show K _ _
          have := H.out _ (Ext.refl _)
          rw [HFR.out] at this
          exact this
        · rintro L A W K hL hC hW ⟨V, rfl, HS, HV, xp, f4, f5, d4_5⟩ hK
          have e0 : V 0 = .pointer (some ⟨wr.heap.size, 0, none⟩) := HV 0 _ rfl (hW 0 rfl)
          have u0 : (upd V 1 (wv (a))) 0 = .pointer (some ⟨wr.heap.size, 0, none⟩) := e0
          have HU := Lib.hid (show (upd V 1 (wv (a))) 0 = .pointer (some ⟨wr.heap.size, 0, none⟩) from u0)
          clear u0
          have H := Lib.hid (show ∀ W', Ext W W' → K (fr (upd V 1 (wv (a)))) W' from fun W' he => hK _ _ ⟨upd V 1 (wv (a)), rfl, HS.ext he, HV.up 1 _ (fun x hx => Option.some.inj hx), Cs.ext xp he, fun h => Nb.weak (Nb.ext (f4 (more_ne h rfl)) he) (fun h => more_ne h rfl), fun h => Nb.weak (Nb.ext (f5 (more_ne h rfl)) he) (fun h => more_ne h rfl), fun h h' => d4_5 (more_ne h rfl) (more_ne h' rfl)⟩)
          clear hK hC hW hL HV f4 f5 d4_5
          rw [HFR.out]
          rw [e0]
          clear e0
          refine wpList_load_half rfl (.tmp 19) rfl (wr.heap.size) 0 (a) rfl (pcs_fst xp) ?_
          show K _ _
          have := H.out _ (Ext.refl _)
          rw [HFR.out] at this
          obtain u0 := HU.out
          rw [u0] at this
          exact this
        · rintro L A W K hL hC hW ⟨V, rfl, HS, HV, xp, f4, f5, d4_5⟩ hK
          have H := Lib.hid (show ∀ W', Ext W W' → K (fr (upd V 2 (.pointer (some ⟨wr.heap.size, 4, none⟩)))) W' from fun W' he => hK _ _ ⟨upd V 2 (.pointer (some ⟨wr.heap.size, 4, none⟩)), rfl, HS.ext he, HV.up 2 _ (fun x hx => Option.some.inj hx), Cs.ext xp he, fun h => Nb.weak (Nb.ext (f4 (more_ne h rfl)) he) (fun h => more_ne h rfl), fun h => Nb.weak (Nb.ext (f5 (more_ne h rfl)) he) (fun h => more_ne h rfl), fun h h' => d4_5 (more_ne h rfl) (more_ne h' rfl)⟩)
          clear hK hC hW hL HV f4 f5 d4_5
          rw [HFR.out]
          go_wp2_with fail
          show K _ _
          have := H.out _ (Ext.refl _)
          rw [HFR.out] at this
          exact this
        · rintro L A W K hL hC hW ⟨V, rfl, HS, HV, xp, f4, f5, d4_5⟩ hK
          have e2 : V 2 = .pointer (some ⟨wr.heap.size, 4, none⟩) := HV 2 _ rfl (hW 2 rfl)
          have u2 : (upd V 3 (wv (b))) 2 = .pointer (some ⟨wr.heap.size, 4, none⟩) := e2
          have HU := Lib.hid (show (upd V 3 (wv (b))) 2 = .pointer (some ⟨wr.heap.size, 4, none⟩) from u2)
          clear u2
          have H := Lib.hid (show ∀ W', Ext W W' → K (fr (upd V 3 (wv (b)))) W' from fun W' he => hK _ _ ⟨upd V 3 (wv (b)), rfl, HS.ext he, HV.up 3 _ (fun x hx => Option.some.inj hx), Cs.ext xp he, fun h => Nb.weak (Nb.ext (f4 (more_ne h rfl)) he) (fun h => more_ne h rfl), fun h => Nb.weak (Nb.ext (f5 (more_ne h rfl)) he) (fun h => more_ne h rfl), fun h h' => d4_5 (more_ne h rfl) (more_ne h' rfl)⟩)
          clear hK hC hW hL HV f4 f5 d4_5
          rw [HFR.out]
          rw [e2]
          clear e2
          refine wpList_load_half rfl (.tmp 21) rfl (wr.heap.size) 4 (b) rfl (pcs_snd xp) ?_
          show K _ _
          have := H.out _ (Ext.refl _)
          rw [HFR.out] at this
          obtain u2 := HU.out
          rw [u2] at this
          exact this
        · rintro L A W K hL hC hW ⟨V, rfl, HS, HV, xp, f4, f5, d4_5⟩ hK
          have H := Lib.hid (hK _ _ ⟨upd V 4 (.pointer (some ⟨W.heap.size, 0, none⟩)), rfl, HS.al _, HV.up 4 _ (fun x hx => absurd hx (by intro h; cases h)), Cs.alloc xp _, fun _ => Nb.new2 HS.2.size (fresh_cons xp.lt HS) _ (by show More L 4 6 = false; unfold More; rw [if_neg (by decide)]; exact hC.no hL 6 _ rfl rfl) _, fun h => Nb.weak (Nb.ext (f5 (more_ne h rfl)) ((Ext.refl W).alloc _)) (fun h => more_ne h rfl), fun _ h => (f5 (more_ne h rfl)).fresh.symm⟩)
          clear hK hC hW hL HV f4 f5 d4_5
          rw [HFR.out]
          go_wp2_with fail
          show K _ _
          have := H.out
          rw [HFR.out] at this
          exact this
        · rintro L A W K hL hC hW ⟨V, rfl, HS, HV, xp, f4, f5, d4_5⟩ hK
          have H := Lib.hid (hK _ _ ⟨upd V 5 (.pointer (some ⟨W.heap.size, 0, none⟩)), rfl, HS.al _, HV.up 5 _ (fun x hx => absurd hx (by intro h; cases h)), Cs.alloc xp _, fun h => Nb.weak (Nb.ext (f4 (more_ne h rfl)) ((Ext.refl W).alloc _)) (fun h => more_ne h rfl), fun _ => Nb.new2 HS.2.size (fresh_cons xp.lt HS) _ (by show More L 5 7 = false; unfold More; rw [if_neg (by decide)]; exact hC.no hL 7 _ rfl rfl) _, fun h _ => (f4 (more_ne h rfl)).fresh⟩)
          clear hK hC hW hL HV f4 f5 d4_5
          rw [HFR.out]
          go_wp2_with fail
          show K _ _
          have := H.out
          rw [HFR.out] at this
          exact this
        · rintro L A W K hL hC hW ⟨V, rfl, HS, HV, xp, f4, f5, d4_5⟩ hK
          have e1 : V 1 = wv (a) := HV 1 _ rfl (hW 1 rfl)
          have u1 : (V) 1 = wv (a) := e1
          have HU := Lib.hid (show (V) 1 = wv (a) from u1)
          clear u1
          rw [HFR.out]
          rw [e1]
          refine wpList_store_nb2 rfl rfl (.tmp 5) (.tmp 20) rfl winfo HS (fun x hx => List.mem_cons_of_mem _ hx) (f4 (hW 4 rfl)) rfl rfl ?_
          intro W' g hg hne HS' hn hgr
          show K _ _
          have := hK _ _ ⟨V, rfl, HS', HV.st 6 rfl, xp.kept hgr (some_ne (hne (wr.heap.size, 0) List.mem_cons_self)), fun _ => hn _, fun h => (Nb.other (f5 (more_ne h rfl)) hgr (by rw [← hg]; exact (d4_5 (hW 4 rfl) (more_ne h rfl)).symm)).weak (fun h => more_ne h rfl), fun h h' => d4_5 (more_ne h rfl) (more_ne h' rfl)⟩
          rw [HFR.out] at this
          obtain u1 := HU.out
          rw [u1] at this
          exact this
        · rintro L A W K hL hC hW ⟨V, rfl, HS, HV, xp, f4, f5, d4_5⟩ hK
          have e3 : V 3 = wv (b) := HV 3 _ rfl (hW 3 rfl)
          have u3 : (V) 3 = wv (b) := e3
          have HU := Lib.hid (show (V) 3 = wv (b) from u3)
          clear u3
          rw [HFR.out]
          rw [e3]
          refine wpList_store_nb2 rfl rfl (.tmp 6) (.tmp 22) rfl winfo HS (fun x hx => List.mem_cons_of_mem _ hx) (f5 (hW 5 rfl)) rfl rfl ?_
          intro W' g hg hne HS' hn hgr
          show K _ _
          have := hK _ _ ⟨V, rfl, HS', HV.st 7 rfl, xp.kept hgr (some_ne (hne (wr.heap.size, 0) List.mem_cons_self)), fun h => (Nb.other (f4 (more_ne h rfl)) hgr (by rw [← hg]; exact d4_5 (more_ne h rfl) (hW 5 rfl))).weak (fun h => more_ne h rfl), fun _ => hn _, fun h h' => d4_5 (more_ne h rfl) (more_ne h' rfl)⟩
          rw [HFR.out] at this
          obtain u3 := HU.out
          rw [u3] at this
          exact this
        · rintro L A W hL ⟨V, rfl, HS, HV, xp, f4, f5, d4_5⟩
          have e0 : V 0 = .pointer (some ⟨wr.heap.size, 0, none⟩) := HV 0 _ rfl (hL 0 (by simp))
          have e1 : V 1 = wv (a) := HV 1 _ rfl (hL 1 (by simp))
          have e2 : V 2 = .pointer (some ⟨wr.heap.size, 4, none⟩) := HV 2 _ rfl (hL 2 (by simp))
          have e3 : V 3 = wv (b) := HV 3 _ rfl (hL 3 (by simp))
          obtain ⟨g5, p5, hb5, hn5, k5⟩ := Nb.done (Nb.weak (f4 (hL 4 (by simp))) (fun _ => hL 6 (by simp)))
          obtain ⟨g6, p6, hb6, hn6, k6⟩ := Nb.done (Nb.weak (f5 (hL 5 (by simp))) (fun _ => hL 7 (by simp)))
          rw [HFR.out]
          rw [e0, e1, e2, e3, p5, p6]
          clear hL HV e0 e1 e2 e3 p5 p6 f4 f5 d4_5
          have HS := HS.two k5 k6
          clear HFR hb5 hn5 k5 hb6 hn6 k6 KP xp
          go_wp2_with fail
          refine wp_named fun a0 ha0 => ?_
          obtain ⟨fr, hfr⟩ : ∃ fr : (Nat → Value) → Act, ∀ V, fr V = ((((((((((((((((((((((((((((((((a0.put (some 23) (V 0)).put (some 24) (V 1)).put (some 25) (V 2)).put (some 26) (V 3)).put (some 27) (V 4)).put (some 28) (V 5)).put (some 29) (V 6)).put (some 30) (V 7)).put (some 31) (V 8)).put (some 32) (V 9)).put (some 33) (V 10)).put (some 34) (V 11)).put (some 35) (V 12)).put (some 36) (V 13)).put (some 37) (V 14)).put (some 38) (V 15)).put (some 39) (V 16)).put (some 40) (V 17)).put (some 41) (V 18)).put (some 42) (V 19)).put (some 43) (V 20)).put (some 44) (V 21)).put (some 45) (V 22)).put (some 46) (V 23)).put (some 47) (V 24)).put (some 48) (V 25)).put (some 49) (V 26)).put (some 50) (V 27)).put (some 51) (V 28)).put (some 52) (V 29)).put (some 53) (V 30)).put (some 54) (V 31)) := ⟨fun V => ((((((((((((((((((((((((((((((((a0.put (some 23) (V 0)).put (some 24) (V 1)).put (some 25) (V 2)).put (some 26) (V 3)).put (some 27) (V 4)).put (some 28) (V 5)).put (some 29) (V 6)).put (some 30) (V 7)).put (some 31) (V 8)).put (some 32) (V 9)).put (some 33) (V 10)).put (some 34) (V 11)).put (some 35) (V 12)).put (some 36) (V 13)).put (some 37) (V 14)).put (some 38) (V 15)).put (some 39) (V 16)).put (some 40) (V 17)).put (some 41) (V 18)).put (some 42) (V 19)).put (some 43) (V 20)).put (some 44) (V 21)).put (some 45) (V 22)).put (some 46) (V 23)).put (some 47) (V 24)).put (some 48) (V 25)).put (some 49) (V 26)).put (some 50) (V 27)).put (some 51) (V 28)).put (some 52) (V 29)).put (some 53) (V 30)).put (some 54) (V 31)), fun _ => rfl⟩
          rw [ha0] at hfr
          simp only [Act.put, List.setIfInBounds_toArray, List.set_cons_zero, List.set_cons_succ] at hfr
          have HFR := Lib.hid hfr
          clear hfr
          refine wp_region_inv (by kernel_rfl) (by kernel_rfl) (fun L A W => ∃ V : Nat → Value, A = fr V ∧ Ks w [(g5, a), (g6, b)] W ∧ Vals (fun j => ([some (wv (a)), some (wv (b)), some (wv (andN a b)), some (wv (a)), some (wv (b)), some (wv (andN a b)), some (.bool false), some (.bool false), some (wv (a)), some (wv (b)), some (wv (orN a b)), some (wv (a)), some (wv (b)), some (wv (orN a b)), some (.bool false), some (.bool false), some (.bool false), some (wv (a)), some (wv (b)), some (wv (xorN a b)), some (wv (a)), some (wv (b)), some (wv (xorN a b)), some (.bool false), some (.bool false), some (.bool false), some (wv (a)), some (wv (notN a)), some (wv (a)), some (wv (notN a)), some (.bool false), some (.bool false)] : List (Option Value)).getD j none) L V) ?_ ⟨?_, ?_, ?_, ?_, ?_, ?_, ?_, ?_, ?_, ?_, ?_, ?_, ?_, ?_, ?_, ?_, ?_, ?_, ?_, ?_, ?_, ?_, ?_, ?_, ?_, ?_, ?_, ?_, ?_, ?_, ?_, ?_, trivial⟩ ?_
          · refine ⟨fun j => a0.tmps.getD (([23, 24, 25, 26, 27, 28, 29, 30, 31, 32, 33, 34, 35, 36, 37, 38, 39, 40, 41, 42, 43, 44, 45, 46, 47, 48, 49, 50, 51, 52, 53, 54] : List Nat).getD j 0) undef, ?_, HS.drew, Vals.no _ _ _ (far_none _ _ rfl)⟩
            rw [HFR.out, ha0]
            rfl
          all_goals clear ha0
          · rintro L A W K hL hC hW ⟨V, rfl, HS, HV⟩ hK
            have H := Lib.hid (show ∀ W', Ext W W' → K (fr (upd V 0 (wv (a)))) W' from fun W' he => hK _ _ ⟨upd V 0 (wv (a)), rfl, HS.ext he, HV.up 0 _ (fun x hx => Option.some.inj hx)⟩)
            clear hK hC hW hL HV 
            rw [HFR.out]
            refine wpList_load_wordG rfl 27 25 (.tmp 5) rfl Try.underlying27 winfo (g5) (a) rfl (HS.at (g5) (a) (by simp)) ?_
            show K _ _
            have := H.out _ (Ext.refl _)
            rw [HFR.out] at this
            exact this
          · rintro L A W K hL hC hW ⟨V, rfl, HS, HV⟩ hK
            have H := Lib.hid (show ∀ W', Ext W W' → K (fr (upd V 1 (wv (b)))) W' from fun W' he => hK _ _ ⟨upd V 1 (wv (b)), rfl, HS.ext he, HV.up 1 _ (fun x hx => Option.some.inj hx)⟩)
            clear hK hC hW hL HV 
            rw [HFR.out]
            refine wpList_load_wordG rfl 27 25 (.tmp 6) rfl Try.underlying27 winfo (g6) (b) rfl (HS.at (g6) (b) (by simp)) ?_
            show K _ _
            have := H.out _ (Ext.refl _)
            rw [HFR.out] at this
            exact this
          · rintro L A W K hL hC hW ⟨V, rfl, HS, HV⟩ hK
            have e0 : V 0 = wv (a) := HV 0 _ rfl (hW 0 rfl)
            have e1 : V 1 = wv (b) := HV 1 _ rfl (hW 1 rfl)
            have u0 : (upd V 2 (wv (andN a b))) 0 = wv (a) := e0
            have u1 : (upd V 2 (wv (andN a b))) 1 = wv (b) := e1
            have HU := Lib.hid (show (upd V 2 (wv (andN a b))) 0 = wv (a) ∧ (upd V 2 (wv (andN a b))) 1 = wv (b) from ⟨u0, u1⟩)
            clear u0 u1
            have H := Lib.hid (show ∀ W', Ext W W' → K (fr (upd V 2 (wv (andN a b)))) W' from fun W' he => hK _ _ ⟨upd V 2 (wv (andN a b)), rfl, HS.ext he, HV.up 2 _ (fun x hx => Option.some.inj hx)⟩)
            clear hK hC hW hL HV 
            rw [HFR.out]
            rw [e0, e1]
            clear e0 e1
            go_wp2_with fail
            refine (and_w a b _ ha hb).mono ?_
            rintro e wx ⟨rfl, hlt, he⟩
            have := H.out _ he
            clear H
            go_wp2_with fail
            show K _ _
            rw [HFR.out] at this
            obtain ⟨u0, u1⟩ := HU.out
            rw [u0, u1] at this
            exact this
          · rintro L A W K hL hC hW ⟨V, rfl, HS, HV⟩ hK
            have H := Lib.hid (show ∀ W', Ext W W' → K (fr (upd V 3 (wv (a)))) W' from fun W' he => hK _ _ ⟨upd V 3 (wv (a)), rfl, HS.ext he, HV.up 3 _ (fun x hx => Option.some.inj hx)⟩)
            clear hK hC hW hL HV 
            rw [HFR.out]
            refine wpList_load_wordG rfl 27 25 (.tmp 5) rfl Try.underlying27 winfo (g5) (a) rfl (HS.at (g5) (a) (by simp)) ?_
            show K _ _
            have := H.out _ (Ext.refl _)
            rw [HFR.out] at this
            exact this
          · rintro L A W K hL hC hW ⟨V, rfl, HS, HV⟩ hK
            have H := Lib.hid (show ∀ W', Ext W W' → K (fr (upd V 4 (wv (b)))) W' from fun W' he => hK _ _ ⟨upd V 4 (wv (b)), rfl, HS.ext he, HV.up 4 _ (fun x hx => Option.some.inj hx)⟩)
            clear hK hC hW hL HV 
            rw [HFR.out]
            refine wpList_load_wordG rfl 27 25 (.tmp 6) rfl Try.underlying27 winfo (g6) (b) rfl (HS.at (g6) (b) (by simp)) ?_
            show K _ _
            have := H.out _ (Ext.refl _)
            rw [HFR.out] at this
            exact this
          · rintro L A W K hL hC hW ⟨V, rfl, HS, HV⟩ hK
            have e3 : V 3 = wv (a) := HV 3 _ rfl (hW 3 rfl)
            have e4 : V 4 = wv (b) := HV 4 _ rfl (hW 4 rfl)
            have u3 : (upd V 5 (wv (andN a b))) 3 = wv (a) := e3
            have u4 : (upd V 5 (wv (andN a b))) 4 = wv (b) := e4
            have HU := Lib.hid (show (upd V 5 (wv (andN a b))) 3 = wv (a) ∧ (upd V 5 (wv (andN a b))) 4 = wv (b) from ⟨u3, u4⟩)
            clear u3 u4
            have H := Lib.hid (show ∀ W', Ext W W' → K (fr (upd V 5 (wv (andN a b)))) W' from fun W' he => hK _ _ ⟨upd V 5 (wv (andN a b)), rfl, HS.ext he, HV.up 5 _ (fun x hx => Option.some.inj hx)⟩)
            clear hK hC hW hL HV 
            rw [HFR.out]
            rw [e3, e4]
            clear e3 e4
            go_wp2_with fail
            refine (refAnd_w a b _ ha hb).mono ?_
            rintro e wx ⟨rfl, hlt, he⟩
            have := H.out _ he
            clear H
            go_wp2_with fail
            show K _ _
            rw [HFR.out] at this
            obtain ⟨u3, u4⟩ := HU.out
            rw [u3, u4] at this
            exact this
          · rintro L A W K hL hC hW ⟨V, rfl, HS, HV⟩ hK
            have e2 : V 2 = wv (andN a b) := HV 2 _ rfl (hW 2 rfl)
            have e5 : V 5 = wv (andN a b) := HV 5 _ rfl (hW 5 rfl)
            have u2 : (upd V 6 (.bool false)) 2 = wv (andN a b) := e2
            have u5 : (upd V 6 (.bool false)) 5 = wv (andN a b) := e5
            have HU := Lib.hid (show (upd V 6 (.bool false)) 2 = wv (andN a b) ∧ (upd V 6 (.bool false)) 5 = wv (andN a b) from ⟨u2, u5⟩)
            clear u2 u5
            have H := Lib.hid (show ∀ W', Ext W W' → K (fr (upd V 6 (.bool false))) W' from fun W' he => hK _ _ ⟨upd V 6 (.bool false), rfl, HS.ext he, HV.up 6 _ (fun x hx => Option.some.inj hx)⟩)
            clear hK hC hW hL HV 
            rw [HFR.out]
            rw [e2, e5]
            clear e2 e5
            refine wpList_neq_word rfl (.tmp 25) (.tmp 28) rfl (andN a b) (andN a b) (andN_lt a b hb) (andN_lt a b hb) rfl rfl ?_
            rw [show ((andN a b) != (andN a b)) = false from bne_self_eq_false _]
            show K _ _
            have := H.out _ (Ext.refl _)
            rw [HFR.out] at this
            obtain ⟨u2, u5⟩ := HU.out
            rw [u2, u5] at this
            exact this
          · rintro L A W K hL hC hW ⟨V, rfl, HS, HV⟩ hK
            have e6 : V 6 = .bool false := HV 6 _ rfl (hW 6 rfl)
            have u6 : (upd V 7 (.bool false)) 6 = .bool false := e6
            have HU := Lib.hid (show (upd V 7 (.bool false)) 6 = .bool false from u6)
            clear u6
            have H := Lib.hid (show ∀ W', Ext W W' → K (fr (upd V 7 (.bool false))) W' from fun W' he => hK _ _ ⟨upd V 7 (.bool false), rfl, HS.ext he, HV.up 7 _ (fun x hx => Option.some.inj hx)⟩)
            clear hK hC hW hL HV 
            rw [HFR.out]
            rw [e6]
            clear e6
            go_wp2_with fail
            show K _ _
            have := H.out _ (Ext.refl _)
            rw [HFR.out] at this
            obtain u6 := HU.out
            rw [u6] at this
            exact this
          · rintro L A W K hL hC hW ⟨V, rfl, HS, HV⟩ hK
            have e7 : V 7 = .bool false := HV 7 _ rfl (hW 7 rfl)
            have u7 : (upd V 8 (wv (a))) 7 = .bool false := e7
            have HU := Lib.hid (show (upd V 8 (wv (a))) 7 = .bool false from u7)
            clear u7
            have H := Lib.hid (show ∀ W', Ext W W' → K (fr (upd V 8 (wv (a)))) W' from fun W' he => hK _ _ ⟨upd V 8 (wv (a)), rfl, HS.ext he, HV.up 8 _ (fun x hx => Option.some.inj hx)⟩)
            clear hK hC hW hL HV 
            rw [HFR.out]
            rw [e7]
            clear e7
            refine wpList_load_wordG rfl 27 25 (.tmp 5) rfl Try.underlying27 winfo (g5) (a) rfl (HS.at (g5) (a) (by simp)) ?_
            show K _ _
            have := H.out _ (Ext.refl _)
            rw [HFR.out] at this
            obtain u7 := HU.out
            rw [u7] at this
            exact this
          · rintro L A W K hL hC hW ⟨V, rfl, HS, HV⟩ hK
            have e7 : V 7 = .bool false := HV 7 _ rfl (hW 7 rfl)
            have u7 : (upd V 9 (wv (b))) 7 = .bool false := e7
            have HU := Lib.hid (show (upd V 9 (wv (b))) 7 = .bool false from u7)
            clear u7
            have H := Lib.hid (show ∀ W', Ext W W' → K (fr (upd V 9 (wv (b)))) W' from fun W' he => hK _ _ ⟨upd V 9 (wv (b)), rfl, HS.ext he, HV.up 9 _ (fun x hx => Option.some.inj hx)⟩)
            clear hK hC hW hL HV 
            rw [HFR.out]
            rw [e7]
            clear e7
            refine wpList_load_wordG rfl 27 25 (.tmp 6) rfl Try.underlying27 winfo (g6) (b) rfl (HS.at (g6) (b) (by simp)) ?_
            show K _ _
            have := H.out _ (Ext.refl _)
            rw [HFR.out] at this
            obtain u7 := HU.out
            rw [u7] at this
            exact this
          · rintro L A W K hL hC hW ⟨V, rfl, HS, HV⟩ hK
            have e7 : V 7 = .bool false := HV 7 _ rfl (hW 7 rfl)
            have e8 : V 8 = wv (a) := HV 8 _ rfl (hW 8 rfl)
            have e9 : V 9 = wv (b) := HV 9 _ rfl (hW 9 rfl)
            have u7 : (upd V 10 (wv (orN a b))) 7 = .bool false := e7
            have u8 : (upd V 10 (wv (orN a b))) 8 = wv (a) := e8
            have u9 : (upd V 10 (wv (orN a b))) 9 = wv (b) := e9
            have HU := Lib.hid (show (upd V 10 (wv (orN a b))) 7 = .bool false ∧ (upd V 10 (wv (orN a b))) 8 = wv (a) ∧ (upd V 10 (wv (orN a b))) 9 = wv (b) from ⟨u7, u8, u9⟩)
            clear u7 u8 u9
            have H := Lib.hid (show ∀ W', Ext W W' → K (fr (upd V 10 (wv (orN a b)))) W' from fun W' he => hK _ _ ⟨upd V 10 (wv (orN a b)), rfl, HS.ext he, HV.up 10 _ (fun x hx => Option.some.inj hx)⟩)
            clear hK hC hW hL HV 
            rw [HFR.out]
            rw [e7, e8, e9]
            clear e7 e8 e9
            go_wp2_with fail
            refine (or_w a b _ ha hb).mono ?_
            rintro e wx ⟨rfl, hlt, he⟩
            have := H.out _ he
            clear H
            go_wp2_with fail
            show K _ _
            rw [HFR.out] at this
            obtain ⟨u7, u8, u9⟩ := HU.out
            rw [u7, u8, u9] at this
            exact this
          · rintro L A W K hL hC hW ⟨V, rfl, HS, HV⟩ hK
            have e7 : V 7 = .bool false := HV 7 _ rfl (hW 7 rfl)
            have u7 : (upd V 11 (wv (a))) 7 = .bool false := e7
            have HU := Lib.hid (show (upd V 11 (wv (a))) 7 = .bool false from u7)
            clear u7
            have H := Lib.hid (show ∀ W', Ext W W' → K (fr (upd V 11 (wv (a)))) W' from fun W' he => hK _ _ ⟨upd V 11 (wv (a)), rfl, HS.ext he, HV.up 11 _ (fun x hx => Option.some.inj hx)⟩)
            clear hK hC hW hL HV 
            rw [HFR.out]
            rw [e7]
            clear e7
            refine wpList_load_wordG rfl 27 25 (.tmp 5) rfl Try.underlying27 winfo (g5) (a) rfl (HS.at (g5) (a) (by simp)) ?_
            show K _ _
            have := H.out _ (Ext.refl _)
            rw [HFR.out] at this
            obtain u7 := HU.out
            rw [u7] at this
            exact this
          · rintro L A W K hL hC hW ⟨V, rfl, HS, HV⟩ hK
            have e7 : V 7 = .bool false := HV 7 _ rfl (hW 7 rfl)
            have u7 : (upd V 12 (wv (b))) 7 = .bool false := e7
            have HU := Lib.hid (show (upd V 12 (wv (b))) 7 = .bool false from u7)
            clear u7
            have H := Lib.hid (show ∀ W', Ext W W' → K (fr (upd V 12 (wv (b)))) W' from fun W' he => hK _ _ ⟨upd V 12 (wv (b)), rfl, HS.ext he, HV.up 12 _ (fun x hx => Option.some.inj hx)⟩)
            clear hK hC hW hL HV 
            rw [HFR.out]
            rw [e7]
            clear e7
            refine wpList_load_wordG rfl 27 25 (.tmp 6) rfl Try.underlying27 winfo (g6) (b) rfl (HS.at (g6) (b) (by simp)) ?_
            show K _ _
            have := H.out _ (Ext.refl _)
            rw [HFR.out] at this
            obtain u7 := HU.out
            rw [u7] at this
            exact this
          · rintro L A W K hL hC hW ⟨V, rfl, HS, HV⟩ hK
            have e7 : V 7 = .bool false := HV 7 _ rfl (hW 7 rfl)
            have e11 : V 11 = wv (a) := HV 11 _ rfl (hW 11 rfl)
            have e12 : V 12 = wv (b) := HV 12 _ rfl (hW 12 rfl)
            have u7 : (upd V 13 (wv (orN a b))) 7 = .bool false := e7
            have u11 : (upd V 13 (wv (orN a b))) 11 = wv (a) := e11
            have u12 : (upd V 13 (wv (orN a b))) 12 = wv (b) := e12
            have HU := Lib.hid (show (upd V 13 (wv (orN a b))) 7 = .bool false ∧ (upd V 13 (wv (orN a b))) 11 = wv (a) ∧ (upd V 13 (wv (orN a b))) 12 = wv (b) from ⟨u7, u11, u12⟩)
            clear u7 u11 u12
            have H := Lib.hid (show ∀ W', Ext W W' → K (fr (upd V 13 (wv (orN a b)))) W' from fun W' he => hK _ _ ⟨upd V 13 (wv (orN a b)), rfl, HS.ext he, HV.up 13 _ (fun x hx => Option.some.inj hx)⟩)
            clear hK hC hW hL HV 
            rw [HFR.out]
            rw [e7, e11, e12]
            clear e7 e11 e12
            go_wp2_with fail
            refine (refOr_w a b _ ha hb).mono ?_
            rintro e wx ⟨rfl, hlt, he⟩
            have := H.out _ he
            clear H
            go_wp2_with fail
            show K _ _
            rw [HFR.out] at this
            obtain ⟨u7, u11, u12⟩ := HU.out
            rw [u7, u11, u12] at this
            exact this
          · rintro L A W K hL hC hW ⟨V, rfl, HS, HV⟩ hK
            have e7 : V 7 = .bool false := HV 7 _ rfl (hW 7 rfl)
            have e10 : V 10 = wv (orN a b) := HV 10 _ rfl (hW 10 rfl)
            have e13 : V 13 = wv (orN a b) := HV 13 _ rfl (hW 13 rfl)
            have u7 : (upd V 14 (.bool false)) 7 = .bool false := e7
            have u10 : (upd V 14 (.bool false)) 10 = wv (orN a b) := e10
            have u13 : (upd V 14 (.bool false)) 13 = wv (orN a b) := e13
            have HU := Lib.hid (show (upd V 14 (.bool false)) 7 = .bool false ∧ (upd V 14 (.bool false)) 10 = wv (orN a b) ∧ (upd V 14 (.bool false)) 13 = wv (orN a b) from ⟨u7, u10, u13⟩)
            clear u7 u10 u13
            have H := Lib.hid (show ∀ W', Ext W W' → K (fr (upd V 14 (.bool false))) W' from fun W' he => hK _ _ ⟨upd V 14 (.bool false), rfl, HS.ext he, HV.up 14 _ (fun x hx => Option.some.inj hx)⟩)
            clear hK hC hW hL HV 
            rw [HFR.out]
            rw [e7, e10, e13]
            clear e7 e10 e13
            refine wpList_neq_word rfl (.tmp 33) (.tmp 36) rfl (orN a b) (orN a b) (orN_lt a b ha hb) (orN_lt a b ha hb) rfl rfl ?_
            rw [show ((orN a b) != (orN a b)) = false from bne_self_eq_false _]
            show K _ _
            have := H.out _ (Ext.refl _)
            rw [HFR.out] at this
            obtain ⟨u7, u10, u13⟩ := HU.out
            rw [u7, u10, u13] at this
            exact this
          · rintro L A W K hL hC hW ⟨V, rfl, HS, HV⟩ hK
            have e7 : V 7 = .bool false := HV 7 _ rfl (hW 7 rfl)
            have e14 : V 14 = .bool false := HV 14 _ rfl (hW 14 rfl)
            have u7 : (upd V 15 (.bool false)) 7 = .bool false := e7
            have u14 : (upd V 15 (.bool false)) 14 = .bool false := e14
            have HU := Lib.hid (show (upd V 15 (.bool false)) 7 = .bool false ∧ (upd V 15 (.bool false)) 14 = .bool false from ⟨u7, u14⟩)
            clear u7 u14
            have H := Lib.hid (show ∀ W', Ext W W' → K (fr (upd V 15 (.bool false))) W' from fun W' he => hK _ _ ⟨upd V 15 (.bool false), rfl, HS.ext he, HV.up 15 _ (fun x hx => Option.some.inj hx)⟩)
            clear hK hC hW hL HV 
            rw [HFR.out]
            rw [e7, e14]
            clear e7 e14
            go_wp2_with fail
            show K _ _
            have := H.out _ (Ext.refl _)
            rw [HFR.out] at this
            obtain ⟨u7, u14⟩ := HU.out
            rw [u7, u14] at this
            exact this
          · rintro L A W K hL hC hW ⟨V, rfl, HS, HV⟩ hK
            have e15 : V 15 = .bool false := HV 15 _ rfl (hW 15 rfl)
            have u15 : (upd V 16 (.bool false)) 15 = .bool false := e15
            have HU := Lib.hid (show (upd V 16 (.bool false)) 15 = .bool false from u15)
            clear u15
            have H := Lib.hid (show ∀ W', Ext W W' → K (fr (upd V 16 (.bool false))) W' from fun W' he => hK _ _ ⟨upd V 16 (.bool false), rfl, HS.ext he, HV.up 16 _ (fun x hx => Option.some.inj hx)⟩)
            clear hK hC hW hL HV 
            rw [HFR.out]
            rw [e15]
            clear e15
            go_wp2_with fail
            show K _ _
            have := H.out _ (Ext.refl _)
            rw [HFR.out] at this
            obtain u15 := HU.out
            rw [u15] at this
            exact this
          · rintro L A W K hL hC hW ⟨V, rfl, HS, HV⟩ hK
            have e16 : V 16 = .bool false := HV 16 _ rfl (hW 16 rfl)
            have u16 : (upd V 17 (wv (a))) 16 = .bool false := e16
            have HU := Lib.hid (show (upd V 17 (wv (a))) 16 = .bool false from u16)
            clear u16
            have H := Lib.hid (show ∀ W', Ext W W' → K (fr (upd V 17 (wv (a)))) W' from fun W' he => hK _ _ ⟨upd V 17 (wv (a)), rfl, HS.ext he, HV.up 17 _ (fun x hx => Option.some.inj hx)⟩)
            clear hK hC hW hL HV 
            rw [HFR.out]
            rw [e16]
            clear e16
            refine wpList_load_wordG rfl 27 25 (.tmp 5) rfl Try.underlying27 winfo (g5) (a) rfl (HS.at (g5) (a) (by simp)) ?_
            show K _ _
            have := H.out _ (Ext.refl _)
            rw [HFR.out] at this
            obtain u16 := HU.out
            rw [u16] at this
            exact this
          · rintro L A W K hL hC hW ⟨V, rfl, HS, HV⟩ hK
            have e16 : V 16 = .bool false := HV 16 _ rfl (hW 16 rfl)
            have u16 : (upd V 18 (wv (b))) 16 = .bool false := e16
            have HU := Lib.hid (show (upd V 18 (wv (b))) 16 = .bool false from u16)
            clear u16
            have H := Lib.hid (show ∀ W', Ext W W' → K (fr (upd V 18 (wv (b)))) W' from fun W' he => hK _ _ ⟨upd V 18 (wv (b)), rfl, HS.ext he, HV.up 18 _ (fun x hx => Option.some.inj hx)⟩)
            clear hK hC hW hL HV 
            rw [HFR.out]
            rw [e16]
            clear e16
            refine wpList_load_wordG rfl 27 25 (.tmp 6) rfl Try.underlying27 winfo (g6) (b) rfl (HS.at (g6) (b) (by simp)) ?_
            show K _ _
            have := H.out _ (Ext.refl _)
            rw [HFR.out] at this
            obtain u16 := HU.out
            rw [u16] at this
            exact this
          · rintro L A W K hL hC hW ⟨V, rfl, HS, HV⟩ hK
            have e16 : V 16 = .bool false := HV 16 _ rfl (hW 16 rfl)
            have e17 : V 17 = wv (a) := HV 17 _ rfl (hW 17 rfl)
            have e18 : V 18 = wv (b) := HV 18 _ rfl (hW 18 rfl)
            have u16 : (upd V 19 (wv (xorN a b))) 16 = .bool false := e16
            have u17 : (upd V 19 (wv (xorN a b))) 17 = wv (a) := e17
            have u18 : (upd V 19 (wv (xorN a b))) 18 = wv (b) := e18
            have HU := Lib.hid (show (upd V 19 (wv (xorN a b))) 16 = .bool false ∧ (upd V 19 (wv (xorN a b))) 17 = wv (a) ∧ (upd V 19 (wv (xorN a b))) 18 = wv (b) from ⟨u16, u17, u18⟩)
            clear u16 u17 u18
            have H := Lib.hid (show ∀ W', Ext W W' → K (fr (upd V 19 (wv (xorN a b)))) W' from fun W' he => hK _ _ ⟨upd V 19 (wv (xorN a b)), rfl, HS.ext he, HV.up 19 _ (fun x hx => Option.some.inj hx)⟩)
            clear hK hC hW hL HV 
            rw [HFR.out]
            rw [e16, e17, e18]
            clear e16 e17 e18
            go_wp2_with fail
            refine (xor_w a b _ ha hb).mono ?_
            rintro e wx ⟨rfl, hlt, he⟩
            have := H.out _ he
            clear H
            go_wp2_with fail
            show K _ _
            rw [HFR.out] at this
            obtain ⟨u16, u17, u18⟩ := HU.out
            rw [u16, u17, u18] at this
            exact this
          · rintro L A W K hL hC hW ⟨V, rfl, HS, HV⟩ hK
            have e16 : V 16 = .bool false := HV 16 _ rfl (hW 16 rfl)
            have u16 : (upd V 20 (wv (a))) 16 = .bool false := e16
            have HU := Lib.hid (show (upd V 20 (wv (a))) 16 = .bool false from u16)
            clear u16
            have H := Lib.hid (show ∀ W', Ext W W' → K (fr (upd V 20 (wv (a)))) W' from fun W' he => hK _ _ ⟨upd V 20 (wv (a)), rfl, HS.ext he, HV.up 20 _ (fun x hx => Option.some.inj hx)⟩)
            clear hK hC hW hL HV 
            rw [HFR.out]
            rw [e16]
            clear e16
            refine wpList_load_wordG rfl 27 25 (.tmp 5) rfl Try.underlying27 winfo (g5) (a) rfl (HS.at (g5) (a) (by simp)) ?_
            show K _ _
            have := H.out _ (Ext.refl _)
            rw [HFR.out] at this
            obtain u16 := HU.out
            rw [u16] at this
            exact this
          · rintro L A W K hL hC hW ⟨V, rfl, HS, HV⟩ hK
            have e16 : V 16 = .bool false := HV 16 _ rfl (hW 16 rfl)
            have u16 : (upd V 21 (wv (b))) 16 = .bool false := e16
            have HU := Lib.hid (show (upd V 21 (wv (b))) 16 = .bool false from u16)
            clear u16
            have H := Lib.hid (show ∀ W', Ext W W' → K (fr (upd V 21 (wv (b)))) W' from fun W' he => hK _ _ ⟨upd V 21 (wv (b)), rfl, HS.ext he, HV.up 21 _ (fun x hx => Option.some.inj hx)⟩)
            clear hK hC hW hL HV 
            rw [HFR.out]
            rw [e16]
            clear e16
            refine wpList_load_wordG rfl 27 25 (.tmp 6) rfl Try.underlying27 winfo (g6) (b) rfl (HS.at (g6) (b) (by simp)) ?_
            show K _ _
            have := H.out _ (Ext.refl _)
            rw [HFR.out] at this
            obtain u16 := HU.out
            rw [u16] at this
            exact this
          · rintro L A W K hL hC hW ⟨V, rfl, HS, HV⟩ hK
            have e16 : V 16 = .bool false := HV 16 _ rfl (hW 16 rfl)
            have e20 : V 20 = wv (a) := HV 20 _ rfl (hW 20 rfl)
            have e21 : V 21 = wv (b) := HV 21 _ rfl (hW 21 rfl)
            have u16 : (upd V 22 (wv (xorN a b))) 16 = .bool false := e16
            have u20 : (upd V 22 (wv (xorN a b))) 20 = wv (a) := e20
            have u21 : (upd V 22 (wv (xorN a b))) 21 = wv (b) := e21
            have HU := Lib.hid (show (upd V 22 (wv (xorN a b))) 16 = .bool false ∧ (upd V 22 (wv (xorN a b))) 20 = wv (a) ∧ (upd V 22 (wv (xorN a b))) 21 = wv (b) from ⟨u16, u20, u21⟩)
            clear u16 u20 u21
            have H := Lib.hid (show ∀ W', Ext W W' → K (fr (upd V 22 (wv (xorN a b)))) W' from fun W' he => hK _ _ ⟨upd V 22 (wv (xorN a b)), rfl, HS.ext he, HV.up 22 _ (fun x hx => Option.some.inj hx)⟩)
            clear hK hC hW hL HV 
            rw [HFR.out]
            rw [e16, e20, e21]
            clear e16 e20 e21
            go_wp2_with fail
            refine (refXor_w a b _ ha hb).mono ?_
            rintro e wx ⟨rfl, hlt, he⟩
            have := H.out _ he
            clear H
            go_wp2_with fail
            show K _ _
            rw [HFR.out] at this
            obtain ⟨u16, u20, u21⟩ := HU.out
            rw [u16, u20, u21] at this
            exact this
          · rintro L A W K hL hC hW ⟨V, rfl, HS, HV⟩ hK
            have e16 : V 16 = .bool false := HV 16 _ rfl (hW 16 rfl)
            have e19 : V 19 = wv (xorN a b) := HV 19 _ rfl (hW 19 rfl)
            have e22 : V 22 = wv (xorN a b) := HV 22 _ rfl (hW 22 rfl)
            have u16 : (upd V 23 (.bool false)) 16 = .bool false := e16
            have u19 : (upd V 23 (.bool false)) 19 = wv (xorN a b) := e19
            have u22 : (upd V 23 (.bool false)) 22 = wv (xorN a b) := e22
            have HU := Lib.hid (show (upd V 23 (.bool false)) 16 = .bool false ∧ (upd V 23 (.bool false)) 19 = wv (xorN a b) ∧ (upd V 23 (.bool false)) 22 = wv (xorN a b) from ⟨u16, u19, u22⟩)
            clear u16 u19 u22
            have H := Lib.hid (show ∀ W', Ext W W' → K (fr (upd V 23 (.bool false))) W' from fun W' he => hK _ _ ⟨upd V 23 (.bool false), rfl, HS.ext he, HV.up 23 _ (fun x hx => Option.some.inj hx)⟩)
            clear hK hC hW hL HV 
            rw [HFR.out]
            rw [e16, e19, e22]
            clear e16 e19 e22
            refine wpList_neq_word rfl (.tmp 42) (.tmp 45) rfl (xorN a b) (xorN a b) (xorN_lt a b ha hb) (xorN_lt a b ha hb) rfl rfl ?_
            rw [show ((xorN a b) != (xorN a b)) = false from bne_self_eq_false _]
            show K _ _
            have := H.out _ (Ext.refl _)
            rw [HFR.out] at this
            obtain ⟨u16, u19, u22⟩ := HU.out
            rw [u16, u19, u22] at this
            exact this
          · rintro L A W K hL hC hW ⟨V, rfl, HS, HV⟩ hK
            have e16 : V 16 = .bool false := HV 16 _ rfl (hW 16 rfl)
            have e23 : V 23 = .bool false := HV 23 _ rfl (hW 23 rfl)
            have u16 : (upd V 24 (.bool false)) 16 = .bool false := e16
            have u23 : (upd V 24 (.bool false)) 23 = .bool false := e23
            have HU := Lib.hid (show (upd V 24 (.bool false)) 16 = .bool false ∧ (upd V 24 (.bool false)) 23 = .bool false from ⟨u16, u23⟩)
            clear u16 u23
            have H := Lib.hid (show ∀ W', Ext W W' → K (fr (upd V 24 (.bool false))) W' from fun W' he => hK _ _ ⟨upd V 24 (.bool false), rfl, HS.ext he, HV.up 24 _ (fun x hx => Option.some.inj hx)⟩)
            clear hK hC hW hL HV 
            rw [HFR.out]
            rw [e16, e23]
            clear e16 e23
            go_wp2_with fail
            show K _ _
            have := H.out _ (Ext.refl _)
            rw [HFR.out] at this
            obtain ⟨u16, u23⟩ := HU.out
            rw [u16, u23] at this
            exact this
          · rintro L A W K hL hC hW ⟨V, rfl, HS, HV⟩ hK
            have e24 : V 24 = .bool false := HV 24 _ rfl (hW 24 rfl)
            have u24 : (upd V 25 (.bool false)) 24 = .bool false := e24
            have HU := Lib.hid (show (upd V 25 (.bool false)) 24 = .bool false from u24)
            clear u24
            have H := Lib.hid (show ∀ W', Ext W W' → K (fr (upd V 25 (.bool false))) W' from fun W' he => hK _ _ ⟨upd V 25 (.bool false), rfl, HS.ext he, HV.up 25 _ (fun x hx => Option.some.inj hx)⟩)
            clear hK hC hW hL HV 
            rw [HFR.out]
            rw [e24]
            clear e24
            go_wp2_with fail
            show K _ _
            have := H.out _ (Ext.refl _)
            rw [HFR.out] at this
            obtain u24 := HU.out
            rw [u24] at this
            exact this
          · rintro L A W K hL hC hW ⟨V, rfl, HS, HV⟩ hK
            have e25 : V 25 = .bool false := HV 25 _ rfl (hW 25 rfl)
            have u25 : (upd V 26 (wv (a))) 25 = .bool false := e25
            have HU := Lib.hid (show (upd V 26 (wv (a))) 25 = .bool false from u25)
            clear u25
            have H := Lib.hid (show ∀ W', Ext W W' → K (fr (upd V 26 (wv (a)))) W' from fun W' he => hK _ _ ⟨upd V 26 (wv (a)), rfl, HS.ext he, HV.up 26 _ (fun x hx => Option.some.inj hx)⟩)
            clear hK hC hW hL HV 
            rw [HFR.out]
            rw [e25]
            clear e25
            refine wpList_load_wordG rfl 27 25 (.tmp 5) rfl Try.underlying27 winfo (g5) (a) rfl (HS.at (g5) (a) (by simp)) ?_
            show K _ _
            have := H.out _ (Ext.refl _)
            rw [HFR.out] at this
            obtain u25 := HU.out
            rw [u25] at this
            exact this
          · rintro L A W K hL hC hW ⟨V, rfl, HS, HV⟩ hK
            have e25 : V 25 = .bool false := HV 25 _ rfl (hW 25 rfl)
            have e26 : V 26 = wv (a) := HV 26 _ rfl (hW 26 rfl)
            have u25 : (upd V 27 (wv (notN a))) 25 = .bool false := e25
            have u26 : (upd V 27 (wv (notN a))) 26 = wv (a) := e26
            have HU := Lib.hid (show (upd V 27 (wv (notN a))) 25 = .bool false ∧ (upd V 27 (wv (notN a))) 26 = wv (a) from ⟨u25, u26⟩)
            clear u25 u26
            have H := Lib.hid (show ∀ W', Ext W W' → K (fr (upd V 27 (wv (notN a)))) W' from fun W' he => hK _ _ ⟨upd V 27 (wv (notN a)), rfl, HS.ext he, HV.up 27 _ (fun x hx => Option.some.inj hx)⟩)
            clear hK hC hW hL HV 
            rw [HFR.out]
            rw [e25, e26]
            clear e25 e26
            go_wp2_with fail
            refine (not_w a _ ha).mono ?_
            rintro e wx ⟨rfl, hlt, he⟩
            have := H.out _ he
            clear H
            go_wp2_with fail
            show K _ _
            rw [HFR.out] at this
            obtain ⟨u25, u26⟩ := HU.out
            rw [u25, u26] at this
            exact this
          · rintro L A W K hL hC hW ⟨V, rfl, HS, HV⟩ hK
            have e25 : V 25 = .bool false := HV 25 _ rfl (hW 25 rfl)
            have u25 : (upd V 28 (wv (a))) 25 = .bool false := e25
            have HU := Lib.hid (show (upd V 28 (wv (a))) 25 = .bool false from u25)
            clear u25
            have H := Lib.hid (show ∀ W', Ext W W' → K (fr (upd V 28 (wv (a)))) W' from fun W' he => hK _ _ ⟨upd V 28 (wv (a)), rfl, HS.ext he, HV.up 28 _ (fun x hx => Option.some.inj hx)⟩)
            clear hK hC hW hL HV 
            rw [HFR.out]
            rw [e25]
            clear e25
            refine wpList_load_wordG rfl 27 25 (.tmp 5) rfl Try.underlying27 winfo (g5) (a) rfl (HS.at (g5) (a) (by simp)) ?_
            show K _ _
            have := H.out _ (Ext.refl _)
            rw [HFR.out] at this
            obtain u25 := HU.out
            rw [u25] at this
            exact this
          · rintro L A W K hL hC hW ⟨V, rfl, HS, HV⟩ hK
            have e25 : V 25 = .bool false := HV 25 _ rfl (hW 25 rfl)
            have e28 : V 28 = wv (a) := HV 28 _ rfl (hW 28 rfl)
            have u25 : (upd V 29 (wv (notN a))) 25 = .bool false := e25
            have u28 : (upd V 29 (wv (notN a))) 28 = wv (a) := e28
            have HU := Lib.hid (show (upd V 29 (wv (notN a))) 25 = .bool false ∧ (upd V 29 (wv (notN a))) 28 = wv (a) from ⟨u25, u28⟩)
            clear u25 u28
            have H := Lib.hid (show ∀ W', Ext W W' → K (fr (upd V 29 (wv (notN a)))) W' from fun W' he => hK _ _ ⟨upd V 29 (wv (notN a)), rfl, HS.ext he, HV.up 29 _ (fun x hx => Option.some.inj hx)⟩)
            clear hK hC hW hL HV 
            rw [HFR.out]
            rw [e25, e28]
            clear e25 e28
            go_wp2_with fail
            refine (refNot_w a _ ha).mono ?_
            rintro e wx ⟨rfl, hlt, he⟩
            have := H.out _ he
            clear H
            go_wp2_with fail
            show K _ _
            rw [HFR.out] at this
            obtain ⟨u25, u28⟩ := HU.out
            rw [u25, u28] at this
            exact this
          · rintro L A W K hL hC hW ⟨V, rfl, HS, HV⟩ hK
            have e25 : V 25 = .bool false := HV 25 _ rfl (hW 25 rfl)
            have e27 : V 27 = wv (notN a) := HV 27 _ rfl (hW 27 rfl)
            have e29 : V 29 = wv (notN a) := HV 29 _ rfl (hW 29 rfl)
            have u25 : (upd V 30 (.bool false)) 25 = .bool false := e25
            have u27 : (upd V 30 (.bool false)) 27 = wv (notN a) := e27
            have u29 : (upd V 30 (.bool false)) 29 = wv (notN a) := e29
            have HU := Lib.hid (show (upd V 30 (.bool false)) 25 = .bool false ∧ (upd V 30 (.bool false)) 27 = wv (notN a) ∧ (upd V 30 (.bool false)) 29 = wv (notN a) from ⟨u25, u27, u29⟩)
            clear u25 u27 u29
            have H := Lib.hid (show ∀ W', Ext W W' → K (fr (upd V 30 (.bool false))) W' from fun W' he => hK _ _ ⟨upd V 30 (.bool false), rfl, HS.ext he, HV.up 30 _ (fun x hx => Option.some.inj hx)⟩)
            clear hK hC hW hL HV 
            rw [HFR.out]
            rw [e25, e27, e29]
            clear e25 e27 e29
            refine wpList_neq_word rfl (.tmp 50) (.tmp 52) rfl (notN a) (notN a) (notN_lt a) (notN_lt a) rfl rfl ?_
            rw [show ((notN a) != (notN a)) = false from bne_self_eq_false _]
            show K _ _
            have := H.out _ (Ext.refl _)
            rw [HFR.out] at this
            obtain ⟨u25, u27, u29⟩ := HU.out
            rw [u25, u27, u29] at this
            exact this
          · rintro L A W K hL hC hW ⟨V, rfl, HS, HV⟩ hK
            have e25 : V 25 = .bool false := HV 25 _ rfl (hW 25 rfl)
            have e30 : V 30 = .bool false := HV 30 _ rfl (hW 30 rfl)
            have u25 : (upd V 31 (.bool false)) 25 = .bool false := e25
            have u30 : (upd V 31 (.bool false)) 30 = .bool false := e30
            have HU := Lib.hid (show (upd V 31 (.bool false)) 25 = .bool false ∧ (upd V 31 (.bool false)) 30 = .bool false from ⟨u25, u30⟩)
            clear u25 u30
            have H := Lib.hid (show ∀ W', Ext W W' → K (fr (upd V 31 (.bool false))) W' from fun W' he => hK _ _ ⟨upd V 31 (.bool false), rfl, HS.ext he, HV.up 31 _ (fun x hx => Option.some.inj hx)⟩)
            clear hK hC hW hL HV 
            rw [HFR.out]
            rw [e25, e30]
            clear e25 e30
            go_wp2_with fail
            show K _ _
            have := H.out _ (Ext.refl _)
            rw [HFR.out] at this
            obtain ⟨u25, u30⟩ := HU.out
            rw [u25, u30] at this
            exact this
          · rintro L A W hL ⟨V, rfl, HS, HV⟩
            have e0 : V 0 = wv (a) := HV 0 _ rfl (hL 0 (by simp))
            have e1 : V 1 = wv (b) := HV 1 _ rfl (hL 1 (by simp))
            have e2 : V 2 = wv (andN a b) := HV 2 _ rfl (hL 2 (by simp))
            have e3 : V 3 = wv (a) := HV 3 _ rfl (hL 3 (by simp))
            have e4 : V 4 = wv (b) := HV 4 _ rfl (hL 4 (by simp))
            have e5 : V 5 = wv (andN a b) := HV 5 _ rfl (hL 5 (by simp))
            have e6 : V 6 = .bool false := HV 6 _ rfl (hL 6 (by simp))
            have e7 : V 7 = .bool false := HV 7 _ rfl (hL 7 (by simp))
            have e8 : V 8 = wv (a) := HV 8 _ rfl (hL 8 (by simp))
            have e9 : V 9 = wv (b) := HV 9 _ rfl (hL 9 (by simp))
            have e10 : V 10 = wv (orN a b) := HV 10 _ rfl (hL 10 (by simp))
            have e11 : V 11 = wv (a) := HV 11 _ rfl (hL 11 (by simp))
            have e12 : V 12 = wv (b) := HV 12 _ rfl (hL 12 (by simp))
            have e13 : V 13 = wv (orN a b) := HV 13 _ rfl (hL 13 (by simp))
            have e14 : V 14 = .bool false := HV 14 _ rfl (hL 14 (by simp))
            have e15 : V 15 = .bool false := HV 15 _ rfl (hL 15 (by simp))
            have e16 : V 16 = .bool false := HV 16 _ rfl (hL 16 (by simp))
            have e17 : V 17 = wv (a) := HV 17 _ rfl (hL 17 (by simp))
            have e18 : V 18 = wv (b) := HV 18 _ rfl (hL 18 (by simp))
            have e19 : V 19 = wv (xorN a b) := HV 19 _ rfl (hL 19 (by simp))
            have e20 : V 20 = wv (a) := HV 20 _ rfl (hL 20 (by simp))
            have e21 : V 21 = wv (b) := HV 21 _ rfl (hL 21 (by simp))
            have e22 : V 22 = wv (xorN a b) := HV 22 _ rfl (hL 22 (by simp))
            have e23 : V 23 = .bool false := HV 23 _ rfl (hL 23 (by simp))
            have e24 : V 24 = .bool false := HV 24 _ rfl (hL 24 (by simp))
            have e25 : V 25 = .bool false := HV 25 _ rfl (hL 25 (by simp))
            have e26 : V 26 = wv (a) := HV 26 _ rfl (hL 26 (by simp))
            have e27 : V 27 = wv (notN a) := HV 27 _ rfl (hL 27 (by simp))
            have e28 : V 28 = wv (a) := HV 28 _ rfl (hL 28 (by simp))
            have e29 : V 29 = wv (notN a) := HV 29 _ rfl (hL 29 (by simp))
            have e30 : V 30 = .bool false := HV 30 _ rfl (hL 30 (by simp))
            have e31 : V 31 = .bool false := HV 31 _ rfl (hL 31 (by simp))
            rw [HFR.out]
            rw [e0, e1, e2, e3, e4, e5, e6, e7, e8, e9, e10, e11, e12, e13, e14, e15, e16, e17, e18, e19, e20, e21, e22, e23, e24, e25, e26, e27, e28, e29, e30, e31]
            clear hL HV e0 e1 e2 e3 e4 e5 e6 e7 e8 e9 e10 e11 e12 e13 e14 e15 e16 e17 e18 e19 e20 e21 e22 e23 e24 e25 e26 e27 e28 e29 e30 e31
            clear HFR
            go_wp2_with (first
              | ((with_reducible refine wpList_load_wordG ?_ 27 25 (.tmp 6) rfl Try.underlying27 winfo (g6) (b) ?_ ?_ ?_); (exact rfl); (exact rfl); (exact HS.at (g6) (b) (by simp))))
            refine (moves_any b _ hb).mono ?_
            rintro e w6 ⟨rfl, he⟩
            have HS := HS.ext he
            clear he
            generalize hmv : min b 256 = mv
            have HM := Lib.hid hmv
            clear hmv
            go_wp2_with fail
            refine wp_named fun a0 ha0 => ?_
            obtain ⟨fr, hfr⟩ : ∃ fr : (Nat → Value) → Act, ∀ V, fr V = ((((((((((((((((a0.put (some 57) (V 0)).put (some 58) (V 1)).put (some 59) (V 2)).put (some 60) (V 3)).put (some 61) (V 4)).put (some 62) (V 5)).put (some 63) (V 6)).put (some 64) (V 7)).put (some 65) (V 8)).put (some 66) (V 9)).put (some 67) (V 10)).put (some 68) (V 11)).put (some 69) (V 12)).put (some 70) (V 13)).put (some 71) (V 14)).put (some 72) (V 15)) := ⟨fun V => ((((((((((((((((a0.put (some 57) (V 0)).put (some 58) (V 1)).put (some 59) (V 2)).put (some 60) (V 3)).put (some 61) (V 4)).put (some 62) (V 5)).put (some 63) (V 6)).put (some 64) (V 7)).put (some 65) (V 8)).put (some 66) (V 9)).put (some 67) (V 10)).put (some 68) (V 11)).put (some 69) (V 12)).put (some 70) (V 13)).put (some 71) (V 14)).put (some 72) (V 15)), fun _ => rfl⟩
            rw [ha0] at hfr
            simp only [Act.put, List.setIfInBounds_toArray, List.set_cons_zero, List.set_cons_succ] at hfr
            have HFR := Lib.hid hfr
            clear hfr
            refine wp_region_inv (by kernel_rfl) (by kernel_rfl) (fun L A W => ∃ V : Nat → Value, A = fr V ∧ Ks w [(g5, a), (g6, b)] W ∧ Vals (fun j => ([some (wv (a)), some (wv (b)), some (wv (shlN a b)), some (wv (a)), some (.int .i64 (mv : Nat)), some (wv (shlN a b)), some (.bool false), some (.bool false), some (wv (a)), some (wv (b)), some (wv (shrN a b)), some (wv (a)), some (.int .i64 (mv : Nat)), some (wv (shrN a b)), some (.bool false), some (.bool false)] : List (Option Value)).getD j none) L V) ?_ ⟨?_, ?_, ?_, ?_, ?_, ?_, ?_, ?_, ?_, ?_, ?_, ?_, ?_, ?_, ?_, ?_, trivial⟩ ?_
            · refine ⟨fun j => a0.tmps.getD (([57, 58, 59, 60, 61, 62, 63, 64, 65, 66, 67, 68, 69, 70, 71, 72] : List Nat).getD j 0) undef, ?_, HS.drew, Vals.no _ _ _ (far_none _ _ rfl)⟩
              rw [HFR.out, ha0]
              rfl
            all_goals clear ha0
            · rintro L A W K hL hC hW ⟨V, rfl, HS, HV⟩ hK
              have H := Lib.hid (show ∀ W', Ext W W' → K (fr (upd V 0 (wv (a)))) W' from fun W' he => hK _ _ ⟨upd V 0 (wv (a)), rfl, HS.ext he, HV.up 0 _ (fun x hx => Option.some.inj hx)⟩)
              clear hK hC hW hL HV 
              rw [HFR.out]
              refine wpList_load_wordG rfl 27 25 (.tmp 5) rfl Try.underlying27 winfo (g5) (a) rfl (HS.at (g5) (a) (by simp)) ?_
              show K _ _
              have := H.out _ (Ext.refl _)
              rw [HFR.out] at this
              exact this
            · rintro L A W K hL hC hW ⟨V, rfl, HS, HV⟩ hK
              have H := Lib.hid (show ∀ W', Ext W W' → K (fr (upd V 1 (wv (b)))) W' from fun W' he => hK _ _ ⟨upd V 1 (wv (b)), rfl, HS.ext he, HV.up 1 _ (fun x hx => Option.some.inj hx)⟩)
              clear hK hC hW hL HV 
              rw [HFR.out]
              refine wpList_load_wordG rfl 27 25 (.tmp 6) rfl Try.underlying27 winfo (g6) (b) rfl (HS.at (g6) (b) (by simp)) ?_
              show K _ _
              have := H.out _ (Ext.refl _)
              rw [HFR.out] at this
              exact this
            · rintro L A W K hL hC hW ⟨V, rfl, HS, HV⟩ hK
              have e0 : V 0 = wv (a) := HV 0 _ rfl (hW 0 rfl)
              have e1 : V 1 = wv (b) := HV 1 _ rfl (hW 1 rfl)
              have u0 : (upd V 2 (wv (shlN a b))) 0 = wv (a) := e0
              have u1 : (upd V 2 (wv (shlN a b))) 1 = wv (b) := e1
              have HU := Lib.hid (show (upd V 2 (wv (shlN a b))) 0 = wv (a) ∧ (upd V 2 (wv (shlN a b))) 1 = wv (b) from ⟨u0, u1⟩)
              clear u0 u1
              have H := Lib.hid (show ∀ W', Ext W W' → K (fr (upd V 2 (wv (shlN a b)))) W' from fun W' he => hK _ _ ⟨upd V 2 (wv (shlN a b)), rfl, HS.ext he, HV.up 2 _ (fun x hx => Option.some.inj hx)⟩)
              clear hK hC hW hL HV 
              rw [HFR.out]
              rw [e0, e1]
              clear e0 e1
              go_wp2_with fail
              refine (shl_w a b _ ha hb).mono ?_
              rintro e wx ⟨rfl, hlt, he⟩
              have := H.out _ he
              clear H
              go_wp2_with fail
              show K _ _
              rw [HFR.out] at this
              obtain ⟨u0, u1⟩ := HU.out
              rw [u0, u1] at this
              exact this
            · rintro L A W K hL hC hW ⟨V, rfl, HS, HV⟩ hK
              have H := Lib.hid (show ∀ W', Ext W W' → K (fr (upd V 3 (wv (a)))) W' from fun W' he => hK _ _ ⟨upd V 3 (wv (a)), rfl, HS.ext he, HV.up 3 _ (fun x hx => Option.some.inj hx)⟩)
              clear hK hC hW hL HV 
              rw [HFR.out]
              refine wpList_load_wordG rfl 27 25 (.tmp 5) rfl Try.underlying27 winfo (g5) (a) rfl (HS.at (g5) (a) (by simp)) ?_
              show K _ _
              have := H.out _ (Ext.refl _)
              rw [HFR.out] at this
              exact this
            · rintro L A W K hL hC hW ⟨V, rfl, HS, HV⟩ hK
              have H := Lib.hid (show ∀ W', Ext W W' → K (fr (upd V 4 (.int .i64 (mv : Nat)))) W' from fun W' he => hK _ _ ⟨upd V 4 (.int .i64 (mv : Nat)), rfl, HS.ext he, HV.up 4 _ (fun x hx => Option.some.inj hx)⟩)
              clear hK hC hW hL HV 
              rw [HFR.out]
              go_wp2_with fail
              show K _ _
              have := H.out _ (Ext.refl _)
              rw [HFR.out] at this
              exact this
            · rintro L A W K hL hC hW ⟨V, rfl, HS, HV⟩ hK
              have e3 : V 3 = wv (a) := HV 3 _ rfl (hW 3 rfl)
              have e4 : V 4 = .int .i64 (mv : Nat) := HV 4 _ rfl (hW 4 rfl)
              have u3 : (upd V 5 (wv (shlN a b))) 3 = wv (a) := e3
              have u4 : (upd V 5 (wv (shlN a b))) 4 = .int .i64 (mv : Nat) := e4
              have HU := Lib.hid (show (upd V 5 (wv (shlN a b))) 3 = wv (a) ∧ (upd V 5 (wv (shlN a b))) 4 = .int .i64 (mv : Nat) from ⟨u3, u4⟩)
              clear u3 u4
              have H := Lib.hid (show ∀ W', Ext W W' → K (fr (upd V 5 (wv (shlN a b)))) W' from fun W' he => hK _ _ ⟨upd V 5 (wv (shlN a b)), rfl, HS.ext he, HV.up 5 _ (fun x hx => Option.some.inj hx)⟩)
              clear hK hC hW hL HV 
              rw [HFR.out]
              rw [e3, e4]
              clear e3 e4
              go_wp2_with fail
              refine (refShl_m a b mv _ HM.out ha).mono ?_
              rintro e wx ⟨rfl, hlt, he⟩
              have := H.out _ he
              clear H
              go_wp2_with fail
              show K _ _
              rw [HFR.out] at this
              obtain ⟨u3, u4⟩ := HU.out
              rw [u3, u4] at this
              exact this
            · rintro L A W K hL hC hW ⟨V, rfl, HS, HV⟩ hK
              have e2 : V 2 = wv (shlN a b) := HV 2 _ rfl (hW 2 rfl)
              have e5 : V 5 = wv (shlN a b) := HV 5 _ rfl (hW 5 rfl)
              have u2 : (upd V 6 (.bool false)) 2 = wv (shlN a b) := e2
              have u5 : (upd V 6 (.bool false)) 5 = wv (shlN a b) := e5
              have HU := Lib.hid (show (upd V 6 (.bool false)) 2 = wv (shlN a b) ∧ (upd V 6 (.bool false)) 5 = wv (shlN a b) from ⟨u2, u5⟩)
              clear u2 u5
              have H := Lib.hid (show ∀ W', Ext W W' → K (fr (upd V 6 (.bool false))) W' from fun W' he => hK _ _ ⟨upd V 6 (.bool false), rfl, HS.ext he, HV.up 6 _ (fun x hx => Option.some.inj hx)⟩)
              clear hK hC hW hL HV 
              rw [HFR.out]
              rw [e2, e5]
              clear e2 e5
              refine wpList_neq_word rfl (.tmp 59) (.tmp 62) rfl (shlN a b) (shlN a b) (shlN_lt a b) (shlN_lt a b) rfl rfl ?_
              rw [show ((shlN a b) != (shlN a b)) = false from bne_self_eq_false _]
              show K _ _
              have := H.out _ (Ext.refl _)
              rw [HFR.out] at this
              obtain ⟨u2, u5⟩ := HU.out
              rw [u2, u5] at this
              exact this
            · rintro L A W K hL hC hW ⟨V, rfl, HS, HV⟩ hK
              have e6 : V 6 = .bool false := HV 6 _ rfl (hW 6 rfl)
              have u6 : (upd V 7 (.bool false)) 6 = .bool false := e6
              have HU := Lib.hid (show (upd V 7 (.bool false)) 6 = .bool false from u6)
              clear u6
              have H := Lib.hid (show ∀ W', Ext W W' → K (fr (upd V 7 (.bool false))) W' from fun W' he => hK _ _ ⟨upd V 7 (.bool false), rfl, HS.ext he, HV.up 7 _ (fun x hx => Option.some.inj hx)⟩)
              clear hK hC hW hL HV 
              rw [HFR.out]
              rw [e6]
              clear e6
              go_wp2_with fail
              show K _ _
              have := H.out _ (Ext.refl _)
              rw [HFR.out] at this
              obtain u6 := HU.out
              rw [u6] at this
              exact this
            · rintro L A W K hL hC hW ⟨V, rfl, HS, HV⟩ hK
              have e7 : V 7 = .bool false := HV 7 _ rfl (hW 7 rfl)
              have u7 : (upd V 8 (wv (a))) 7 = .bool false := e7
              have HU := Lib.hid (show (upd V 8 (wv (a))) 7 = .bool false from u7)
              clear u7
              have H := Lib.hid (show ∀ W', Ext W W' → K (fr (upd V 8 (wv (a)))) W' from fun W' he => hK _ _ ⟨upd V 8 (wv (a)), rfl, HS.ext he, HV.up 8 _ (fun x hx => Option.some.inj hx)⟩)
              clear hK hC hW hL HV 
              rw [HFR.out]
              rw [e7]
              clear e7
              refine wpList_load_wordG rfl 27 25 (.tmp 5) rfl Try.underlying27 winfo (g5) (a) rfl (HS.at (g5) (a) (by simp)) ?_
              show K _ _
              have := H.out _ (Ext.refl _)
              rw [HFR.out] at this
              obtain u7 := HU.out
              rw [u7] at this
              exact this
            · rintro L A W K hL hC hW ⟨V, rfl, HS, HV⟩ hK
              have e7 : V 7 = .bool false := HV 7 _ rfl (hW 7 rfl)
              have u7 : (upd V 9 (wv (b))) 7 = .bool false := e7
              have HU := Lib.hid (show (upd V 9 (wv (b))) 7 = .bool false from u7)
              clear u7
              have H := Lib.hid (show ∀ W', Ext W W' → K (fr (upd V 9 (wv (b)))) W' from fun W' he => hK _ _ ⟨upd V 9 (wv (b)), rfl, HS.ext he, HV.up 9 _ (fun x hx => Option.some.inj hx)⟩)
              clear hK hC hW hL HV 
              rw [HFR.out]
              rw [e7]
              clear e7
              refine wpList_load_wordG rfl 27 25 (.tmp 6) rfl Try.underlying27 winfo (g6) (b) rfl (HS.at (g6) (b) (by simp)) ?_
              show K _ _
              have := H.out _ (Ext.refl _)
              rw [HFR.out] at this
              obtain u7 := HU.out
              rw [u7] at this
              exact this
            · rintro L A W K hL hC hW ⟨V, rfl, HS, HV⟩ hK
              have e7 : V 7 = .bool false := HV 7 _ rfl (hW 7 rfl)
              have e8 : V 8 = wv (a) := HV 8 _ rfl (hW 8 rfl)
              have e9 : V 9 = wv (b) := HV 9 _ rfl (hW 9 rfl)
              have u7 : (upd V 10 (wv (shrN a b))) 7 = .bool false := e7
              have u8 : (upd V 10 (wv (shrN a b))) 8 = wv (a) := e8
              have u9 : (upd V 10 (wv (shrN a b))) 9 = wv (b) := e9
              have HU := Lib.hid (show (upd V 10 (wv (shrN a b))) 7 = .bool false ∧ (upd V 10 (wv (shrN a b))) 8 = wv (a) ∧ (upd V 10 (wv (shrN a b))) 9 = wv (b) from ⟨u7, u8, u9⟩)
              clear u7 u8 u9
              have H := Lib.hid (show ∀ W', Ext W W' → K (fr (upd V 10 (wv (shrN a b)))) W' from fun W' he => hK _ _ ⟨upd V 10 (wv (shrN a b)), rfl, HS.ext he, HV.up 10 _ (fun x hx => Option.some.inj hx)⟩)
              clear hK hC hW hL HV 
              rw [HFR.out]
              rw [e7, e8, e9]
              clear e7 e8 e9
              go_wp2_with fail
              refine (shr_w a b _ ha hb).mono ?_
              rintro e wx ⟨rfl, hlt, he⟩
              have := H.out _ he
              clear H
              go_wp2_with fail
              show K _ _
              rw [HFR.out] at this
              obtain ⟨u7, u8, u9⟩ := HU.out
              rw [u7, u8, u9] at this
              exact this
            · rintro L A W K hL hC hW ⟨V, rfl, HS, HV⟩ hK
              have e7 : V 7 = .bool false := HV 7 _ rfl (hW 7 rfl)
              have u7 : (upd V 11 (wv (a))) 7 = .bool false := e7
              have HU := Lib.hid (show (upd V 11 (wv (a))) 7 = .bool false from u7)
              clear u7
              have H := Lib.hid (show ∀ W', Ext W W' → K (fr (upd V 11 (wv (a)))) W' from fun W' he => hK _ _ ⟨upd V 11 (wv (a)), rfl, HS.ext he, HV.up 11 _ (fun x hx => Option.some.inj hx)⟩)
              clear hK hC hW hL HV 
              rw [HFR.out]
              rw [e7]
              clear e7
              refine wpList_load_wordG rfl 27 25 (.tmp 5) rfl Try.underlying27 winfo (g5) (a) rfl (HS.at (g5) (a) (by simp)) ?_
              show K _ _
              have := H.out _ (Ext.refl _)
              rw [HFR.out] at this
              obtain u7 := HU.out
              rw [u7] at this
              exact this
            · rintro L A W K hL hC hW ⟨V, rfl, HS, HV⟩ hK
              have e7 : V 7 = .bool false := HV 7 _ rfl (hW 7 rfl)
              have u7 : (upd V 12 (.int .i64 (mv : Nat))) 7 = .bool false := e7
              have HU := Lib.hid (show (upd V 12 (.int .i64 (mv : Nat))) 7 = .bool false from u7)
              clear u7
              have H := Lib.hid (show ∀ W', Ext W W' → K (fr (upd V 12 (.int .i64 (mv : Nat)))) W' from fun W' he => hK _ _ ⟨upd V 12 (.int .i64 (mv : Nat)), rfl, HS.ext he, HV.up 12 _ (fun x hx => Option.some.inj hx)⟩)
              clear hK hC hW hL HV 
              rw [HFR.out]
              rw [e7]
              clear e7
              go_wp2_with fail
              show K _ _
              have := H.out _ (Ext.refl _)
              rw [HFR.out] at this
              obtain u7 := HU.out
              rw [u7] at this
              exact this
            · rintro L A W K hL hC hW ⟨V, rfl, HS, HV⟩ hK
              have e7 : V 7 = .bool false := HV 7 _ rfl (hW 7 rfl)
              have e11 : V 11 = wv (a) := HV 11 _ rfl (hW 11 rfl)
              have e12 : V 12 = .int .i64 (mv : Nat) := HV 12 _ rfl (hW 12 rfl)
              have u7 : (upd V 13 (wv (shrN a b))) 7 = .bool false := e7
              have u11 : (upd V 13 (wv (shrN a b))) 11 = wv (a) := e11
              have u12 : (upd V 13 (wv (shrN a b))) 12 = .int .i64 (mv : Nat) := e12
              have HU := Lib.hid (show (upd V 13 (wv (shrN a b))) 7 = .bool false ∧ (upd V 13 (wv (shrN a b))) 11 = wv (a) ∧ (upd V 13 (wv (shrN a b))) 12 = .int .i64 (mv : Nat) from ⟨u7, u11, u12⟩)
              clear u7 u11 u12
              have H := Lib.hid (show ∀ W', Ext W W' → K (fr (upd V 13 (wv (shrN a b)))) W' from fun W' he => hK _ _ ⟨upd V 13 (wv (shrN a b)), rfl, HS.ext he, HV.up 13 _ (fun x hx => Option.some.inj hx)⟩)
              clear hK hC hW hL HV 
              rw [HFR.out]
              rw [e7, e11, e12]
              clear e7 e11 e12
              go_wp2_with fail
              refine (refShr_m a b mv _ HM.out ha).mono ?_
              rintro e wx ⟨rfl, hlt, he⟩
              have := H.out _ he
              clear H
              go_wp2_with fail
              show K _ _
              rw [HFR.out] at this
              obtain ⟨u7, u11, u12⟩ := HU.out
              rw [u7, u11, u12] at this
              exact this
            · rintro L A W K hL hC hW ⟨V, rfl, HS, HV⟩ hK
              have e7 : V 7 = .bool false := HV 7 _ rfl (hW 7 rfl)
              have e10 : V 10 = wv (shrN a b) := HV 10 _ rfl (hW 10 rfl)
              have e13 : V 13 = wv (shrN a b) := HV 13 _ rfl (hW 13 rfl)
              have u7 : (upd V 14 (.bool false)) 7 = .bool false := e7
              have u10 : (upd V 14 (.bool false)) 10 = wv (shrN a b) := e10
              have u13 : (upd V 14 (.bool false)) 13 = wv (shrN a b) := e13
              have HU := Lib.hid (show (upd V 14 (.bool false)) 7 = .bool false ∧ (upd V 14 (.bool false)) 10 = wv (shrN a b) ∧ (upd V 14 (.bool false)) 13 = wv (shrN a b) from ⟨u7, u10, u13⟩)
              clear u7 u10 u13
              have H := Lib.hid (show ∀ W', Ext W W' → K (fr (upd V 14 (.bool false))) W' from fun W' he => hK _ _ ⟨upd V 14 (.bool false), rfl, HS.ext he, HV.up 14 _ (fun x hx => Option.some.inj hx)⟩)
              clear hK hC hW hL HV 
              rw [HFR.out]
              rw [e7, e10, e13]
              clear e7 e10 e13
              refine wpList_neq_word rfl (.tmp 67) (.tmp 70) rfl (shrN a b) (shrN a b) (shrN_lt a b ha) (shrN_lt a b ha) rfl rfl ?_
              rw [show ((shrN a b) != (shrN a b)) = false from bne_self_eq_false _]
              show K _ _
              have := H.out _ (Ext.refl _)
              rw [HFR.out] at this
              obtain ⟨u7, u10, u13⟩ := HU.out
              rw [u7, u10, u13] at this
              exact this
            · rintro L A W K hL hC hW ⟨V, rfl, HS, HV⟩ hK
              have e7 : V 7 = .bool false := HV 7 _ rfl (hW 7 rfl)
              have e14 : V 14 = .bool false := HV 14 _ rfl (hW 14 rfl)
              have u7 : (upd V 15 (.bool false)) 7 = .bool false := e7
              have u14 : (upd V 15 (.bool false)) 14 = .bool false := e14
              have HU := Lib.hid (show (upd V 15 (.bool false)) 7 = .bool false ∧ (upd V 15 (.bool false)) 14 = .bool false from ⟨u7, u14⟩)
              clear u7 u14
              have H := Lib.hid (show ∀ W', Ext W W' → K (fr (upd V 15 (.bool false))) W' from fun W' he => hK _ _ ⟨upd V 15 (.bool false), rfl, HS.ext he, HV.up 15 _ (fun x hx => Option.some.inj hx)⟩)
              clear hK hC hW hL HV 
              rw [HFR.out]
              rw [e7, e14]
              clear e7 e14
              go_wp2_with fail
              show K _ _
              have := H.out _ (Ext.refl _)
              rw [HFR.out] at this
              obtain ⟨u7, u14⟩ := HU.out
              rw [u7, u14] at this
              exact this
            · rintro L A W hL ⟨V, rfl, HS, HV⟩
              have e0 : V 0 = wv (a) := HV 0 _ rfl (hL 0 (by simp))
              have e1 : V 1 = wv (b) := HV 1 _ rfl (hL 1 (by simp))
              have e2 : V 2 = wv (shlN a b) := HV 2 _ rfl (hL 2 (by simp))
              have e3 : V 3 = wv (a) := HV 3 _ rfl (hL 3 (by simp))
              have e4 : V 4 = .int .i64 (mv : Nat) := HV 4 _ rfl (hL 4 (by simp))
              have e5 : V 5 = wv (shlN a b) := HV 5 _ rfl (hL 5 (by simp))
              have e6 : V 6 = .bool false := HV 6 _ rfl (hL 6 (by simp))
              have e7 : V 7 = .bool false := HV 7 _ rfl (hL 7 (by simp))
              have e8 : V 8 = wv (a) := HV 8 _ rfl (hL 8 (by simp))
              have e9 : V 9 = wv (b) := HV 9 _ rfl (hL 9 (by simp))
              have e10 : V 10 = wv (shrN a b) := HV 10 _ rfl (hL 10 (by simp))
              have e11 : V 11 = wv (a) := HV 11 _ rfl (hL 11 (by simp))
              have e12 : V 12 = .int .i64 (mv : Nat) := HV 12 _ rfl (hL 12 (by simp))
              have e13 : V 13 = wv (shrN a b) := HV 13 _ rfl (hL 13 (by simp))
              have e14 : V 14 = .bool false := HV 14 _ rfl (hL 14 (by simp))
              have e15 : V 15 = .bool false := HV 15 _ rfl (hL 15 (by simp))
              rw [HFR.out]
              rw [e0, e1, e2, e3, e4, e5, e6, e7, e8, e9, e10, e11, e12, e13, e14, e15]
              clear hL HV e0 e1 e2 e3 e4 e5 e6 e7 e8 e9 e10 e11 e12 e13 e14 e15
              have HE := Lib.hid HS.2
              clear HFR HS
              go_wp2_with fail
              go_roundw
              case rel => exact ⟨k + 1, by omega, by omega, by go_num, HE⟩
              case measure => simp [intOf]; omega
    · go_wp2_with fail
      go_ret
      exact ⟨rfl, he.out⟩

theorem bits_told (W : World) (args : Array Value) (h : Told Try.f5 W args) : Calls Try.prog 5 args W (RetT W) := by
  obtain ⟨H, enc, base, ds, p, hval, hA⟩ := h
  rw [Try.params5] at hA hval
  obtain ⟨v0, d0, rfl, rfl, h0⟩ := trodAll_one hA
  obtain ⟨l, hl⟩ := ps_came (hval 0 _ v0 rfl rfl) h0
  exact bits_walk v0 l W hl

theorem bits_spec (H : Type) : ∀ ds : List (DataW H), ds.length = Try.f5.params.toList.length → Rows.wordBitsSpec.fn H ds = { results := [.lit (.bool true)], args := ds }
  | [_], _ => rfl
  | [], h | _ :: _ :: _, h => by rw [Try.params5] at h; simp at h

set_option maxRecDepth 100000 in
theorem wordBits_holds : Rows.WordBitsSaid :=
  OpenClaim.holds_of_wide 5 Try.f5 rfl rfl rfl rfl rfl rfl rfl ⟨rfl, rfl, rfl, rfl, rfl⟩ rfl rfl rfl rfl rfl (by kernel_rfl) Try.func5 (by kernel_rfl)
    (of_decide_eq_true (by kernel_rfl)) (by unfold Func.isWrapper; first | (rw [if_pos (by decide +kernel)]; kernel_rfl) | (rw [if_neg (by decide +kernel)]; exact ⟨rfl, rfl⟩))
    (fun os started H enc _ => law_lifted started (by kernel_rfl) Try.func5 rfl rfl (bits_spec H) (of_decide_eq_true (by kernel_rfl))
      (ChangeSpec.witness6 (enc := enc) (C := Try.checked) false ⟨#[], #[.slice none 0 0], []⟩ 8 (by kernel_rfl) (by kernel_rfl) (by kernel_rfl) (by kernel_rfl)) bits_told)
end Go.Proofs.Ytiadabjmkabcfaa
