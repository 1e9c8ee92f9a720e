/- The law WordSums: sums, differences and how words stand are as the document says, for every row of pairs. -/
import Derived.Test.YtgmmkoahnednfaaRce
import Derived.Test.YtgmmkoahnednfaaRbe
import Derived.Test.YtgmmkoahnednfaaWsq
namespace Go.Proofs.Ytgmmkoahnednfaa
open Go.ChangeShapes Go.WideShapes Go.ChangeAt Go.RowKit

set_option maxRecDepth 100000 in
theorem pinfo : (Try.prog.info? 28).map (·.size) = some 8 := by kernel_rfl
set_option maxRecDepth 100000 in
theorem wpList_load_pair {ops : Array Oper} {rest : List Oper} {o : Oper} {a : Act} {W : World} {Q : Exit → Act → World → Prop} (hgd : o.guard = none) (x : Operand) (ho : o.op = .load 28 x) (g off m n : Nat) (hx : a.eval x = .pointer (some ⟨g, off, none⟩))
    (hr : W.rangeAt g off (pcs m n).toList) (h : wpList Try.prog ops Q rest (a.put o.dst (.agg (pcs m n))) W) : wpList Try.prog ops Q (o :: rest) a W :=
  wpList_load_mid hgd 28 x ho g off hx (pcs m n).toList _ hr Try.underlying28 rfl pinfo h
set_option maxRecDepth 100000 in
theorem wpList_store_pair {ops : Array Oper} {rest : List Oper} {o : Oper} {a : Act} {W : World} {Q : Exit → Act → World → Prop} (hgd : o.guard = none) (hd : o.dst = none) (x y : Operand) (ho : o.op = .store 28 x y) (g m n : Nat)
    (hx : a.eval x = .pointer (some ⟨g, 0, none⟩)) (hy : a.eval y = .agg (pcs m n)) (hg : Cs W g 28 #[.int .u64 0, .int .u64 0, .int .u64 0, .int .u64 0, .int .u64 0, .int .u64 0, .int .u64 0, .int .u64 0])
    (h : ∀ W', Cs W' g 28 (pcs m n) → W.grownBy W' (some g) → wpList Try.prog ops Q rest a W') : wpList Try.prog ops Q (o :: rest) a W := by
  have h' : ∀ W', Cs W' g 28 (pcs m n) → W.grownBy W' (some g) → wpList Try.prog ops Q rest (a.put o.dst undef) W' := by rw [hd]; exact h
  refine wpList_store_row hgd 28 x y ho g (pcs m n) hx hy 28 _ hg pinfo rfl (pcs_one m n) (h' _ ?_ ?_)
  · exact setRow_heap W g _ _ 28 (0, 0) hg
  · exact ⟨rfl, rfl, rfl, by simp [World.setRow], fun k _ hk => setRow_other W g k _ (fun e => hk (by simp [e]))⟩

set_option maxRecDepth 100000 in
theorem fst_take (l : List (Nat × Nat)) (k : Nat) (p : Nat × Nat) (h : l[k]? = some p) : (l.take k).map Prod.fst ++ [p.1] = (l.take (k + 1)).map Prod.fst := by
  rw [List.take_add_one, h]
  simp
set_option maxRecDepth 100000 in
set_option maxHeartbeats 8000000 in
theorem sums_walk (v : Value) (l : List (Nat × Nat)) (w : World) (h : Ps w v l) : Calls Try.prog 3 #[v] w (RetT w) := by
  obtain ⟨hlt0, A, c, rfl, hlc, hcm, hcell⟩ := h
  unfold maxLen at hcm
  have HC := Lib.hid hcell
  have HLT := Lib.hid hlt0
  clear hcell hlt0
  go_enter Try.func3, Try.ntmps3
  go_wp2_with fail
  refine (wakes_any _).mono ?_
  rintro e w1 ⟨rfl, he1⟩
  have HE1 := Lib.hid he1
  clear he1
  go_wp2_with fail
  go_loopw [3, 4, 5, 6, 7, 8, 9, 10, 11, 12, 13, 14, 15, 24, 25, 26, 27, 28, 29, 30, 31, 32, 33, 34, 35, 36, 37, 38, 39, 40, 41, 42, 43, 44, 45, 46, 47, 48, 49, 50, 51, 52, 53, 54, 55, 56, 57, 58, 59, 60, 61, 62, 63, 64, 65, 66, 67, 68, 69, 70, 71, 72, 73, 74, 75, 76, 77, 78, 79, 80, 81, 82, 83, 84, 85, 86, 87, 88, 89, 90] (fun v3 _ _ _ _ _ _ _ _ _ _ _ _ i _ _ _ _ _ _ _ _ _ _ _ _ _ _ _ _ _ _ _ _ _ _ _ _ _ _ _ _ _ _ _ _ _ _ _ _ _ _ _ _ _ _ _ _ _ _ _ _ _ _ _ _ _ _ _ _ _ _ _ _ _ _ _ _ _ _ wr => ∃ k : Nat, k ≤ l.length ∧ k ≤ 12 ∧ i = .int .i64 k ∧ Hid (wr.ownsRow w.heap.size 27 4 v3 k (wcs ((l.take k).map Prod.fst))) ∧ Hid (Ext w wr)) (fun _ _ _ _ _ _ _ _ _ _ _ _ _ i _ _ _ _ _ _ _ _ _ _ _ _ _ _ _ _ _ _ _ _ _ _ _ _ _ _ _ _ _ _ _ _ _ _ _ _ _ _ _ _ _ _ _ _ _ _ _ _ _ _ _ _ _ _ _ _ _ _ _ _ _ _ _ _ _ _ _ => l.length - (intOf i).toNat)
  case atStart => exact ⟨0, by omega, by omega, rfl, World.ownsRow_nil _ _ _ _, HE1⟩
  case round =>
    clear HE1
    obtain ⟨k, hk, hk12, rfl, HO, he⟩ := hrel
    by_cases hlt : k < l.length
    · obtain ⟨b0, o0, rfl, hc⟩ := HC.out (by omega)
      obtain ⟨⟨a, b⟩, hp⟩ : ∃ p, l[k]? = some p := ⟨l[k], List.getElem?_eq_getElem hlt⟩
      obtain ⟨ha, hb⟩ := HLT.out (a, b) (List.mem_of_getElem? hp)
      have HR := Lib.hid (show wr.rangeAt b0 (o0 + k * 8) (pcs a b).toList from fun j u hu => he.out.cell (hc k (a, b) hp j u hu))
      have HP := Lib.hid (fst_take l k (a, b) hp)
      clear hc hp
      dsimp only at ha hb
      by_cases h12 : k = 12
      · have hd : ((k : Int) == 12) = true := by rw [h12]; rfl
        clear h12
        go_wp2_with (first
        | ((with_reducible refine wpList_load_pair ?_ (.tmp 27) rfl b0 (o0 + k * 8) a b ?_ ?_ ?_); (exact rfl); (exact rfl); (exact HR.out))
        | ((with_reducible refine wpList_store_pair ?_ ?_ (.tmp 5) (.tmp 28) rfl wr.heap.size a b ?_ ?_ ?_ ?_); (exact rfl); (exact rfl); (exact rfl); (exact rfl); (exact Cs.new _ _ _ _ rfl); intro w4 kp gp; have KP := Lib.hid kp; have HS := (show Ks wr [] wr from ⟨fun x hx => (by cases hx), Ext.refl wr⟩); have HS := Ks.far (HS.al _) gp (Nat.le_refl _) (fun x hx => (by cases hx)); clear kp gp))
        have HW := Lib.hid (own_ws (own_ext HO.out HS.2) (by simp; omega) (fun x hx => by
          obtain ⟨p, hp, rfl⟩ := List.mem_map.1 hx
          exact (HLT.out p (List.mem_of_mem_take hp)).1))
        have HE4 := Lib.hid (he.out.trans HS.2)
        have hlen : ((l.take k).map Prod.fst).length ≤ 12 := by simp; omega
        clear HO he HS KP HR HP
        generalize (l.take k).map Prod.fst = l0 at *
        go_wp2_with fail
        refine (sum_any _ l0 _ HW.out (by omega)).mono ?_
        rintro e w5 ⟨rfl, he5⟩
        have HW5 := Lib.hid (HW.out.ext he5)
        have HS := (show Ks w [] w5 from ⟨fun x hx => (by cases hx), HE4.out.trans he5⟩)
        clear he5 HW HE4
        have hs := sumW_lt l0
        generalize hss : sumW l0 = ss at *
        obtain ⟨s, bo⟩ := ss
        have HSS := Lib.hid hss
        clear hss
        dsimp only at hs ⊢
        go_wp2_with ((with_reducible refine wpList_store_word rfl rfl 27 (.tmp 16) (.tmp 94) rfl winfo (w5.heap.size) (wc 0) (s) ?_ ?_ ?_ ?_ ?_); (exact rfl); (exact rfl); (exact heap_alloc_new _ _); (exact rfl); intro w6 kz gz; have HS := HS.put gz kz; have HX := Lib.hid (((Ext.refl _).alloc _).grown gz (Nat.le_refl _)); clear kz gz)
        have HW6 := Lib.hid (HW5.out.ext HX.out)
        refine (refSum_any _ l0 _ HW6.out (by omega)).mono ?_
        rw [HSS.out]
        rintro e w7 ⟨rfl, hs7, he7⟩
        have HS := HS.ext he7
        clear he7 hs7 HX HW6 HW5 HSS
        cases bo <;> (
          go_wp2_with (first
            | ((with_reducible refine wpList_store_word rfl rfl 27 (.tmp 18) (.tmp 99) rfl winfo (w7.heap.size) (wc 0) (s) ?_ ?_ ?_ ?_ ?_); (exact rfl); (exact rfl); (exact heap_alloc_new _ _); (exact rfl); intro w8 kz gz; have HS := HS.put gz kz; clear kz gz)
            | ((with_reducible refine wpList_load_wordG ?_ 27 25 (.tmp 16) rfl Try.underlying27 winfo (w5.heap.size) (s) ?_ ?_ ?_); (exact rfl); (exact rfl); (exact HS.at (w5.heap.size) (s) (by simp)))
            | ((with_reducible refine wpList_load_wordG ?_ 27 25 (.tmp 18) rfl Try.underlying27 winfo (w7.heap.size) (s) ?_ ?_ ?_); (exact rfl); (exact rfl); (exact HS.at (w7.heap.size) (s) (by simp)))
            | ((with_reducible refine wpList_eql_word ?_ (.tmp 101) (.tmp 102) rfl (s) (s) (hs) (hs) ?_ ?_ ?_); (exact rfl); (exact rfl); (exact rfl); rw [beq_self_eq_true s]))
          go_ret
          exact ⟨rfl, HS.2⟩)
      · have hd : ((k : Int) == 12) = false := by simp only [beq_eq_false_iff_ne]; omega
        go_wp2_with (first
        | ((with_reducible refine wpList_load_pair ?_ (.tmp 27) rfl b0 (o0 + k * 8) a b ?_ ?_ ?_); (exact rfl); (exact rfl); (exact HR.out))
        | ((with_reducible refine wpList_store_pair ?_ ?_ (.tmp 5) (.tmp 28) rfl wr.heap.size a b ?_ ?_ ?_ ?_); (exact rfl); (exact rfl); (exact rfl); (exact rfl); (exact Cs.new _ _ _ _ rfl); intro w4 kp gp; have KP := Lib.hid kp; have HS := (show Ks wr [] wr from ⟨fun x hx => (by cases hx), Ext.refl wr⟩); have HS := Ks.far (HS.al _) gp (Nat.le_refl _) (fun x hx => (by cases hx)); clear kp gp))
        clear HR
        refine wp_named fun a0 ha0 => ?_
        obtain ⟨fr, hfr⟩ : ∃ fr : (Nat → Value) → Act, ∀ V, fr V = ((((((a0.put (some 31) (V 0)).put (some 32) (V 1)).put (some 33) (V 2)).put (some 34) (V 3)).put (some 6) (V 4)).put (some 7) (V 5)) := ⟨fun V => ((((((a0.put (some 31) (V 0)).put (some 32) (V 1)).put (some 33) (V 2)).put (some 34) (V 3)).put (some 6) (V 4)).put (some 7) (V 5)), fun _ => rfl⟩
        rw [ha0] at hfr
        simp only [Act.put, List.setIfInBounds_toArray, List.set_cons_zero, List.set_cons_succ] at hfr
        have HFR := Lib.hid hfr
        clear hfr
        refine wp_region_inv (by kernel_rfl) (by kernel_rfl) (fun L A W => ∃ V : Nat → Value, A = fr V ∧ Ks wr [] W ∧ Vals (fun j => ([some (.pointer (some ⟨wr.heap.size, 0, none⟩)), some (wv (a)), some (.pointer (some ⟨wr.heap.size, 4, none⟩)), some (wv (b)), none, none, none, none] : List (Option Value)).getD j none) L V ∧ Cs W wr.heap.size 28 (pcs a b) ∧ (L 4 = true → Nb wr ((wr.heap.size, 0) :: []) W (V 4) (L 6) (a)) ∧ (L 5 = true → Nb wr ((wr.heap.size, 0) :: []) W (V 5) (L 7) (b)) ∧ (L 4 = true → L 5 = true → V 4 ≠ V 5)) ?_ ⟨?_, ?_, ?_, ?_, ?_, ?_, ?_, ?_, trivial⟩ ?_
        · refine ⟨fun j => a0.tmps.getD (([31, 32, 33, 34, 6, 7, 0, 0] : List Nat).getD j 0) undef, ?_, HS.drew, Vals.no _ _ _ (far_none _ _ rfl), Cs.ext (KP.out) (Ext.refl _).drew, fun h => absurd h (by decide), fun h => absurd h (by decide), fun h => absurd h (by decide)⟩
          rw [HFR.out, ha0]
          rfl
        all_goals clear ha0
        · rintro L A W K hL hC hW ⟨V, rfl, HS, HV, xp, f4, f5, d4_5⟩ hK
          have H := Lib.hid (show ∀ W', Ext W W' → K (fr (upd V 0 (.pointer (some ⟨wr.heap.size, 0, none⟩)))) W' from fun W' he => hK _ _ ⟨upd V 0 (.pointer (some ⟨wr.heap.size, 0, none⟩)), rfl, HS.ext he, HV.up 0 _ (fun x hx => Option.some.inj hx), Cs.ext xp he, fun h => Nb.weak (Nb.ext (f4 (more_ne h rfl)) he) (fun h => more_ne h rfl), fun h => Nb.weak (Nb.ext (f5 (more_ne h rfl)) he) (fun h => more_ne h rfl), fun h h' => d4_5 (more_ne h rfl) (more_ne h' rfl)⟩)
          clear hK hC hW hL HV f4 f5 d4_5
          rw [HFR.out]
          go_wp2_with fail
          show K _ _
          have := H.out _ (Ext.refl _)
          rw [HFR.out] at this
          exact this
        · rintro L A W K hL hC hW ⟨V, rfl, HS, HV, xp, f4, f5, d4_5⟩ hK
          have e0 : V 0 = .pointer (some ⟨wr.heap.size, 0, none⟩) := HV 0 _ rfl (hW 0 rfl)
          have u0 : (upd V 1 (wv (a))) 0 = .pointer (some ⟨wr.heap.size, 0, none⟩) := e0
          have HU := Lib.hid (show (upd V 1 (wv (a))) 0 = .pointer (some ⟨wr.heap.size, 0, none⟩) from u0)
          clear u0
          have H := Lib.hid (show ∀ W', Ext W W' → K (fr (upd V 1 (wv (a)))) W' from fun W' he => hK _ _ ⟨upd V 1 (wv (a)), rfl, HS.ext he, HV.up 1 _ (fun x hx => Option.some.inj hx), Cs.ext xp he, fun h => Nb.weak (Nb.ext (f4 (more_ne h rfl)) he) (fun h => more_ne h rfl), fun h => Nb.weak (Nb.ext (f5 (more_ne h rfl)) he) (fun h => more_ne h rfl), fun h h' => d4_5 (more_ne h rfl) (more_ne h' rfl)⟩)
          clear hK hC hW hL HV f4 f5 d4_5
          rw [HFR.out]
          rw [e0]
          clear e0
          refine wpList_load_half rfl (.tmp 31) rfl (wr.heap.size) 0 (a) rfl (pcs_fst xp) ?_
          show K _ _
          have := H.out _ (Ext.refl _)
          rw [HFR.out] at this
          obtain u0 := HU.out
          rw [u0] at this
          exact this
        · rintro L A W K hL hC hW ⟨V, rfl, HS, HV, xp, f4, f5, d4_5⟩ hK
          have H := Lib.hid (show ∀ W', Ext W W' → K (fr (upd V 2 (.pointer (some ⟨wr.heap.size, 4, none⟩)))) W' from fun W' he => hK _ _ ⟨upd V 2 (.pointer (some ⟨wr.heap.size, 4, none⟩)), rfl, HS.ext he, HV.up 2 _ (fun x hx => Option.some.inj hx), Cs.ext xp he, fun h => Nb.weak (Nb.ext (f4 (more_ne h rfl)) he) (fun h => more_ne h rfl), fun h => Nb.weak (Nb.ext (f5 (more_ne h rfl)) he) (fun h => more_ne h rfl), fun h h' => d4_5 (more_ne h rfl) (more_ne h' rfl)⟩)
          clear hK hC hW hL HV f4 f5 d4_5
          rw [HFR.out]
          go_wp2_with fail
          show K _ _
          have := H.out _ (Ext.refl _)
          rw [HFR.out] at this
          exact this
        · rintro L A W K hL hC hW ⟨V, rfl, HS, HV, xp, f4, f5, d4_5⟩ hK
          have e2 : V 2 = .pointer (some ⟨wr.heap.size, 4, none⟩) := HV 2 _ rfl (hW 2 rfl)
          have u2 : (upd V 3 (wv (b))) 2 = .pointer (some ⟨wr.heap.size, 4, none⟩) := e2
          have HU := Lib.hid (show (upd V 3 (wv (b))) 2 = .pointer (some ⟨wr.heap.size, 4, none⟩) from u2)
          clear u2
          have H := Lib.hid (show ∀ W', Ext W W' → K (fr (upd V 3 (wv (b)))) W' from fun W' he => hK _ _ ⟨upd V 3 (wv (b)), rfl, HS.ext he, HV.up 3 _ (fun x hx => Option.some.inj hx), Cs.ext xp he, fun h => Nb.weak (Nb.ext (f4 (more_ne h rfl)) he) (fun h => more_ne h rfl), fun h => Nb.weak (Nb.ext (f5 (more_ne h rfl)) he) (fun h => more_ne h rfl), fun h h' => d4_5 (more_ne h rfl) (more_ne h' rfl)⟩)
          clear hK hC hW hL HV f4 f5 d4_5
          rw [HFR.out]
          rw [e2]
          clear e2
          refine wpList_load_half rfl (.tmp 33) rfl (wr.heap.size) 4 (b) rfl (pcs_snd xp) ?_
          show K _ _
          have := H.out _ (Ext.refl _)
          rw [HFR.out] at this
          obtain u2 := HU.out
          rw [u2] at this
          exact this
        · rintro L A W K hL hC hW ⟨V, rfl, HS, HV, xp, f4, f5, d4_5⟩ hK
          have H := Lib.hid (hK _ _ ⟨upd V 4 (.pointer (some ⟨W.heap.size, 0, none⟩)), rfl, HS.al _, HV.up 4 _ (fun x hx => absurd hx (by intro h; cases h)), Cs.alloc xp _, fun _ => Nb.new2 HS.2.size (fresh_cons xp.lt HS) _ (by show More L 4 6 = false; unfold More; rw [if_neg (by decide)]; exact hC.no hL 6 _ rfl rfl) _, fun h => Nb.weak (Nb.ext (f5 (more_ne h rfl)) ((Ext.refl W).alloc _)) (fun h => more_ne h rfl), fun _ h => (f5 (more_ne h rfl)).fresh.symm⟩)
          clear hK hC hW hL HV f4 f5 d4_5
          rw [HFR.out]
          go_wp2_with fail
          show K _ _
          have := H.out
          rw [HFR.out] at this
          exact this
        · rintro L A W K hL hC hW ⟨V, rfl, HS, HV, xp, f4, f5, d4_5⟩ hK
          have H := Lib.hid (hK _ _ ⟨upd V 5 (.pointer (some ⟨W.heap.size, 0, none⟩)), rfl, HS.al _, HV.up 5 _ (fun x hx => absurd hx (by intro h; cases h)), Cs.alloc xp _, fun h => Nb.weak (Nb.ext (f4 (more_ne h rfl)) ((Ext.refl W).alloc _)) (fun h => more_ne h rfl), fun _ => Nb.new2 HS.2.size (fresh_cons xp.lt HS) _ (by show More L 5 7 = false; unfold More; rw [if_neg (by decide)]; exact hC.no hL 7 _ rfl rfl) _, fun h _ => (f4 (more_ne h rfl)).fresh⟩)
          clear hK hC hW hL HV f4 f5 d4_5
          rw [HFR.out]
          go_wp2_with fail
          show K _ _
          have := H.out
          rw [HFR.out] at this
          exact this
        · rintro L A W K hL hC hW ⟨V, rfl, HS, HV, xp, f4, f5, d4_5⟩ hK
          have e1 : V 1 = wv (a) := HV 1 _ rfl (hW 1 rfl)
          have u1 : (V) 1 = wv (a) := e1
          have HU := Lib.hid (show (V) 1 = wv (a) from u1)
          clear u1
          rw [HFR.out]
          rw [e1]
          refine wpList_store_nb2 rfl rfl (.tmp 6) (.tmp 32) rfl winfo HS (fun x hx => List.mem_cons_of_mem _ hx) (f4 (hW 4 rfl)) rfl rfl ?_
          intro W' g hg hne HS' hn hgr
          show K _ _
          have := hK _ _ ⟨V, rfl, HS', HV.st 6 rfl, xp.kept hgr (some_ne (hne (wr.heap.size, 0) List.mem_cons_self)), fun _ => hn _, fun h => (Nb.other (f5 (more_ne h rfl)) hgr (by rw [← hg]; exact (d4_5 (hW 4 rfl) (more_ne h rfl)).symm)).weak (fun h => more_ne h rfl), fun h h' => d4_5 (more_ne h rfl) (more_ne h' rfl)⟩
          rw [HFR.out] at this
          obtain u1 := HU.out
          rw [u1] at this
          exact this
        · rintro L A W K hL hC hW ⟨V, rfl, HS, HV, xp, f4, f5, d4_5⟩ hK
          have e3 : V 3 = wv (b) := HV 3 _ rfl (hW 3 rfl)
          have u3 : (V) 3 = wv (b) := e3
          have HU := Lib.hid (show (V) 3 = wv (b) from u3)
          clear u3
          rw [HFR.out]
          rw [e3]
          refine wpList_store_nb2 rfl rfl (.tmp 7) (.tmp 34) rfl winfo HS (fun x hx => List.mem_cons_of_mem _ hx) (f5 (hW 5 rfl)) rfl rfl ?_
          intro W' g hg hne HS' hn hgr
          show K _ _
          have := hK _ _ ⟨V, rfl, HS', HV.st 7 rfl, xp.kept hgr (some_ne (hne (wr.heap.size, 0) List.mem_cons_self)), fun h => (Nb.other (f4 (more_ne h rfl)) hgr (by rw [← hg]; exact d4_5 (more_ne h rfl) (hW 5 rfl))).weak (fun h => more_ne h rfl), fun _ => hn _, fun h h' => d4_5 (more_ne h rfl) (more_ne h' rfl)⟩
          rw [HFR.out] at this
          obtain u3 := HU.out
          rw [u3] at this
          exact this
        · rintro L A W hL ⟨V, rfl, HS, HV, xp, f4, f5, d4_5⟩
          have e0 : V 0 = .pointer (some ⟨wr.heap.size, 0, none⟩) := HV 0 _ rfl (hL 0 (by simp))
          have e1 : V 1 = wv (a) := HV 1 _ rfl (hL 1 (by simp))
          have e2 : V 2 = .pointer (some ⟨wr.heap.size, 4, none⟩) := HV 2 _ rfl (hL 2 (by simp))
          have e3 : V 3 = wv (b) := HV 3 _ rfl (hL 3 (by simp))
          obtain ⟨g6, p6, hb6, hn6, k6⟩ := Nb.done (Nb.weak (f4 (hL 4 (by simp))) (fun _ => hL 6 (by simp)))
          obtain ⟨g7, p7, hb7, hn7, k7⟩ := Nb.done (Nb.weak (f5 (hL 5 (by simp))) (fun _ => hL 7 (by simp)))
          rw [HFR.out]
          rw [e0, e1, e2, e3, p6, p7]
          clear hL HV e0 e1 e2 e3 p6 p7 f4 f5 d4_5
          have HS := HS.two k6 k7
          have HN := Lib.hid (show ∀ x ∈ [(g6, a), (g7, b)], some x.1 ≠ u3.ownBlock from fun x hx e => by
            have h := (HO.out.lt x.1 e.symm).2
            simp only [List.mem_cons, List.not_mem_nil, or_false] at hx
            rcases hx with rfl | rfl <;> omega)
          clear HFR hn6 k6 hn7 k7 KP xp
          have hsz : w.heap.size ≤ W.heap.size := Nat.le_trans he.out.size HS.2.size
          have HO2 := Lib.hid (World.ownsRow.alloc (own_ext HO.out HS.2) (.cells (wc a) 27))
          have HE2 := Lib.hid ((he.out.trans HS.2).alloc (.cells (wc a) 27))
          have HS := (show Ks w [(g6, a), (g7, b)] W from ⟨HS.1, he.out.trans HS.2⟩)
          clear HO he hb6 hb7
          go_wp2_with (first
            | ((with_reducible refine wpList_load_wordG ?_ 27 25 (.tmp 6) rfl Try.underlying27 winfo (g6) (a) ?_ ?_ ?_); (exact rfl); (exact rfl); (exact HS.at (g6) (a) (by simp)))
            | ((with_reducible refine wpList_build_word ?_ (.tmp 36) ?_ a ?_ ?_); (exact rfl); (exact rfl); (exact rfl))
            | (refine wpList_append_row rfl (.tmp 35) (.tmp 37) 24 rfl w.heap.size 27 Try.underlying24 _ 4 32 winfo3 rfl (by decide) u3 k _ rfl HO2.out _ 1 (wc a).toList rfl (Rs.new _ _ _ _ _ rfl (by decide)) (wc_ones a) (by omega) (by decide) (by simp; omega) ?_; intro v' w3 ho3 hg3 _; rw [wcs_snoc, HP.out] at ho3; have HO3 := Lib.hid ho3; have HS := (HS.al (.cells (wc a) 27)).app (HE2.out.appendR HO2.out hg3) hg3 HN.out; clear ho3 hg3 HN HO2 HE2)
            | ((with_reducible refine wpList_load_wordG ?_ 27 25 (.tmp 7) rfl Try.underlying27 winfo (g7) (b) ?_ ?_ ?_); (exact rfl); (exact rfl); (exact HS.at (g7) (b) (by simp))))
          clear HP hsz
          refine (add_w a b _ ha hb).mono ?_
          rintro e w5 ⟨rfl, _, he⟩
          have HS := HS.ext he
          have HO5 := Lib.hid (own_ext HO3.out he)
          clear he
          go_wp2_with (first
            | ((with_reducible refine wpList_store_word rfl rfl 27 (.tmp 8) (.tmp 43) rfl winfo (w5.heap.size) (wc 0) (addN a b) ?_ ?_ ?_ ?_ ?_); (exact rfl); (exact rfl); (exact heap_alloc_new _ _); (exact rfl); intro w6 kz gz; have HS := HS.put gz kz; have HX := Lib.hid (((Ext.refl _).alloc _).grown gz (Nat.le_refl _)); clear kz gz)
            | ((with_reducible refine wpList_load_wordG ?_ 27 25 (.tmp 6) rfl Try.underlying27 winfo (g6) (a) ?_ ?_ ?_); (exact rfl); (exact rfl); (exact HS.at (g6) (a) (by simp)))
            | ((with_reducible refine wpList_load_wordG ?_ 27 25 (.tmp 7) rfl Try.underlying27 winfo (g7) (b) ?_ ?_ ?_); (exact rfl); (exact rfl); (exact HS.at (g7) (b) (by simp))))
          refine (refAdd_any a b _ ha hb).mono ?_
          rintro e w7 ⟨rfl, _, he⟩
          have HS := HS.ext he
          have HO7 := Lib.hid (own_ext (own_ext HO5.out HX.out) he)
          clear he HO5 HX
          go_wp2_with (first
            | ((with_reducible refine wpList_store_word rfl rfl 27 (.tmp 10) (.tmp 49) rfl winfo (w7.heap.size) (wc 0) (addN a b) ?_ ?_ ?_ ?_ ?_); (exact rfl); (exact rfl); (exact heap_alloc_new _ _); (exact rfl); intro w8 kz gz; have HS := HS.put gz kz; have HX := Lib.hid (((Ext.refl _).alloc _).grown gz (Nat.le_refl _)); clear kz gz)
            | ((with_reducible refine wpList_load_wordG ?_ 27 25 (.tmp 6) rfl Try.underlying27 winfo (g6) (a) ?_ ?_ ?_); (exact rfl); (exact rfl); (exact HS.at (g6) (a) (by simp)))
            | ((with_reducible refine wpList_load_wordG ?_ 27 25 (.tmp 7) rfl Try.underlying27 winfo (g7) (b) ?_ ?_ ?_); (exact rfl); (exact rfl); (exact HS.at (g7) (b) (by simp))))
          refine (sub_w a b _ ha hb).mono ?_
          rintro e w9 ⟨rfl, _, he⟩
          have HS := HS.ext he
          have HO9 := Lib.hid (own_ext (own_ext HO7.out HX.out) he)
          clear he HO7 HX
          go_wp2_with (first
            | ((with_reducible refine wpList_store_word rfl rfl 27 (.tmp 12) (.tmp 55) rfl winfo (w9.heap.size) (wc 0) (subN a b) ?_ ?_ ?_ ?_ ?_); (exact rfl); (exact rfl); (exact heap_alloc_new _ _); (exact rfl); intro w10 kz gz; have HS := HS.put gz kz; have HX := Lib.hid (((Ext.refl _).alloc _).grown gz (Nat.le_refl _)); clear kz gz)
            | ((with_reducible refine wpList_load_wordG ?_ 27 25 (.tmp 6) rfl Try.underlying27 winfo (g6) (a) ?_ ?_ ?_); (exact rfl); (exact rfl); (exact HS.at (g6) (a) (by simp)))
            | ((with_reducible refine wpList_load_wordG ?_ 27 25 (.tmp 7) rfl Try.underlying27 winfo (g7) (b) ?_ ?_ ?_); (exact rfl); (exact rfl); (exact HS.at (g7) (b) (by simp))))
          refine (refSub_any a b _ ha hb).mono ?_
          rintro e w11 ⟨rfl, _, he⟩
          have HS := HS.ext he
          have HO11 := Lib.hid (own_ext (own_ext HO9.out HX.out) he)
          clear he HO9 HX
          go_wp2_with (first
            | ((with_reducible refine wpList_store_word rfl rfl 27 (.tmp 14) (.tmp 61) rfl winfo (w11.heap.size) (wc 0) (subN a b) ?_ ?_ ?_ ?_ ?_); (exact rfl); (exact rfl); (exact heap_alloc_new _ _); (exact rfl); intro w12 kz gz; have HS := HS.put gz kz; have HX := Lib.hid (((Ext.refl _).alloc _).grown gz (Nat.le_refl _)); clear kz gz)
            | ((with_reducible refine wpList_load_wordG ?_ 27 25 (.tmp 6) rfl Try.underlying27 winfo (g6) (a) ?_ ?_ ?_); (exact rfl); (exact rfl); (exact HS.at (g6) (a) (by simp)))
            | ((with_reducible refine wpList_load_wordG ?_ 27 25 (.tmp 7) rfl Try.underlying27 winfo (g7) (b) ?_ ?_ ?_); (exact rfl); (exact rfl); (exact HS.at (g7) (b) (by simp))))
          have HO12 := Lib.hid (own_ext HO11.out HX.out)
          clear HO11
          have HE12 := Lib.hid HS.2
          have HS := (show Ks w12 [(w11.heap.size, subN a b), (w9.heap.size, subN a b), (w7.heap.size, addN a b), (w5.heap.size, addN a b), (g6, a), (g7, b)] w12 from ⟨HS.1, Ext.refl _⟩)
          clear HO3 HX
          refine wp_named fun a0 ha0 => ?_
          obtain ⟨fr, hfr⟩ : ∃ fr : (Nat → Value) → Act, ∀ V, fr V = (((((((((((((((((((((((((((a0.put (some 63) (V 0)).put (some 64) (V 1)).put (some 65) (V 2)).put (some 66) (V 3)).put (some 67) (V 4)).put (some 68) (V 5)).put (some 69) (V 6)).put (some 70) (V 7)).put (some 71) (V 8)).put (some 72) (V 9)).put (some 73) (V 10)).put (some 74) (V 11)).put (some 75) (V 12)).put (some 76) (V 13)).put (some 77) (V 14)).put (some 78) (V 15)).put (some 79) (V 16)).put (some 80) (V 17)).put (some 81) (V 18)).put (some 82) (V 19)).put (some 83) (V 20)).put (some 84) (V 21)).put (some 85) (V 22)).put (some 86) (V 23)).put (some 87) (V 24)).put (some 88) (V 25)).put (some 89) (V 26)) := ⟨fun V => (((((((((((((((((((((((((((a0.put (some 63) (V 0)).put (some 64) (V 1)).put (some 65) (V 2)).put (some 66) (V 3)).put (some 67) (V 4)).put (some 68) (V 5)).put (some 69) (V 6)).put (some 70) (V 7)).put (some 71) (V 8)).put (some 72) (V 9)).put (some 73) (V 10)).put (some 74) (V 11)).put (some 75) (V 12)).put (some 76) (V 13)).put (some 77) (V 14)).put (some 78) (V 15)).put (some 79) (V 16)).put (some 80) (V 17)).put (some 81) (V 18)).put (some 82) (V 19)).put (some 83) (V 20)).put (some 84) (V 21)).put (some 85) (V 22)).put (some 86) (V 23)).put (some 87) (V 24)).put (some 88) (V 25)).put (some 89) (V 26)), fun _ => rfl⟩
          rw [ha0] at hfr
          simp only [Act.put, List.setIfInBounds_toArray, List.set_cons_zero, List.set_cons_succ] at hfr
          have HFR := Lib.hid hfr
          clear hfr
          refine wp_region_inv (by kernel_rfl) (by kernel_rfl) (fun L A W => ∃ V : Nat → Value, A = fr V ∧ Ks w12 [(w11.heap.size, subN a b), (w9.heap.size, subN a b), (w7.heap.size, addN a b), (w5.heap.size, addN a b), (g6, a), (g7, b)] W ∧ Vals (fun j => ([some (wv (addN a b)), some (wv (addN a b)), some (.bool false), some (.bool false), some (.bool (ovr a b)), some (.bool (ovr a b)), some (.bool false), some (.bool false), some (.bool false), some (wv (subN a b)), some (wv (subN a b)), some (.bool false), some (.bool false), some (.bool false), some (.bool (und a b)), some (.bool (und a b)), some (.bool false), some (.bool false), some (.bool false), some (wv (a)), some (wv (b)), some (.int .i64 (cmpN a b)), some (wv (a)), some (wv (b)), some (.int .i64 (cmpN a b)), some (.bool false), some (.bool false)] : List (Option Value)).getD j none) L V) ?_ ⟨?_, ?_, ?_, ?_, ?_, ?_, ?_, ?_, ?_, ?_, ?_, ?_, ?_, ?_, ?_, ?_, ?_, ?_, ?_, ?_, ?_, ?_, ?_, ?_, ?_, ?_, ?_, trivial⟩ ?_
          · refine ⟨fun j => a0.tmps.getD (([63, 64, 65, 66, 67, 68, 69, 70, 71, 72, 73, 74, 75, 76, 77, 78, 79, 80, 81, 82, 83, 84, 85, 86, 87, 88, 89] : List Nat).getD j 0) undef, ?_, HS.drew, Vals.no _ _ _ (far_none _ _ rfl)⟩
            rw [HFR.out, ha0]
            rfl
          all_goals clear ha0
          · rintro L A W K hL hC hW ⟨V, rfl, HS, HV⟩ hK
            have H := Lib.hid (show ∀ W', Ext W W' → K (fr (upd V 0 (wv (addN a b)))) W' from fun W' he => hK _ _ ⟨upd V 0 (wv (addN a b)), rfl, HS.ext he, HV.up 0 _ (fun x hx => Option.some.inj hx)⟩)
            clear hK hC hW hL HV 
            rw [HFR.out]
            refine wpList_load_wordG rfl 27 25 (.tmp 8) rfl Try.underlying27 winfo (w5.heap.size) (addN a b) rfl (HS.at (w5.heap.size) (addN a b) (by simp)) ?_
            show K _ _
            have := H.out _ (Ext.refl _)
            rw [HFR.out] at this
            exact this
          · rintro L A W K hL hC hW ⟨V, rfl, HS, HV⟩ hK
            have H := Lib.hid (show ∀ W', Ext W W' → K (fr (upd V 1 (wv (addN a b)))) W' from fun W' he => hK _ _ ⟨upd V 1 (wv (addN a b)), rfl, HS.ext he, HV.up 1 _ (fun x hx => Option.some.inj hx)⟩)
            clear hK hC hW hL HV 
            rw [HFR.out]
            refine wpList_load_wordG rfl 27 25 (.tmp 10) rfl Try.underlying27 winfo (w7.heap.size) (addN a b) rfl (HS.at (w7.heap.size) (addN a b) (by simp)) ?_
            show K _ _
            have := H.out _ (Ext.refl _)
            rw [HFR.out] at this
            exact this
          · rintro L A W K hL hC hW ⟨V, rfl, HS, HV⟩ hK
            have e0 : V 0 = wv (addN a b) := HV 0 _ rfl (hW 0 rfl)
            have e1 : V 1 = wv (addN a b) := HV 1 _ rfl (hW 1 rfl)
            have u0 : (upd V 2 (.bool false)) 0 = wv (addN a b) := e0
            have u1 : (upd V 2 (.bool false)) 1 = wv (addN a b) := e1
            have HU := Lib.hid (show (upd V 2 (.bool false)) 0 = wv (addN a b) ∧ (upd V 2 (.bool false)) 1 = wv (addN a b) from ⟨u0, u1⟩)
            clear u0 u1
            have H := Lib.hid (show ∀ W', Ext W W' → K (fr (upd V 2 (.bool false))) W' from fun W' he => hK _ _ ⟨upd V 2 (.bool false), rfl, HS.ext he, HV.up 2 _ (fun x hx => Option.some.inj hx)⟩)
            clear hK hC hW hL HV 
            rw [HFR.out]
            rw [e0, e1]
            clear e0 e1
            refine wpList_neq_word rfl (.tmp 63) (.tmp 64) rfl (addN a b) (addN a b) (addN_lt a b) (addN_lt a b) rfl rfl ?_
            rw [show ((addN a b) != (addN a b)) = false from bne_self_eq_false _]
            show K _ _
            have := H.out _ (Ext.refl _)
            rw [HFR.out] at this
            obtain ⟨u0, u1⟩ := HU.out
            rw [u0, u1] at this
            exact this
          · rintro L A W K hL hC hW ⟨V, rfl, HS, HV⟩ hK
            have e2 : V 2 = .bool false := HV 2 _ rfl (hW 2 rfl)
            have u2 : (upd V 3 (.bool false)) 2 = .bool false := e2
            have HU := Lib.hid (show (upd V 3 (.bool false)) 2 = .bool false from u2)
            clear u2
            have H := Lib.hid (show ∀ W', Ext W W' → K (fr (upd V 3 (.bool false))) W' from fun W' he => hK _ _ ⟨upd V 3 (.bool false), rfl, HS.ext he, HV.up 3 _ (fun x hx => Option.some.inj hx)⟩)
            clear hK hC hW hL HV 
            rw [HFR.out]
            rw [e2]
            clear e2
            go_wp2_with fail
            show K _ _
            have := H.out _ (Ext.refl _)
            rw [HFR.out] at this
            obtain u2 := HU.out
            rw [u2] at this
            exact this
          · rintro L A W K hL hC hW ⟨V, rfl, HS, HV⟩ hK
            have e3 : V 3 = .bool false := HV 3 _ rfl (hW 3 rfl)
            have u3 : (upd V 4 (.bool (ovr a b))) 3 = .bool false := e3
            have HU := Lib.hid (show (upd V 4 (.bool (ovr a b))) 3 = .bool false from u3)
            clear u3
            have H := Lib.hid (show ∀ W', Ext W W' → K (fr (upd V 4 (.bool (ovr a b)))) W' from fun W' he => hK _ _ ⟨upd V 4 (.bool (ovr a b)), rfl, HS.ext he, HV.up 4 _ (fun x hx => Option.some.inj hx)⟩)
            clear hK hC hW hL HV 
            rw [HFR.out]
            rw [e3]
            clear e3
            go_wp2_with fail
            show K _ _
            have := H.out _ (Ext.refl _)
            rw [HFR.out] at this
            obtain u3 := HU.out
            rw [u3] at this
            exact this
          · rintro L A W K hL hC hW ⟨V, rfl, HS, HV⟩ hK
            have e3 : V 3 = .bool false := HV 3 _ rfl (hW 3 rfl)
            have u3 : (upd V 5 (.bool (ovr a b))) 3 = .bool false := e3
            have HU := Lib.hid (show (upd V 5 (.bool (ovr a b))) 3 = .bool false from u3)
            clear u3
            have H := Lib.hid (show ∀ W', Ext W W' → K (fr (upd V 5 (.bool (ovr a b)))) W' from fun W' he => hK _ _ ⟨upd V 5 (.bool (ovr a b)), rfl, HS.ext he, HV.up 5 _ (fun x hx => Option.some.inj hx)⟩)
            clear hK hC hW hL HV 
            rw [HFR.out]
            rw [e3]
            clear e3
            go_wp2_with fail
            show K _ _
            have := H.out _ (Ext.refl _)
            rw [HFR.out] at this
            obtain u3 := HU.out
            rw [u3] at this
            exact this
          · rintro L A W K hL hC hW ⟨V, rfl, HS, HV⟩ hK
            have e3 : V 3 = .bool false := HV 3 _ rfl (hW 3 rfl)
            have e4 : V 4 = .bool (ovr a b) := HV 4 _ rfl (hW 4 rfl)
            have e5 : V 5 = .bool (ovr a b) := HV 5 _ rfl (hW 5 rfl)
            have u3 : (upd V 6 (.bool false)) 3 = .bool false := e3
            have u4 : (upd V 6 (.bool false)) 4 = .bool (ovr a b) := e4
            have u5 : (upd V 6 (.bool false)) 5 = .bool (ovr a b) := e5
            have HU := Lib.hid (show (upd V 6 (.bool false)) 3 = .bool false ∧ (upd V 6 (.bool false)) 4 = .bool (ovr a b) ∧ (upd V 6 (.bool false)) 5 = .bool (ovr a b) from ⟨u3, u4, u5⟩)
            clear u3 u4 u5
            have H := Lib.hid (show ∀ W', Ext W W' → K (fr (upd V 6 (.bool false))) W' from fun W' he => hK _ _ ⟨upd V 6 (.bool false), rfl, HS.ext he, HV.up 6 _ (fun x hx => Option.some.inj hx)⟩)
            clear hK hC hW hL HV 
            rw [HFR.out]
            rw [e3, e4, e5]
            clear e3 e4 e5
            go_wp2_with fail
            show K _ _
            have := H.out _ (Ext.refl _)
            rw [HFR.out] at this
            obtain ⟨u3, u4, u5⟩ := HU.out
            rw [u3, u4, u5] at this
            exact this
          · rintro L A W K hL hC hW ⟨V, rfl, HS, HV⟩ hK
            have e3 : V 3 = .bool false := HV 3 _ rfl (hW 3 rfl)
            have e6 : V 6 = .bool false := HV 6 _ rfl (hW 6 rfl)
            have u3 : (upd V 7 (.bool false)) 3 = .bool false := e3
            have u6 : (upd V 7 (.bool false)) 6 = .bool false := e6
            have HU := Lib.hid (show (upd V 7 (.bool false)) 3 = .bool false ∧ (upd V 7 (.bool false)) 6 = .bool false from ⟨u3, u6⟩)
            clear u3 u6
            have H := Lib.hid (show ∀ W', Ext W W' → K (fr (upd V 7 (.bool false))) W' from fun W' he => hK _ _ ⟨upd V 7 (.bool false), rfl, HS.ext he, HV.up 7 _ (fun x hx => Option.some.inj hx)⟩)
            clear hK hC hW hL HV 
            rw [HFR.out]
            rw [e3, e6]
            clear e3 e6
            go_wp2_with fail
            show K _ _
            have := H.out _ (Ext.refl _)
            rw [HFR.out] at this
            obtain ⟨u3, u6⟩ := HU.out
            rw [u3, u6] at this
            exact this
          · rintro L A W K hL hC hW ⟨V, rfl, HS, HV⟩ hK
            have e7 : V 7 = .bool false := HV 7 _ rfl (hW 7 rfl)
            have u7 : (upd V 8 (.bool false)) 7 = .bool false := e7
            have HU := Lib.hid (show (upd V 8 (.bool false)) 7 = .bool false from u7)
            clear u7
            have H := Lib.hid (show ∀ W', Ext W W' → K (fr (upd V 8 (.bool false))) W' from fun W' he => hK _ _ ⟨upd V 8 (.bool false), rfl, HS.ext he, HV.up 8 _ (fun x hx => Option.some.inj hx)⟩)
            clear hK hC hW hL HV 
            rw [HFR.out]
            rw [e7]
            clear e7
            go_wp2_with fail
            show K _ _
            have := H.out _ (Ext.refl _)
            rw [HFR.out] at this
            obtain u7 := HU.out
            rw [u7] at this
            exact this
          · rintro L A W K hL hC hW ⟨V, rfl, HS, HV⟩ hK
            have e8 : V 8 = .bool false := HV 8 _ rfl (hW 8 rfl)
            have u8 : (upd V 9 (wv (subN a b))) 8 = .bool false := e8
            have HU := Lib.hid (show (upd V 9 (wv (subN a b))) 8 = .bool false from u8)
            clear u8
            have H := Lib.hid (show ∀ W', Ext W W' → K (fr (upd V 9 (wv (subN a b)))) W' from fun W' he => hK _ _ ⟨upd V 9 (wv (subN a b)), rfl, HS.ext he, HV.up 9 _ (fun x hx => Option.some.inj hx)⟩)
            clear hK hC hW hL HV 
            rw [HFR.out]
            rw [e8]
            clear e8
            refine wpList_load_wordG rfl 27 25 (.tmp 12) rfl Try.underlying27 winfo (w9.heap.size) (subN a b) rfl (HS.at (w9.heap.size) (subN a b) (by simp)) ?_
            show K _ _
            have := H.out _ (Ext.refl _)
            rw [HFR.out] at this
            obtain u8 := HU.out
            rw [u8] at this
            exact this
          · rintro L A W K hL hC hW ⟨V, rfl, HS, HV⟩ hK
            have e8 : V 8 = .bool false := HV 8 _ rfl (hW 8 rfl)
            have u8 : (upd V 10 (wv (subN a b))) 8 = .bool false := e8
            have HU := Lib.hid (show (upd V 10 (wv (subN a b))) 8 = .bool false from u8)
            clear u8
            have H := Lib.hid (show ∀ W', Ext W W' → K (fr (upd V 10 (wv (subN a b)))) W' from fun W' he => hK _ _ ⟨upd V 10 (wv (subN a b)), rfl, HS.ext he, HV.up 10 _ (fun x hx => Option.some.inj hx)⟩)
            clear hK hC hW hL HV 
            rw [HFR.out]
            rw [e8]
            clear e8
            refine wpList_load_wordG rfl 27 25 (.tmp 14) rfl Try.underlying27 winfo (w11.heap.size) (subN a b) rfl (HS.at (w11.heap.size) (subN a b) (by simp)) ?_
            show K _ _
            have := H.out _ (Ext.refl _)
            rw [HFR.out] at this
            obtain u8 := HU.out
            rw [u8] at this
            exact this
          · rintro L A W K hL hC hW ⟨V, rfl, HS, HV⟩ hK
            have e8 : V 8 = .bool false := HV 8 _ rfl (hW 8 rfl)
            have e9 : V 9 = wv (subN a b) := HV 9 _ rfl (hW 9 rfl)
            have e10 : V 10 = wv (subN a b) := HV 10 _ rfl (hW 10 rfl)
            have u8 : (upd V 11 (.bool false)) 8 = .bool false := e8
            have u9 : (upd V 11 (.bool false)) 9 = wv (subN a b) := e9
            have u10 : (upd V 11 (.bool false)) 10 = wv (subN a b) := e10
            have HU := Lib.hid (show (upd V 11 (.bool false)) 8 = .bool false ∧ (upd V 11 (.bool false)) 9 = wv (subN a b) ∧ (upd V 11 (.bool false)) 10 = wv (subN a b) from ⟨u8, u9, u10⟩)
            clear u8 u9 u10
            have H := Lib.hid (show ∀ W', Ext W W' → K (fr (upd V 11 (.bool false))) W' from fun W' he => hK _ _ ⟨upd V 11 (.bool false), rfl, HS.ext he, HV.up 11 _ (fun x hx => Option.some.inj hx)⟩)
            clear hK hC hW hL HV 
            rw [HFR.out]
            rw [e8, e9, e10]
            clear e8 e9 e10
            refine wpList_neq_word rfl (.tmp 72) (.tmp 73) rfl (subN a b) (subN a b) (subN_lt a b) (subN_lt a b) rfl rfl ?_
            rw [show ((subN a b) != (subN a b)) = false from bne_self_eq_false _]
            show K _ _
            have := H.out _ (Ext.refl _)
            rw [HFR.out] at this
            obtain ⟨u8, u9, u10⟩ := HU.out
            rw [u8, u9, u10] at this
            exact this
          · rintro L A W K hL hC hW ⟨V, rfl, HS, HV⟩ hK
            have e8 : V 8 = .bool false := HV 8 _ rfl (hW 8 rfl)
            have e11 : V 11 = .bool false := HV 11 _ rfl (hW 11 rfl)
            have u8 : (upd V 12 (.bool false)) 8 = .bool false := e8
            have u11 : (upd V 12 (.bool false)) 11 = .bool false := e11
            have HU := Lib.hid (show (upd V 12 (.bool false)) 8 = .bool false ∧ (upd V 12 (.bool false)) 11 = .bool false from ⟨u8, u11⟩)
            clear u8 u11
            have H := Lib.hid (show ∀ W', Ext W W' → K (fr (upd V 12 (.bool false))) W' from fun W' he => hK _ _ ⟨upd V 12 (.bool false), rfl, HS.ext he, HV.up 12 _ (fun x hx => Option.some.inj hx)⟩)
            clear hK hC hW hL HV 
            rw [HFR.out]
            rw [e8, e11]
            clear e8 e11
            go_wp2_with fail
            show K _ _
            have := H.out _ (Ext.refl _)
            rw [HFR.out] at this
            obtain ⟨u8, u11⟩ := HU.out
            rw [u8, u11] at this
            exact this
          · rintro L A W K hL hC hW ⟨V, rfl, HS, HV⟩ hK
            have e12 : V 12 = .bool false := HV 12 _ rfl (hW 12 rfl)
            have u12 : (upd V 13 (.bool false)) 12 = .bool false := e12
            have HU := Lib.hid (show (upd V 13 (.bool false)) 12 = .bool false from u12)
            clear u12
            have H := Lib.hid (show ∀ W', Ext W W' → K (fr (upd V 13 (.bool false))) W' from fun W' he => hK _ _ ⟨upd V 13 (.bool false), rfl, HS.ext he, HV.up 13 _ (fun x hx => Option.some.inj hx)⟩)
            clear hK hC hW hL HV 
            rw [HFR.out]
            rw [e12]
            clear e12
            go_wp2_with fail
            show K _ _
            have := H.out _ (Ext.refl _)
            rw [HFR.out] at this
            obtain u12 := HU.out
            rw [u12] at this
            exact this
          · rintro L A W K hL hC hW ⟨V, rfl, HS, HV⟩ hK
            have e13 : V 13 = .bool false := HV 13 _ rfl (hW 13 rfl)
            have u13 : (upd V 14 (.bool (und a b))) 13 = .bool false := e13
            have HU := Lib.hid (show (upd V 14 (.bool (und a b))) 13 = .bool false from u13)
            clear u13
            have H := Lib.hid (show ∀ W', Ext W W' → K (fr (upd V 14 (.bool (und a b)))) W' from fun W' he => hK _ _ ⟨upd V 14 (.bool (und a b)), rfl, HS.ext he, HV.up 14 _ (fun x hx => Option.some.inj hx)⟩)
            clear hK hC hW hL HV 
            rw [HFR.out]
            rw [e13]
            clear e13
            go_wp2_with fail
            show K _ _
            have := H.out _ (Ext.refl _)
            rw [HFR.out] at this
            obtain u13 := HU.out
            rw [u13] at this
            exact this
          · rintro L A W K hL hC hW ⟨V, rfl, HS, HV⟩ hK
            have e13 : V 13 = .bool false := HV 13 _ rfl (hW 13 rfl)
            have u13 : (upd V 15 (.bool (und a b))) 13 = .bool false := e13
            have HU := Lib.hid (show (upd V 15 (.bool (und a b))) 13 = .bool false from u13)
            clear u13
            have H := Lib.hid (show ∀ W', Ext W W' → K (fr (upd V 15 (.bool (und a b)))) W' from fun W' he => hK _ _ ⟨upd V 15 (.bool (und a b)), rfl, HS.ext he, HV.up 15 _ (fun x hx => Option.some.inj hx)⟩)
            clear hK hC hW hL HV 
            rw [HFR.out]
            rw [e13]
            clear e13
            go_wp2_with fail
            show K _ _
            have := H.out _ (Ext.refl _)
            rw [HFR.out] at this
            obtain u13 := HU.out
            rw [u13] at this
            exact this
          · rintro L A W K hL hC hW ⟨V, rfl, HS, HV⟩ hK
            have e13 : V 13 = .bool false := HV 13 _ rfl (hW 13 rfl)
            have e14 : V 14 = .bool (und a b) := HV 14 _ rfl (hW 14 rfl)
            have e15 : V 15 = .bool (und a b) := HV 15 _ rfl (hW 15 rfl)
            have u13 : (upd V 16 (.bool false)) 13 = .bool false := e13
            have u14 : (upd V 16 (.bool false)) 14 = .bool (und a b) := e14
            have u15 : (upd V 16 (.bool false)) 15 = .bool (und a b) := e15
            have HU := Lib.hid (show (upd V 16 (.bool false)) 13 = .bool false ∧ (upd V 16 (.bool false)) 14 = .bool (und a b) ∧ (upd V 16 (.bool false)) 15 = .bool (und a b) from ⟨u13, u14, u15⟩)
            clear u13 u14 u15
            have H := Lib.hid (show ∀ W', Ext W W' → K (fr (upd V 16 (.bool false))) W' from fun W' he => hK _ _ ⟨upd V 16 (.bool false), rfl, HS.ext he, HV.up 16 _ (fun x hx => Option.some.inj hx)⟩)
            clear hK hC hW hL HV 
            rw [HFR.out]
            rw [e13, e14, e15]
            clear e13 e14 e15
            go_wp2_with fail
            show K _ _
            have := H.out _ (Ext.refl _)
            rw [HFR.out] at this
            obtain ⟨u13, u14, u15⟩ := HU.out
            rw [u13, u14, u15] at this
            exact this
          · rintro L A W K hL hC hW ⟨V, rfl, HS, HV⟩ hK
            have e13 : V 13 = .bool false := HV 13 _ rfl (hW 13 rfl)
            have e16 : V 16 = .bool false := HV 16 _ rfl (hW 16 rfl)
            have u13 : (upd V 17 (.bool false)) 13 = .bool false := e13
            have u16 : (upd V 17 (.bool false)) 16 = .bool false := e16
            have HU := Lib.hid (show (upd V 17 (.bool false)) 13 = .bool false ∧ (upd V 17 (.bool false)) 16 = .bool false from ⟨u13, u16⟩)
            clear u13 u16
            have H := Lib.hid (show ∀ W', Ext W W' → K (fr (upd V 17 (.bool false))) W' from fun W' he => hK _ _ ⟨upd V 17 (.bool false), rfl, HS.ext he, HV.up 17 _ (fun x hx => Option.some.inj hx)⟩)
            clear hK hC hW hL HV 
            rw [HFR.out]
            rw [e13, e16]
            clear e13 e16
            go_wp2_with fail
            show K _ _
            have := H.out _ (Ext.refl _)
            rw [HFR.out] at this
            obtain ⟨u13, u16⟩ := HU.out
            rw [u13, u16] at this
            exact this
          · rintro L A W K hL hC hW ⟨V, rfl, HS, HV⟩ hK
            have e17 : V 17 = .bool false := HV 17 _ rfl (hW 17 rfl)
            have u17 : (upd V 18 (.bool false)) 17 = .bool false := e17
            have HU := Lib.hid (show (upd V 18 (.bool false)) 17 = .bool false from u17)
            clear u17
            have H := Lib.hid (show ∀ W', Ext W W' → K (fr (upd V 18 (.bool false))) W' from fun W' he => hK _ _ ⟨upd V 18 (.bool false), rfl, HS.ext he, HV.up 18 _ (fun x hx => Option.some.inj hx)⟩)
            clear hK hC hW hL HV 
            rw [HFR.out]
            rw [e17]
            clear e17
            go_wp2_with fail
            show K _ _
            have := H.out _ (Ext.refl _)
            rw [HFR.out] at this
            obtain u17 := HU.out
            rw [u17] at this
            exact this
          · rintro L A W K hL hC hW ⟨V, rfl, HS, HV⟩ hK
            have e18 : V 18 = .bool false := HV 18 _ rfl (hW 18 rfl)
            have u18 : (upd V 19 (wv (a))) 18 = .bool false := e18
            have HU := Lib.hid (show (upd V 19 (wv (a))) 18 = .bool false from u18)
            clear u18
            have H := Lib.hid (show ∀ W', Ext W W' → K (fr (upd V 19 (wv (a)))) W' from fun W' he => hK _ _ ⟨upd V 19 (wv (a)), rfl, HS.ext he, HV.up 19 _ (fun x hx => Option.some.inj hx)⟩)
            clear hK hC hW hL HV 
            rw [HFR.out]
            rw [e18]
            clear e18
            refine wpList_load_wordG rfl 27 25 (.tmp 6) rfl Try.underlying27 winfo (g6) (a) rfl (HS.at (g6) (a) (by simp)) ?_
            show K _ _
            have := H.out _ (Ext.refl _)
            rw [HFR.out] at this
            obtain u18 := HU.out
            rw [u18] at this
            exact this
          · rintro L A W K hL hC hW ⟨V, rfl, HS, HV⟩ hK
            have e18 : V 18 = .bool false := HV 18 _ rfl (hW 18 rfl)
            have u18 : (upd V 20 (wv (b))) 18 = .bool false := e18
            have HU := Lib.hid (show (upd V 20 (wv (b))) 18 = .bool false from u18)
            clear u18
            have H := Lib.hid (show ∀ W', Ext W W' → K (fr (upd V 20 (wv (b)))) W' from fun W' he => hK _ _ ⟨upd V 20 (wv (b)), rfl, HS.ext he, HV.up 20 _ (fun x hx => Option.some.inj hx)⟩)
            clear hK hC hW hL HV 
            rw [HFR.out]
            rw [e18]
            clear e18
            refine wpList_load_wordG rfl 27 25 (.tmp 7) rfl Try.underlying27 winfo (g7) (b) rfl (HS.at (g7) (b) (by simp)) ?_
            show K _ _
            have := H.out _ (Ext.refl _)
            rw [HFR.out] at this
            obtain u18 := HU.out
            rw [u18] at this
            exact this
          · rintro L A W K hL hC hW ⟨V, rfl, HS, HV⟩ hK
            have e18 : V 18 = .bool false := HV 18 _ rfl (hW 18 rfl)
            have e19 : V 19 = wv (a) := HV 19 _ rfl (hW 19 rfl)
            have e20 : V 20 = wv (b) := HV 20 _ rfl (hW 20 rfl)
            have u18 : (upd V 21 (.int .i64 (cmpN a b))) 18 = .bool false := e18
            have u19 : (upd V 21 (.int .i64 (cmpN a b))) 19 = wv (a) := e19
            have u20 : (upd V 21 (.int .i64 (cmpN a b))) 20 = wv (b) := e20
            have HU := Lib.hid (show (upd V 21 (.int .i64 (cmpN a b))) 18 = .bool false ∧ (upd V 21 (.int .i64 (cmpN a b))) 19 = wv (a) ∧ (upd V 21 (.int .i64 (cmpN a b))) 20 = wv (b) from ⟨u18, u19, u20⟩)
            clear u18 u19 u20
            have H := Lib.hid (show ∀ W', Ext W W' → K (fr (upd V 21 (.int .i64 (cmpN a b)))) W' from fun W' he => hK _ _ ⟨upd V 21 (.int .i64 (cmpN a b)), rfl, HS.ext he, HV.up 21 _ (fun x hx => Option.some.inj hx)⟩)
            clear hK hC hW hL HV 
            rw [HFR.out]
            rw [e18, e19, e20]
            clear e18 e19 e20
            go_wp2_with fail
            refine (cmp_any a b _ ha hb).mono ?_
            rintro e wx ⟨rfl, he⟩
            have := H.out _ he
            clear H
            go_wp2_with fail
            show K _ _
            rw [HFR.out] at this
            obtain ⟨u18, u19, u20⟩ := HU.out
            rw [u18, u19, u20] at this
            exact this
          · rintro L A W K hL hC hW ⟨V, rfl, HS, HV⟩ hK
            have e18 : V 18 = .bool false := HV 18 _ rfl (hW 18 rfl)
            have u18 : (upd V 22 (wv (a))) 18 = .bool false := e18
            have HU := Lib.hid (show (upd V 22 (wv (a))) 18 = .bool false from u18)
            clear u18
            have H := Lib.hid (show ∀ W', Ext W W' → K (fr (upd V 22 (wv (a)))) W' from fun W' he => hK _ _ ⟨upd V 22 (wv (a)), rfl, HS.ext he, HV.up 22 _ (fun x hx => Option.some.inj hx)⟩)
            clear hK hC hW hL HV 
            rw [HFR.out]
            rw [e18]
            clear e18
            refine wpList_load_wordG rfl 27 25 (.tmp 6) rfl Try.underlying27 winfo (g6) (a) rfl (HS.at (g6) (a) (by simp)) ?_
            show K _ _
            have := H.out _ (Ext.refl _)
            rw [HFR.out] at this
            obtain u18 := HU.out
            rw [u18] at this
            exact this
          · rintro L A W K hL hC hW ⟨V, rfl, HS, HV⟩ hK
            have e18 : V 18 = .bool false := HV 18 _ rfl (hW 18 rfl)
            have u18 : (upd V 23 (wv (b))) 18 = .bool false := e18
            have HU := Lib.hid (show (upd V 23 (wv (b))) 18 = .bool false from u18)
            clear u18
            have H := Lib.hid (show ∀ W', Ext W W' → K (fr (upd V 23 (wv (b)))) W' from fun W' he => hK _ _ ⟨upd V 23 (wv (b)), rfl, HS.ext he, HV.up 23 _ (fun x hx => Option.some.inj hx)⟩)
            clear hK hC hW hL HV 
            rw [HFR.out]
            rw [e18]
            clear e18
            refine wpList_load_wordG rfl 27 25 (.tmp 7) rfl Try.underlying27 winfo (g7) (b) rfl (HS.at (g7) (b) (by simp)) ?_
            show K _ _
            have := H.out _ (Ext.refl _)
            rw [HFR.out] at this
            obtain u18 := HU.out
            rw [u18] at this
            exact this
          · rintro L A W K hL hC hW ⟨V, rfl, HS, HV⟩ hK
            have e18 : V 18 = .bool false := HV 18 _ rfl (hW 18 rfl)
            have e22 : V 22 = wv (a) := HV 22 _ rfl (hW 22 rfl)
            have e23 : V 23 = wv (b) := HV 23 _ rfl (hW 23 rfl)
            have u18 : (upd V 24 (.int .i64 (cmpN a b))) 18 = .bool false := e18
            have u22 : (upd V 24 (.int .i64 (cmpN a b))) 22 = wv (a) := e22
            have u23 : (upd V 24 (.int .i64 (cmpN a b))) 23 = wv (b) := e23
            have HU := Lib.hid (show (upd V 24 (.int .i64 (cmpN a b))) 18 = .bool false ∧ (upd V 24 (.int .i64 (cmpN a b))) 22 = wv (a) ∧ (upd V 24 (.int .i64 (cmpN a b))) 23 = wv (b) from ⟨u18, u22, u23⟩)
            clear u18 u22 u23
            have H := Lib.hid (show ∀ W', Ext W W' → K (fr (upd V 24 (.int .i64 (cmpN a b)))) W' from fun W' he => hK _ _ ⟨upd V 24 (.int .i64 (cmpN a b)), rfl, HS.ext he, HV.up 24 _ (fun x hx => Option.some.inj hx)⟩)
            clear hK hC hW hL HV 
            rw [HFR.out]
            rw [e18, e22, e23]
            clear e18 e22 e23
            go_wp2_with fail
            refine (refCmp_any a b _ ha hb).mono ?_
            rintro e wx ⟨rfl, he⟩
            have := H.out _ he
            clear H
            go_wp2_with fail
            show K _ _
            rw [HFR.out] at this
            obtain ⟨u18, u22, u23⟩ := HU.out
            rw [u18, u22, u23] at this
            exact this
          · rintro L A W K hL hC hW ⟨V, rfl, HS, HV⟩ hK
            have e18 : V 18 = .bool false := HV 18 _ rfl (hW 18 rfl)
            have e21 : V 21 = .int .i64 (cmpN a b) := HV 21 _ rfl (hW 21 rfl)
            have e24 : V 24 = .int .i64 (cmpN a b) := HV 24 _ rfl (hW 24 rfl)
            have u18 : (upd V 25 (.bool false)) 18 = .bool false := e18
            have u21 : (upd V 25 (.bool false)) 21 = .int .i64 (cmpN a b) := e21
            have u24 : (upd V 25 (.bool false)) 24 = .int .i64 (cmpN a b) := e24
            have HU := Lib.hid (show (upd V 25 (.bool false)) 18 = .bool false ∧ (upd V 25 (.bool false)) 21 = .int .i64 (cmpN a b) ∧ (upd V 25 (.bool false)) 24 = .int .i64 (cmpN a b) from ⟨u18, u21, u24⟩)
            clear u18 u21 u24
            have H := Lib.hid (show ∀ W', Ext W W' → K (fr (upd V 25 (.bool false))) W' from fun W' he => hK _ _ ⟨upd V 25 (.bool false), rfl, HS.ext he, HV.up 25 _ (fun x hx => Option.some.inj hx)⟩)
            clear hK hC hW hL HV 
            rw [HFR.out]
            rw [e18, e21, e24]
            clear e18 e21 e24
            go_wp2_with fail
            show K _ _
            have := H.out _ (Ext.refl _)
            rw [HFR.out] at this
            obtain ⟨u18, u21, u24⟩ := HU.out
            rw [u18, u21, u24] at this
            exact this
          · rintro L A W K hL hC hW ⟨V, rfl, HS, HV⟩ hK
            have e18 : V 18 = .bool false := HV 18 _ rfl (hW 18 rfl)
            have e25 : V 25 = .bool false := HV 25 _ rfl (hW 25 rfl)
            have u18 : (upd V 26 (.bool false)) 18 = .bool false := e18
            have u25 : (upd V 26 (.bool false)) 25 = .bool false := e25
            have HU := Lib.hid (show (upd V 26 (.bool false)) 18 = .bool false ∧ (upd V 26 (.bool false)) 25 = .bool false from ⟨u18, u25⟩)
            clear u18 u25
            have H := Lib.hid (show ∀ W', Ext W W' → K (fr (upd V 26 (.bool false))) W' from fun W' he => hK _ _ ⟨upd V 26 (.bool false), rfl, HS.ext he, HV.up 26 _ (fun x hx => Option.some.inj hx)⟩)
            clear hK hC hW hL HV 
            rw [HFR.out]
            rw [e18, e25]
            clear e18 e25
            go_wp2_with fail
            show K _ _
            have := H.out _ (Ext.refl _)
            rw [HFR.out] at this
            obtain ⟨u18, u25⟩ := HU.out
            rw [u18, u25] at this
            exact this
          · rintro L A W hL ⟨V, rfl, HS, HV⟩
            have e0 : V 0 = wv (addN a b) := HV 0 _ rfl (hL 0 (by simp))
            have e1 : V 1 = wv (addN a b) := HV 1 _ rfl (hL 1 (by simp))
            have e2 : V 2 = .bool false := HV 2 _ rfl (hL 2 (by simp))
            have e3 : V 3 = .bool false := HV 3 _ rfl (hL 3 (by simp))
            have e4 : V 4 = .bool (ovr a b) := HV 4 _ rfl (hL 4 (by simp))
            have e5 : V 5 = .bool (ovr a b) := HV 5 _ rfl (hL 5 (by simp))
            have e6 : V 6 = .bool false := HV 6 _ rfl (hL 6 (by simp))
            have e7 : V 7 = .bool false := HV 7 _ rfl (hL 7 (by simp))
            have e8 : V 8 = .bool false := HV 8 _ rfl (hL 8 (by simp))
            have e9 : V 9 = wv (subN a b) := HV 9 _ rfl (hL 9 (by simp))
            have e10 : V 10 = wv (subN a b) := HV 10 _ rfl (hL 10 (by simp))
            have e11 : V 11 = .bool false := HV 11 _ rfl (hL 11 (by simp))
            have e12 : V 12 = .bool false := HV 12 _ rfl (hL 12 (by simp))
            have e13 : V 13 = .bool false := HV 13 _ rfl (hL 13 (by simp))
            have e14 : V 14 = .bool (und a b) := HV 14 _ rfl (hL 14 (by simp))
            have e15 : V 15 = .bool (und a b) := HV 15 _ rfl (hL 15 (by simp))
            have e16 : V 16 = .bool false := HV 16 _ rfl (hL 16 (by simp))
            have e17 : V 17 = .bool false := HV 17 _ rfl (hL 17 (by simp))
            have e18 : V 18 = .bool false := HV 18 _ rfl (hL 18 (by simp))
            have e19 : V 19 = wv (a) := HV 19 _ rfl (hL 19 (by simp))
            have e20 : V 20 = wv (b) := HV 20 _ rfl (hL 20 (by simp))
            have e21 : V 21 = .int .i64 (cmpN a b) := HV 21 _ rfl (hL 21 (by simp))
            have e22 : V 22 = wv (a) := HV 22 _ rfl (hL 22 (by simp))
            have e23 : V 23 = wv (b) := HV 23 _ rfl (hL 23 (by simp))
            have e24 : V 24 = .int .i64 (cmpN a b) := HV 24 _ rfl (hL 24 (by simp))
            have e25 : V 25 = .bool false := HV 25 _ rfl (hL 25 (by simp))
            have e26 : V 26 = .bool false := HV 26 _ rfl (hL 26 (by simp))
            rw [HFR.out]
            rw [e0, e1, e2, e3, e4, e5, e6, e7, e8, e9, e10, e11, e12, e13, e14, e15, e16, e17, e18, e19, e20, e21, e22, e23, e24, e25, e26]
            clear hL HV e0 e1 e2 e3 e4 e5 e6 e7 e8 e9 e10 e11 e12 e13 e14 e15 e16 e17 e18 e19 e20 e21 e22 e23 e24 e25 e26
            have HE := Lib.hid (HE12.out.trans HS.2)
            have HO := Lib.hid (own_ext HO12.out HS.2)
            clear HFR HS HE12 HO12
            go_wp2_with fail
            go_roundw
            case rel => exact ⟨k + 1, by omega, by omega, by go_num, HO, HE⟩
            case measure => simp [intOf]; omega
    · obtain rfl : k = l.length := by omega
      have HW := Lib.hid (own_ws HO.out (by simp) (fun x hx => by
          obtain ⟨p, hp, rfl⟩ := List.mem_map.1 hx
          exact (HLT.out p (List.mem_of_mem_take hp)).1))
      have HE4 := he
      have hlen : ((l.take l.length).map Prod.fst).length ≤ 12 := by simp; omega
      clear HO he
      generalize (l.take l.length).map Prod.fst = l0 at *
      go_wp2_with fail
      refine (sum_any _ l0 _ HW.out (by omega)).mono ?_
      rintro e w5 ⟨rfl, he5⟩
      have HW5 := Lib.hid (HW.out.ext he5)
      have HS := (show Ks w [] w5 from ⟨fun x hx => (by cases hx), HE4.out.trans he5⟩)
      clear he5 HW HE4
      have hs := sumW_lt l0
      generalize hss : sumW l0 = ss at *
      obtain ⟨s, bo⟩ := ss
      have HSS := Lib.hid hss
      clear hss
      dsimp only at hs ⊢
      go_wp2_with ((with_reducible refine wpList_store_word rfl rfl 27 (.tmp 16) (.tmp 94) rfl winfo (w5.heap.size) (wc 0) (s) ?_ ?_ ?_ ?_ ?_); (exact rfl); (exact rfl); (exact heap_alloc_new _ _); (exact rfl); intro w6 kz gz; have HS := HS.put gz kz; have HX := Lib.hid (((Ext.refl _).alloc _).grown gz (Nat.le_refl _)); clear kz gz)
      have HW6 := Lib.hid (HW5.out.ext HX.out)
      refine (refSum_any _ l0 _ HW6.out (by omega)).mono ?_
      rw [HSS.out]
      rintro e w7 ⟨rfl, hs7, he7⟩
      have HS := HS.ext he7
      clear he7 hs7 HX HW6 HW5 HSS
      cases bo <;> (
        go_wp2_with (first
          | ((with_reducible refine wpList_store_word rfl rfl 27 (.tmp 18) (.tmp 99) rfl winfo (w7.heap.size) (wc 0) (s) ?_ ?_ ?_ ?_ ?_); (exact rfl); (exact rfl); (exact heap_alloc_new _ _); (exact rfl); intro w8 kz gz; have HS := HS.put gz kz; clear kz gz)
          | ((with_reducible refine wpList_load_wordG ?_ 27 25 (.tmp 16) rfl Try.underlying27 winfo (w5.heap.size) (s) ?_ ?_ ?_); (exact rfl); (exact rfl); (exact HS.at (w5.heap.size) (s) (by simp)))
          | ((with_reducible refine wpList_load_wordG ?_ 27 25 (.tmp 18) rfl Try.underlying27 winfo (w7.heap.size) (s) ?_ ?_ ?_); (exact rfl); (exact rfl); (exact HS.at (w7.heap.size) (s) (by simp)))
          | ((with_reducible refine wpList_eql_word ?_ (.tmp 101) (.tmp 102) rfl (s) (s) (hs) (hs) ?_ ?_ ?_); (exact rfl); (exact rfl); (exact rfl); rw [beq_self_eq_true s]))
        go_ret
        exact ⟨rfl, HS.2⟩)

set_option maxRecDepth 100000 in
theorem sums_told (W : World) (args : Array Value) (h : Told Try.f3 W args) : Calls Try.prog 3 args W (RetT W) := by
  obtain ⟨H, enc, base, ds, p, hval, hA⟩ := h
  rw [Try.params3] at hA hval
  obtain ⟨v0, d0, rfl, rfl, h0⟩ := trodAll_one hA
  obtain ⟨l, hl⟩ := ps_came (hval 0 _ v0 rfl rfl) h0
  exact sums_walk v0 l W hl

set_option maxRecDepth 100000 in
theorem sums_spec (H : Type) : ∀ ds : List (DataW H), ds.length = Try.f3.params.toList.length → Rows.wordSumsSpec.fn H ds = { results := [.lit (.bool true)], args := ds }
  | [_], _ => rfl
  | [], h | _ :: _ :: _, h => by rw [Try.params3] at h; simp at h

set_option maxRecDepth 100000 in
theorem wordSums_holds : Rows.WordSumsSaid :=
  OpenClaim.holds_of_wide 3 Try.f3 rfl rfl rfl rfl rfl rfl rfl ⟨rfl, rfl, rfl, rfl, rfl⟩ rfl rfl rfl rfl rfl (by kernel_rfl) Try.func3 (by kernel_rfl)
    (of_decide_eq_true (by kernel_rfl)) (by unfold Func.isWrapper; first | (rw [if_pos (by decide +kernel)]; kernel_rfl) | (rw [if_neg (by decide +kernel)]; exact ⟨rfl, rfl⟩))
    (fun os started H enc _ => law_lifted started (by kernel_rfl) Try.func3 rfl rfl (sums_spec H) (of_decide_eq_true (by kernel_rfl))
      (ChangeSpec.witness6 (enc := enc) (C := Try.checked) false ⟨#[], #[.slice none 0 0], []⟩ 8 (by kernel_rfl) (by kernel_rfl) (by kernel_rfl) (by kernel_rfl)) sums_told)
end Go.Proofs.Ytgmmkoahnednfaa
