/- The law WordTexts: words and their digits are as the document says, for every rows of both. -/
import Derived.Test.YtgmmkoahnednfaaRck
import Derived.Test.YtgmmkoahnednfaaWsp
import Derived.Test.YtgmmkoahnednfaaSlc
import Derived.Test.YtgmmkoahnednfaaFrm
namespace Go.Proofs.Ytgmmkoahnednfaa
open Go.ChangeShapes Go.WideShapes Go.ChangeAt Go.RowKit

set_option maxRecDepth 100000 in
theorem text_s (n : Nat) (w : World) : Calls Try.prog 33 #[wv n] w fun e w' => e = .returned (.string (sb (txtL n (List.range 64)))) ∧ Ext w w' := text_any n w
set_option maxRecDepth 100000 in
theorem hexN_ok (l : List UInt8) (h : badS l = false) : hexN l < M256 := by
  apply hexN_M
  unfold badS at h
  simp only [Bool.or_eq_false_iff, decide_eq_false_iff_not] at h
  omega

set_option maxRecDepth 100000 in
set_option maxHeartbeats 8000000 in
theorem wtexts_walk (v : Value) (l : List Nat) (A2 : Option Addr) (c2 : Nat) (raw : List ByteArray) (w : World) (hv : Ws w v l) (_hr1 : raw.length ≤ c2) (hr2 : c2 ≤ maxLen)
    (hr : ∀ i, i < raw.length → ∃ b o, A2 = some ⟨b, o, none⟩ ∧ w.cell? ⟨b, o + i, none⟩ = some (.string (raw.getD i ByteArray.empty))) (hs : ∀ i, i < raw.length → (raw.getD i ByteArray.empty).size ≤ maxLen) :
    Calls Try.prog 6 #[v, .slice A2 raw.length c2] w (RetT w) := by
  obtain ⟨A, c, rfl, h1, h2, h3, h4⟩ := hv
  have HRR := Lib.hid hr
  have HSZ := Lib.hid hs
  unfold maxLen at h2 hr2
  have H3 := Lib.hid h3
  have H4 := Lib.hid h4
  clear h3 h4 hr hs
  go_enter Try.func6, Try.ntmps6
  go_wp2_with fail
  refine (wakes_any _).mono ?_
  rintro e w1 ⟨rfl, he1⟩
  have HE2 := Lib.hid he1
  clear he1
  go_wp2_with fail
  go_loopw [5, 6, 17, 18, 19, 20, 21, 22, 23, 24, 25, 26, 27, 28, 29] (fun _ _ i _ _ _ _ _ _ _ _ _ _ _ _ wr => ∃ k : Nat, k ≤ l.length ∧ k ≤ 12 ∧ i = .int .i64 k ∧ Hid (Ext w wr)) (fun _ _ i _ _ _ _ _ _ _ _ _ _ _ _ _ => l.length - (intOf i).toNat)
  case atStart => exact ⟨0, by omega, by omega, rfl, HE2⟩
  case round =>
    clear HE2
    obtain ⟨k, hk, hk12, rfl, he⟩ := hrel
    by_cases hlt : k < l.length
    · have hx := H4.out k hlt
      obtain ⟨b0, o0, rfl, hc⟩ := H3.out (by omega)
      have q0 : wr.cell? ⟨b0, o0 + k * 4, none⟩ = some (.int .u64 (lb (l.getD k 0) 0 : Nat)) := he.out.cell (hc k hlt 0 (by omega))
      have q1 : wr.cell? ⟨b0, o0 + k * 4 + 1, none⟩ = some (.int .u64 (lb (l.getD k 0) 1 : Nat)) := he.out.cell (hc k hlt 1 (by omega))
      have q2 : wr.cell? ⟨b0, o0 + k * 4 + 2, none⟩ = some (.int .u64 (lb (l.getD k 0) 2 : Nat)) := he.out.cell (hc k hlt 2 (by omega))
      have q3 : wr.cell? ⟨b0, o0 + k * 4 + 3, none⟩ = some (.int .u64 (lb (l.getD k 0) 3 : Nat)) := he.out.cell (hc k hlt 3 (by omega))
      clear hc
      generalize l.getD k 0 = x at *
      have HS := (show Ks w [] wr from ⟨fun x hx => (by cases hx), he.out⟩)
      by_cases h12 : k = 12
      · have hd : ((k : Int) == 12) = true := by rw [h12]; rfl
        clear h12
        go_wp2_with ((with_reducible refine wpList_store_word rfl rfl 27 (.tmp 6) (.tmp 21) rfl winfo (wr.heap.size) (wc 0) (x) ?_ ?_ ?_ ?_ ?_); (exact rfl); (exact rfl); (exact heap_alloc_new _ _); (exact rfl); intro w4 kz gz; have HS := HS.put gz kz; clear kz gz)
        have HE4 := Lib.hid HS.2
        clear HS he q0 q1 q2 q3
        go_wp2_with fail
        go_loopw [7, 8, 9, 10, 11, 12, 32, 33, 34, 35, 36, 37, 38, 39, 40, 41, 42, 43, 44, 45, 46, 47, 48, 49, 50, 51, 52, 53, 54, 55, 56, 57, 58, 59, 60, 61, 62, 63, 64, 65, 66, 67, 68, 69, 70, 71, 72] (fun _ _ _ _ _ _ i _ _ _ _ _ _ _ _ _ _ _ _ _ _ _ _ _ _ _ _ _ _ _ _ _ _ _ _ _ _ _ _ _ _ _ _ _ _ _ _ wr => ∃ k : Nat, k ≤ raw.length ∧ k ≤ 12 ∧ i = .int .i64 k ∧ Hid (Ext w wr)) (fun _ _ _ _ _ _ i _ _ _ _ _ _ _ _ _ _ _ _ _ _ _ _ _ _ _ _ _ _ _ _ _ _ _ _ _ _ _ _ _ _ _ _ _ _ _ _ _ => raw.length - (intOf i).toNat)
        case atStart => exact ⟨0, by omega, by omega, rfl, HE4⟩
        case round =>
          clear HE4
          obtain ⟨k, hk, hk12, rfl, he⟩ := hrel
          by_cases hlt : k < raw.length
          · obtain ⟨b0, o0, rfl, hc⟩ := HRR.out k hlt
            have hcell := he.out.cell hc
            clear hc
            have hxs := HSZ.out k hlt
            unfold maxLen at hxs
            generalize raw.getD k ByteArray.empty = x at *
            by_cases h12 : k = 12
            · have hd : ((k : Int) == 12) = true := by rw [h12]; rfl
              clear h12
              go_wp2_with fail
              go_ret
              exact ⟨rfl, he.out⟩
            · have hd : ((k : Int) == 12) = false := by simp only [beq_eq_false_iff_ne]; omega
              obtain ⟨m, hm⟩ : ∃ m, m = min x.size 80 := ⟨_, rfl⟩
              have hm80 : m ≤ 80 := by omega
              have hmx : m ≤ x.size := by omega
              have hmi : min (x.size : Int) 80 = (m : Int) := by omega
              have hsz : (x.extract 0 m).size ≤ 9223372036854775807 := by simp; omega
              have hk13 : k + 1 ≤ 12 := by omega
              clear hm h12
              go_wp2_with fail
              refine (parse_any _ _ hsz).mono ?_
              rintro e w7 ⟨rfl, he7⟩
              have HS := (show Ks w [] w7 from ⟨fun x hx => (by cases hx), he.out.trans he7⟩)
              clear he7 hcell he
              generalize x.extract 0 m = y at *
              by_cases hok : badS y.toList = false ∧ y.toList.all isDg = true
              · rw [parseV_ok _ hok.1 hok.2]
                have HR := Lib.hid (refPV_ok _ hok.1 hok.2)
                have HH := Lib.hid (hexN_ok _ hok.1)
                clear hok
                generalize hexN y.toList = z at *
                have hn : z < M256 := HH.out
                go_wp2_with ((with_reducible refine wpList_store_word rfl rfl 27 (.tmp 9) (.tmp 47) rfl winfo (w7.heap.size) (wc 0) (z) ?_ ?_ ?_ ?_ ?_); (exact rfl); (exact rfl); (exact heap_alloc_new _ _); (exact rfl); intro w8 kz gz; have HS := HS.put gz kz; clear kz gz)
                refine (refParse_any _ _ hsz).mono ?_
                rw [HR.out]
                rintro e w9 ⟨rfl, he9⟩
                have HS := HS.ext he9
                clear he9
                go_wp2_with (first
                    | ((with_reducible refine wpList_store_word rfl rfl 27 (.tmp 11) (.tmp 52) rfl winfo (w9.heap.size) (wc 0) (z) ?_ ?_ ?_ ?_ ?_); (exact rfl); (exact rfl); (exact heap_alloc_new _ _); (exact rfl); intro w10 kz gz; have HS := HS.put gz kz; clear kz gz)
                    | ((with_reducible refine wpList_load_wordG ?_ 27 25 (.tmp 9) rfl Try.underlying27 winfo (w7.heap.size) (z) ?_ ?_ ?_); (exact rfl); (exact rfl); (exact HS.at (w7.heap.size) (z) (by simp)))
                    | ((with_reducible refine wpList_load_wordG ?_ 27 25 (.tmp 11) rfl Try.underlying27 winfo (w9.heap.size) (z) ?_ ?_ ?_); (exact rfl); (exact rfl); (exact HS.at (w9.heap.size) (z) (by simp)))
                    | ((with_reducible refine wpList_neq_word ?_ (.tmp 54) (.tmp 55) rfl (z) (z) (hn) (hn) ?_ ?_ ?_); (exact rfl); (exact rfl); (exact rfl); rw [show ((z : Nat) != z) = false from bne_self_eq_false _]))
                have HE := Lib.hid HS.2
                clear HS
                go_wp2_with fail
                go_roundw
                case rel => exact ⟨k + 1, by omega, by omega, by go_num, HE⟩
                case measure => simp [intOf]; omega
              · rw [show parseV y.toList = .tuple #[wv 0, .int .i64 2] by unfold parseV; rw [if_neg hok]]
                have HR := Lib.hid (show refPV y.toList = .tuple #[wv 0, .bool false] by unfold refPV; rw [if_neg hok])
                clear hok
                have hn : 0 < M256 := by decide
                go_wp2_with ((with_reducible refine wpList_store_word rfl rfl 27 (.tmp 9) (.tmp 47) rfl winfo (w7.heap.size) (wc 0) (0) ?_ ?_ ?_ ?_ ?_); (exact rfl); (exact rfl); (exact heap_alloc_new _ _); (exact rfl); intro w8 kz gz; have HS := HS.put gz kz; clear kz gz)
                refine (refParse_any _ _ hsz).mono ?_
                rw [HR.out]
                rintro e w9 ⟨rfl, he9⟩
                have HS := HS.ext he9
                clear he9
                go_wp2_with (first
                    | ((with_reducible refine wpList_store_word rfl rfl 27 (.tmp 11) (.tmp 52) rfl winfo (w9.heap.size) (wc 0) (0) ?_ ?_ ?_ ?_ ?_); (exact rfl); (exact rfl); (exact heap_alloc_new _ _); (exact rfl); intro w10 kz gz; have HS := HS.put gz kz; clear kz gz)
                    | ((with_reducible refine wpList_load_wordG ?_ 27 25 (.tmp 9) rfl Try.underlying27 winfo (w7.heap.size) (0) ?_ ?_ ?_); (exact rfl); (exact rfl); (exact HS.at (w7.heap.size) (0) (by simp)))
                    | ((with_reducible refine wpList_load_wordG ?_ 27 25 (.tmp 11) rfl Try.underlying27 winfo (w9.heap.size) (0) ?_ ?_ ?_); (exact rfl); (exact rfl); (exact HS.at (w9.heap.size) (0) (by simp)))
                    | ((with_reducible refine wpList_neq_word ?_ (.tmp 54) (.tmp 55) rfl (0) (0) (hn) (hn) ?_ ?_ ?_); (exact rfl); (exact rfl); (exact rfl); rw [show ((0 : Nat) != 0) = false from bne_self_eq_false _]))
                have HE := Lib.hid HS.2
                clear HS
                go_wp2_with fail
                go_roundw
                case rel => exact ⟨k + 1, by omega, by omega, by go_num, HE⟩
                case measure => simp [intOf]; omega
          · go_wp2_with fail
            go_ret
            exact ⟨rfl, he.out⟩
      · have hd : ((k : Int) == 12) = false := by simp only [beq_eq_false_iff_ne]; omega
        have hk13 : k + 1 ≤ 12 := by omega
        clear h12
        go_wp2_with ((with_reducible refine wpList_store_word rfl rfl 27 (.tmp 6) (.tmp 21) rfl winfo (wr.heap.size) (wc 0) (x) ?_ ?_ ?_ ?_ ?_); (exact rfl); (exact rfl); (exact heap_alloc_new _ _); (exact rfl); intro w4 kz gz; have HS := HS.put gz kz; clear kz gz)
        clear he q0 q1 q2 q3
        refine wp_named fun a0 ha0 => ?_
        obtain ⟨fr, hfr⟩ : ∃ fr : (Nat → Value) → Act, ∀ V, fr V = (((((a0.put (some 24) (V 0)).put (some 25) (V 1)).put (some 26) (V 2)).put (some 27) (V 3)).put (some 28) (V 4)) := ⟨fun V => (((((a0.put (some 24) (V 0)).put (some 25) (V 1)).put (some 26) (V 2)).put (some 27) (V 3)).put (some 28) (V 4)), fun _ => rfl⟩
        rw [ha0] at hfr
        simp only [Act.put, List.setIfInBounds_toArray, List.set_cons_zero, List.set_cons_succ] at hfr
        have HFR := Lib.hid hfr
        clear hfr
        refine wp_region_inv (by kernel_rfl) (by kernel_rfl) (fun L A W => ∃ V : Nat → Value, A = fr V ∧ Ks w [(wr.heap.size, x)] W ∧ Vals (fun j => ([some (wv (x)), some (.string (sb (txtL x (List.range 64)))), some (wv (x)), some (.string (sb (txtL x (List.range 64)))), some (.bool false)] : List (Option Value)).getD j none) L V) ?_ ⟨?_, ?_, ?_, ?_, ?_, trivial⟩ ?_
        · refine ⟨fun j => a0.tmps.getD (([24, 25, 26, 27, 28] : List Nat).getD j 0) undef, ?_, HS.drew, Vals.no _ _ _ (far_none _ _ rfl)⟩
          rw [HFR.out, ha0]
          rfl
        all_goals clear ha0
        · rintro L A W K hL hC hW ⟨V, rfl, HS, HV⟩ hK
          have H := Lib.hid (show ∀ W', Ext W W' → K (fr (upd V 0 (wv (x)))) W' from fun W' he => hK _ _ ⟨upd V 0 (wv (x)), rfl, HS.ext he, HV.up 0 _ (fun x hx => Option.some.inj hx)⟩)
          clear hK hC hW hL HV 
          rw [HFR.out]
          refine wpList_load_wordG rfl 27 25 (.tmp 6) rfl Try.underlying27 winfo (wr.heap.size) (x) rfl (HS.at (wr.heap.size) (x) (by simp)) ?_
          show K _ _
          have := H.out _ (Ext.refl _)
          rw [HFR.out] at this
          exact this
        · rintro L A W K hL hC hW ⟨V, rfl, HS, HV⟩ hK
          have e0 : V 0 = wv (x) := HV 0 _ rfl (hW 0 rfl)
          have u0 : (upd V 1 (.string (sb (txtL x (List.range 64))))) 0 = wv (x) := e0
          have HU := Lib.hid (show (upd V 1 (.string (sb (txtL x (List.range 64))))) 0 = wv (x) from u0)
          clear u0
          have H := Lib.hid (show ∀ W', Ext W W' → K (fr (upd V 1 (.string (sb (txtL x (List.range 64)))))) W' from fun W' he => hK _ _ ⟨upd V 1 (.string (sb (txtL x (List.range 64)))), rfl, HS.ext he, HV.up 1 _ (fun x hx => Option.some.inj hx)⟩)
          clear hK hC hW hL HV 
          rw [HFR.out]
          rw [e0]
          clear e0
          go_wp2_with fail
          refine (text_s x _).mono ?_
          rintro e wx ⟨rfl, he⟩
          have := H.out _ he
          clear H
          go_wp2_with fail
          show K _ _
          rw [HFR.out] at this
          obtain u0 := HU.out
          rw [u0] at this
          exact this
        · rintro L A W K hL hC hW ⟨V, rfl, HS, HV⟩ hK
          have H := Lib.hid (show ∀ W', Ext W W' → K (fr (upd V 2 (wv (x)))) W' from fun W' he => hK _ _ ⟨upd V 2 (wv (x)), rfl, HS.ext he, HV.up 2 _ (fun x hx => Option.some.inj hx)⟩)
          clear hK hC hW hL HV 
          rw [HFR.out]
          refine wpList_load_wordG rfl 27 25 (.tmp 6) rfl Try.underlying27 winfo (wr.heap.size) (x) rfl (HS.at (wr.heap.size) (x) (by simp)) ?_
          show K _ _
          have := H.out _ (Ext.refl _)
          rw [HFR.out] at this
          exact this
        · rintro L A W K hL hC hW ⟨V, rfl, HS, HV⟩ hK
          have e2 : V 2 = wv (x) := HV 2 _ rfl (hW 2 rfl)
          have u2 : (upd V 3 (.string (sb (txtL x (List.range 64))))) 2 = wv (x) := e2
          have HU := Lib.hid (show (upd V 3 (.string (sb (txtL x (List.range 64))))) 2 = wv (x) from u2)
          clear u2
          have H := Lib.hid (show ∀ W', Ext W W' → K (fr (upd V 3 (.string (sb (txtL x (List.range 64)))))) W' from fun W' he => hK _ _ ⟨upd V 3 (.string (sb (txtL x (List.range 64)))), rfl, HS.ext he, HV.up 3 _ (fun x hx => Option.some.inj hx)⟩)
          clear hK hC hW hL HV 
          rw [HFR.out]
          rw [e2]
          clear e2
          go_wp2_with fail
          refine (refText_any x _).mono ?_
          rintro e wx ⟨rfl, he⟩
          have := H.out _ he
          clear H
          go_wp2_with fail
          show K _ _
          rw [HFR.out] at this
          obtain u2 := HU.out
          rw [u2] at this
          exact this
        · rintro L A W K hL hC hW ⟨V, rfl, HS, HV⟩ hK
          have e1 : V 1 = .string (sb (txtL x (List.range 64))) := HV 1 _ rfl (hW 1 rfl)
          have e3 : V 3 = .string (sb (txtL x (List.range 64))) := HV 3 _ rfl (hW 3 rfl)
          have u1 : (upd V 4 (.bool false)) 1 = .string (sb (txtL x (List.range 64))) := e1
          have u3 : (upd V 4 (.bool false)) 3 = .string (sb (txtL x (List.range 64))) := e3
          have HU := Lib.hid (show (upd V 4 (.bool false)) 1 = .string (sb (txtL x (List.range 64))) ∧ (upd V 4 (.bool false)) 3 = .string (sb (txtL x (List.range 64))) from ⟨u1, u3⟩)
          clear u1 u3
          have H := Lib.hid (show ∀ W', Ext W W' → K (fr (upd V 4 (.bool false))) W' from fun W' he => hK _ _ ⟨upd V 4 (.bool false), rfl, HS.ext he, HV.up 4 _ (fun x hx => Option.some.inj hx)⟩)
          clear hK hC hW hL HV 
          rw [HFR.out]
          rw [e1, e3]
          clear e1 e3
          go_wp2_with fail
          show K _ _
          have := H.out _ (Ext.refl _)
          rw [HFR.out] at this
          obtain ⟨u1, u3⟩ := HU.out
          rw [u1, u3] at this
          exact this
        · rintro L A W hL ⟨V, rfl, HS, HV⟩
          have e0 : V 0 = wv (x) := HV 0 _ rfl (hL 0 (by simp))
          have e1 : V 1 = .string (sb (txtL x (List.range 64))) := HV 1 _ rfl (hL 1 (by simp))
          have e2 : V 2 = wv (x) := HV 2 _ rfl (hL 2 (by simp))
          have e3 : V 3 = .string (sb (txtL x (List.range 64))) := HV 3 _ rfl (hL 3 (by simp))
          have e4 : V 4 = .bool false := HV 4 _ rfl (hL 4 (by simp))
          rw [HFR.out]
          rw [e0, e1, e2, e3, e4]
          clear hL HV e0 e1 e2 e3 e4
          have HE := Lib.hid HS.2
          clear HFR HS
          go_wp2_with fail
          go_roundw
          case rel => exact ⟨k + 1, by omega, by omega, by go_num, HE⟩
          case measure => simp [intOf]; omega
    · have HE4 := he
      clear he
      go_wp2_with fail
      go_loopw [7, 8, 9, 10, 11, 12, 32, 33, 34, 35, 36, 37, 38, 39, 40, 41, 42, 43, 44, 45, 46, 47, 48, 49, 50, 51, 52, 53, 54, 55, 56, 57, 58, 59, 60, 61, 62, 63, 64, 65, 66, 67, 68, 69, 70, 71, 72] (fun _ _ _ _ _ _ i _ _ _ _ _ _ _ _ _ _ _ _ _ _ _ _ _ _ _ _ _ _ _ _ _ _ _ _ _ _ _ _ _ _ _ _ _ _ _ _ wr => ∃ k : Nat, k ≤ raw.length ∧ k ≤ 12 ∧ i = .int .i64 k ∧ Hid (Ext w wr)) (fun _ _ _ _ _ _ i _ _ _ _ _ _ _ _ _ _ _ _ _ _ _ _ _ _ _ _ _ _ _ _ _ _ _ _ _ _ _ _ _ _ _ _ _ _ _ _ _ => raw.length - (intOf i).toNat)
      case atStart => exact ⟨0, by omega, by omega, rfl, HE4⟩
      case round =>
        clear HE4
        obtain ⟨k, hk, hk12, rfl, he⟩ := hrel
        by_cases hlt : k < raw.length
        · obtain ⟨b0, o0, rfl, hc⟩ := HRR.out k hlt
          have hcell := he.out.cell hc
          clear hc
          have hxs := HSZ.out k hlt
          unfold maxLen at hxs
          generalize raw.getD k ByteArray.empty = x at *
          by_cases h12 : k = 12
          · have hd : ((k : Int) == 12) = true := by rw [h12]; rfl
            clear h12
            go_wp2_with fail
            go_ret
            exact ⟨rfl, he.out⟩
          · have hd : ((k : Int) == 12) = false := by simp only [beq_eq_false_iff_ne]; omega
            obtain ⟨m, hm⟩ : ∃ m, m = min x.size 80 := ⟨_, rfl⟩
            have hm80 : m ≤ 80 := by omega
            have hmx : m ≤ x.size := by omega
            have hmi : min (x.size : Int) 80 = (m : Int) := by omega
            have hsz : (x.extract 0 m).size ≤ 9223372036854775807 := by simp; omega
            have hk13 : k + 1 ≤ 12 := by omega
            clear hm h12
            go_wp2_with fail
            refine (parse_any _ _ hsz).mono ?_
            rintro e w7 ⟨rfl, he7⟩
            have HS := (show Ks w [] w7 from ⟨fun x hx => (by cases hx), he.out.trans he7⟩)
            clear he7 hcell he
            generalize x.extract 0 m = y at *
            by_cases hok : badS y.toList = false ∧ y.toList.all isDg = true
            · rw [parseV_ok _ hok.1 hok.2]
              have HR := Lib.hid (refPV_ok _ hok.1 hok.2)
              have HH := Lib.hid (hexN_ok _ hok.1)
              clear hok
              generalize hexN y.toList = z at *
              have hn : z < M256 := HH.out
              go_wp2_with ((with_reducible refine wpList_store_word rfl rfl 27 (.tmp 9) (.tmp 47) rfl winfo (w7.heap.size) (wc 0) (z) ?_ ?_ ?_ ?_ ?_); (exact rfl); (exact rfl); (exact heap_alloc_new _ _); (exact rfl); intro w8 kz gz; have HS := HS.put gz kz; clear kz gz)
              refine (refParse_any _ _ hsz).mono ?_
              rw [HR.out]
              rintro e w9 ⟨rfl, he9⟩
              have HS := HS.ext he9
              clear he9
              go_wp2_with (first
                  | ((with_reducible refine wpList_store_word rfl rfl 27 (.tmp 11) (.tmp 52) rfl winfo (w9.heap.size) (wc 0) (z) ?_ ?_ ?_ ?_ ?_); (exact rfl); (exact rfl); (exact heap_alloc_new _ _); (exact rfl); intro w10 kz gz; have HS := HS.put gz kz; clear kz gz)
                  | ((with_reducible refine wpList_load_wordG ?_ 27 25 (.tmp 9) rfl Try.underlying27 winfo (w7.heap.size) (z) ?_ ?_ ?_); (exact rfl); (exact rfl); (exact HS.at (w7.heap.size) (z) (by simp)))
                  | ((with_reducible refine wpList_load_wordG ?_ 27 25 (.tmp 11) rfl Try.underlying27 winfo (w9.heap.size) (z) ?_ ?_ ?_); (exact rfl); (exact rfl); (exact HS.at (w9.heap.size) (z) (by simp)))
                  | ((with_reducible refine wpList_neq_word ?_ (.tmp 54) (.tmp 55) rfl (z) (z) (hn) (hn) ?_ ?_ ?_); (exact rfl); (exact rfl); (exact rfl); rw [show ((z : Nat) != z) = false from bne_self_eq_false _]))
              have HE := Lib.hid HS.2
              clear HS
              go_wp2_with fail
              go_roundw
              case rel => exact ⟨k + 1, by omega, by omega, by go_num, HE⟩
              case measure => simp [intOf]; omega
            · rw [show parseV y.toList = .tuple #[wv 0, .int .i64 2] by unfold parseV; rw [if_neg hok]]
              have HR := Lib.hid (show refPV y.toList = .tuple #[wv 0, .bool false] by unfold refPV; rw [if_neg hok])
              clear hok
              have hn : 0 < M256 := by decide
              go_wp2_with ((with_reducible refine wpList_store_word rfl rfl 27 (.tmp 9) (.tmp 47) rfl winfo (w7.heap.size) (wc 0) (0) ?_ ?_ ?_ ?_ ?_); (exact rfl); (exact rfl); (exact heap_alloc_new _ _); (exact rfl); intro w8 kz gz; have HS := HS.put gz kz; clear kz gz)
              refine (refParse_any _ _ hsz).mono ?_
              rw [HR.out]
              rintro e w9 ⟨rfl, he9⟩
              have HS := HS.ext he9
              clear he9
              go_wp2_with (first
                  | ((with_reducible refine wpList_store_word rfl rfl 27 (.tmp 11) (.tmp 52) rfl winfo (w9.heap.size) (wc 0) (0) ?_ ?_ ?_ ?_ ?_); (exact rfl); (exact rfl); (exact heap_alloc_new _ _); (exact rfl); intro w10 kz gz; have HS := HS.put gz kz; clear kz gz)
                  | ((with_reducible refine wpList_load_wordG ?_ 27 25 (.tmp 9) rfl Try.underlying27 winfo (w7.heap.size) (0) ?_ ?_ ?_); (exact rfl); (exact rfl); (exact HS.at (w7.heap.size) (0) (by simp)))
                  | ((with_reducible refine wpList_load_wordG ?_ 27 25 (.tmp 11) rfl Try.underlying27 winfo (w9.heap.size) (0) ?_ ?_ ?_); (exact rfl); (exact rfl); (exact HS.at (w9.heap.size) (0) (by simp)))
                  | ((with_reducible refine wpList_neq_word ?_ (.tmp 54) (.tmp 55) rfl (0) (0) (hn) (hn) ?_ ?_ ?_); (exact rfl); (exact rfl); (exact rfl); rw [show ((0 : Nat) != 0) = false from bne_self_eq_false _]))
              have HE := Lib.hid HS.2
              clear HS
              go_wp2_with fail
              go_roundw
              case rel => exact ⟨k + 1, by omega, by omega, by go_num, HE⟩
              case measure => simp [intOf]; omega
        · go_wp2_with fail
          go_ret
          exact ⟨rfl, he.out⟩

set_option maxRecDepth 100000 in
theorem wtexts_told (W : World) (args : Array Value) (h : Told Try.f6 W args) : Calls Try.prog 6 args W (RetT W) := by
  obtain ⟨H, enc, base, ds, p, hval, hA⟩ := h
  rw [Try.params6] at hA hval
  obtain ⟨v0, vs, d0, ds', p0, q0, e0, rfl, rfl, h0, h1⟩ := trodAll_cons hA
  obtain ⟨v1, vs1, d1, ds1, p1, q1, rfl, rfl, rfl, k1, h2⟩ := trodAll_cons h1
  obtain ⟨rfl, rfl, rfl⟩ := trodAll_nil h2
  obtain rfl : args = #[v0, v1] := Array.toList_inj.1 e0
  obtain ⟨l, hl⟩ := ws_came (hval 0 _ v0 rfl rfl) h0
  obtain ⟨f2, k1⟩ := k1
  obtain ⟨v, raw, hv, A2, c2, rfl, r1, r2, r3⟩ := slice_came (α := ByteArray) Try.underlying49 (s := 1) (by kernel_rfl) (by decide) (fun cs x => cs = [.string x] ∧ x.size ≤ maxLen) (fun fuel cs x h => by
    obtain ⟨s, e, _, hs⟩ := DataW.trod_string Try.underlying9 h
    exact ⟨s, e, hs⟩) k1
  obtain rfl : v1 = .slice A2 raw.length c2 := by
    obtain ⟨a2, n2, c2, rfl⟩ := okWide_slice Try.underlying49 (hval 1 _ v1 rfl rfl)
    simpa [Value.cells] using hv
  refine wtexts_walk v0 l A2 c2 raw W hl r1 r2 (fun i hi => ?_) (fun i hi => ?_)
  · obtain ⟨b, o, ea, hc⟩ := r3 (by omega)
    obtain ⟨cs, k1, ⟨rfl, k2⟩, k3⟩ := hc i _ (List.getElem?_eq_getElem hi)
    refine ⟨b, o, ea, ?_⟩
    have := k3 0 _ rfl
    simpa [List.getD, List.getElem?_eq_getElem hi] using this
  · obtain ⟨b, o, ea, hc⟩ := r3 (by omega)
    obtain ⟨cs, k1, ⟨rfl, k2⟩, k3⟩ := hc i _ (List.getElem?_eq_getElem hi)
    simpa [List.getD, List.getElem?_eq_getElem hi] using k2

set_option maxRecDepth 100000 in
theorem wtexts_spec (H : Type) : ∀ ds : List (DataW H), ds.length = Try.f6.params.toList.length → Rows.wordTextsSpec.fn H ds = { results := [.lit (.bool true)], args := ds }
  | [_, _], _ => rfl
  | [], h | [_], h | _ :: _ :: _ :: _, h => by rw [Try.params6] at h; simp at h

set_option maxRecDepth 100000 in
theorem wordTexts_holds : Rows.WordTextsSaid :=
  OpenClaim.holds_of_wide 6 Try.f6 rfl rfl rfl rfl rfl rfl rfl ⟨rfl, rfl, rfl, rfl, rfl⟩ rfl rfl rfl rfl rfl (by kernel_rfl) Try.func6 (by kernel_rfl)
    (of_decide_eq_true (by kernel_rfl)) (by unfold Func.isWrapper; first | (rw [if_pos (by decide +kernel)]; kernel_rfl) | (rw [if_neg (by decide +kernel)]; exact ⟨rfl, rfl⟩))
    (fun os started H enc _ => law_lifted started (by kernel_rfl) Try.func6 rfl rfl (wtexts_spec H) (of_decide_eq_true (by kernel_rfl))
      (ChangeSpec.witness6 (enc := enc) (C := Try.checked) false ⟨#[], #[.slice none 0 0, .slice none 0 0], []⟩ 8 (by kernel_rfl) (by kernel_rfl) (by kernel_rfl) (by kernel_rfl)) wtexts_told)
end Go.Proofs.Ytgmmkoahnednfaa
