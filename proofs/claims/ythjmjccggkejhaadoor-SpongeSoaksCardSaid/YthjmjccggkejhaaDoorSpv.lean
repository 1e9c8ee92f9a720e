/- SpongeTexts: the walk. -/
import Derived.Test.YthjmjccggkejhaaDoorSpu
namespace Go.Proofs.YthjmjccggkejhaaDoor
open Go.ChangeShapes Go.WideShapes Go.ChangeAt Go.RowKit

/-- What lies there ahead of the comparison. -/
def TxB (w : World) (g6 b o : Nat) (f f0 : Nat → Nat) (W : World) : Prop := Ib W g6 f ∧ W.rangeAt b o (ic f0).toList ∧ Ext w W
set_option maxRecDepth 100000 in
theorem TxB.ext {w : World} {g6 b o : Nat} {f f0 : Nat → Nat} {W W' : World} (h : TxB w g6 b o f f0 W) (he : Ext W W') : TxB w g6 b o f f0 W' := ⟨h.1.ext he, rangeAt_ext h.2.1 he, h.2.2.trans he⟩
set_option maxRecDepth 100000 in
theorem TxB.drew {w : World} {g6 b o : Nat} {f f0 : Nat → Nat} {W : World} (h : TxB w g6 b o f f0 W) : TxB w g6 b o f f0 W.drew := h.ext (ext_of_grown (grown_drew (World.grownBy.refl _ _)))

def Tx2 (w : World) (g9 g11 : Nat) (p : Nat → Nat) (W : World) : Prop := Ib W g9 p ∧ Ib W g11 p ∧ Ext w W
set_option maxRecDepth 100000 in
theorem Tx2.ext {w : World} {g9 g11 : Nat} {p : Nat → Nat} {W W' : World} (h : Tx2 w g9 g11 p W) (he : Ext W W') : Tx2 w g9 g11 p W' := ⟨h.1.ext he, h.2.1.ext he, h.2.2.trans he⟩
set_option maxRecDepth 100000 in
theorem Tx2.drew {w : World} {g9 g11 : Nat} {p : Nat → Nat} {W : World} (h : Tx2 w g9 g11 p W) : Tx2 w g9 g11 p W.drew := h.ext (ext_of_grown (grown_drew (World.grownBy.refl _ _)))
set_option maxRecDepth 100000 in
theorem same_self (p : Nat → Nat) : (!same32 p p) = false := by
  rw [(same32_iff p p).2 fun _ _ => rfl]
  rfl
set_option maxRecDepth 100000 in
theorem wpList_neq_id {ops : Array Oper} {rest : List Oper} {o : Oper} {a : Act} {w : World} {Q : Exit → Act → World → Prop} (hgd : Region.wanted o (yielded ops a.tmps) = true) (x y : Operand) (ho : o.op = .binOp .neq 27 x y 27)
    (f g : Nat → Nat) (b : Bool) (hx : a.eval x = idv f) (hy : a.eval y = idv g) (hb : (!same32 f g) = b) (h : wpList Tryd.prog ops Q rest (a.put o.dst (.bool b)) w) : wpList Tryd.prog ops Q (o :: rest) a w := by
  refine wpList_step fun K hK => ?_
  rw [if_pos hgd]
  unfold Oper.wp
  simp only [execOp, ho, hx, hy, Sem.run_bind, run_guard_neq_id, Result.andThen_ok, run_neq_id f g, hb]
  exact hK _ _ h

set_option maxRecDepth 100000 in
set_option maxHeartbeats 4000000 in
theorem texts_any (v s : Value) (l : List (Nat → Nat)) (ss : List ByteArray) (w : World) (hl : As w 32 .u8 256 v l) (hs : Ss w s ss) (ht : Tb w) :
    Calls Tryd.prog 5 #[v, s] w (RetT w) := by
  have HL := Lib.hid hl
  have HS := Lib.hid hs
  have HT := Lib.hid ht
  obtain ⟨A, c, rfl, h1, h2, h3, h4⟩ := id hl
  obtain ⟨B, d, rfl, h5, h6, h7⟩ := id hs
  clear hl hs ht h1 h2 h3 h4 h5 h6 h7
  go_enter Tryd.func5, Tryd.ntmps5
  go_wp2_with fail
  refine (wakes_any _ HT.out).mono ?_
  rintro e w1 ⟨rfl, he1⟩
  have HE := Lib.hid he1
  clear he1
  go_wp2_with fail
  go_loopw [5, 6, 17, 18, 19, 20, 21, 22, 23, 24, 25, 26, 27, 28, 29, 30, 31, 32, 33, 34, 35, 36, 37, 38, 39, 40, 41, 42, 43, 44, 45, 46, 47, 48, 49, 50, 51, 52, 53, 54, 55] (fun _ _ u _ _ _ _ _ _ _ _ _ _ _ _ _ _ _ _ _ _ _ _ _ _ _ _ _ _ _ _ _ _ _ _ _ _ _ _ _ _ wr => ∃ k : Nat, k ≤ 12 ∧ k ≤ l.length ∧ u = .int .i64 k ∧ Hid (Ext w wr)) (fun _ _ u _ _ _ _ _ _ _ _ _ _ _ _ _ _ _ _ _ _ _ _ _ _ _ _ _ _ _ _ _ _ _ _ _ _ _ _ _ _ _ => l.length - (intOf u).toNat)
  case atStart => exact ⟨0, by omega, by omega, rfl, HE⟩
  case round =>
    clear HE
    obtain ⟨k, hk12, hk, rfl, HE⟩ := hrel
    by_cases hlt : k < l.length
    · obtain ⟨b, o, c', e, hr, hb⟩ := HL.out.ids (by omega)
      injection e with e1 e2 e3
      subst e1
      have HRk := Lib.hid (rangeAt_ext (hr k hlt) HE.out)
      have HR0 := Lib.hid (show wr.rangeAt b o (ic (l.getD 0 fun _ => 0)).toList from by have := rangeAt_ext (hr 0 (by omega)) HE.out; rwa [Nat.zero_mul, Nat.add_zero] at this)
      have HX1 := Lib.hid (fun W => text_any (l.getD k fun _ => 0) W (hb k hlt))
      have HX2 := Lib.hid (fun W => refText_any (l.getD k fun _ => 0) W (hb k hlt))
      have HY1 := Lib.hid (fun W => less_any (l.getD k fun _ => 0) (l.getD 0 fun _ => 0) W)
      have HY2 := Lib.hid (fun W => refLess_any (l.getD k fun _ => 0) (l.getD 0 fun _ => 0) W)
      have HZ1 := Lib.hid (fun W => less_any (l.getD 0 fun _ => 0) (l.getD k fun _ => 0) W)
      have HZ2 := Lib.hid (fun W => refLess_any (l.getD 0 fun _ => 0) (l.getD k fun _ => 0) W)
      clear hr e2 e3 hb
      generalize (l.getD k fun _ => 0) = f at *
      generalize (l.getD 0 fun _ => 0) = f0 at *
      generalize (⟨(txI f 32).toArray⟩ : ByteArray) = tx at *
      generalize lsR f f0 32 0 = x1 at *
      generalize lsR f0 f 32 0 = x2 at *
      by_cases h12 : k = 12
      · have hd : ((k : Int) == 12) = true := by rw [h12]; rfl
        clear h12
        go_upto_region 10 with (first
          | ((with_reducible refine wpList_load_idAt ?_ (.tmp 20) ?_ b (o + k * 32) f ?_ ?_ ?_); (exact rfl); (exact rfl); (exact rfl); (exact HRk.out))
          | ((with_reducible refine wpList_store_id ?_ ?_ (.tmp 6) (.tmp 21) ?_ wr.heap.size (ic fun _ => 0) f ?_ ?_ ?_ ?_ ?_); (exact rfl); (exact rfl); (exact rfl); (exact rfl); (exact rfl); (exact Cs.new _ _ _ _ rfl); (exact ic_size _); intro w7 k7 g7; have HE7 := Lib.hid ((HE.out.alloc _).grown g7 HE.out.size); clear k7 g7))
        have HE := HE7
        clear HE7 HX1 HX2 HY1 HY2 HZ1 HZ2 HRk HR0
        go_wp2_with fail
        go_loopw [7, 8, 9, 10, 11, 12, 58, 59, 60, 61, 62, 63, 64, 65, 66, 67, 68, 69, 70, 71, 72, 73, 74, 75, 76, 77, 78, 79, 80, 81, 82, 83, 84, 85, 86, 87, 88, 89, 90, 91, 92, 93, 94, 95, 96, 97] (fun _ _ _ _ _ _ u _ _ _ _ _ _ _ _ _ _ _ _ _ _ _ _ _ _ _ _ _ _ _ _ _ _ _ _ _ _ _ _ _ _ _ _ _ _ _ wr => ∃ k : Nat, k ≤ 12 ∧ k ≤ ss.length ∧ u = .int .i64 k ∧ Hid (Ext w wr)) (fun _ _ _ _ _ _ u _ _ _ _ _ _ _ _ _ _ _ _ _ _ _ _ _ _ _ _ _ _ _ _ _ _ _ _ _ _ _ _ _ _ _ _ _ _ _ _ => ss.length - (intOf u).toNat)
        case atStart => exact ⟨0, by omega, by omega, rfl, HE⟩
        case round =>
          clear HE
          obtain ⟨k, hk12, hk, rfl, HE⟩ := hrel
          by_cases hlt : k < ss.length
          · obtain ⟨B', d', e, hd1, hd2, hd3⟩ := HS.out
            obtain ⟨b, o, rfl, hc⟩ := hd3 (by omega)
            injection e with e1 e2 e3
            subst e1
            have hc1 := HE.out.cell (hc k hlt).1
            have hsz0 := (hc k hlt).2
            clear hc hd3 hd1 hd2 e2 e3
            generalize ss.getD k ByteArray.empty = x at *
            by_cases h12 : k = 12
            · have hd : ((k : Int) == 12) = true := by rw [h12]; rfl
              clear h12
              go_wp2_with fail
              go_ret
              exact ⟨rfl, HE.out⟩
            · have hd : ((k : Int) == 12) = false := by simp; omega
              obtain ⟨m, hm⟩ : ∃ m, m = min x.size 100 := ⟨_, rfl⟩
              have hmi : min (x.size : Int) 100 = (m : Int) := by omega
              have hm1 : m ≤ x.size := by omega
              have hk11 : k < 12 := by omega
              clear hm h12
              unfold maxLen at hsz0
              generalize hz : x.extract 0 m = z at *
              cases hok : okS z with
              | true =>
                have hv1 : prsV z = .tuple #[idv (idP (dS z)), .int .i64 0] := by unfold prsV; rw [hok]; rfl
                have hv2 : rprsV z = .tuple #[idv (idP (dS z)), .bool true] := by unfold rprsV; rw [hok]; rfl
                have HP1 := Lib.hid (fun W => parse_any z W)
                have HP2 := Lib.hid (fun W => refParse_any z W)
                rw [hv1] at HP1
                rw [hv2] at HP2
                clear hv1 hv2 hok
                generalize (idP (dS z)) = p at *
                go_wp2_with fail
                refine (HP1.out _).mono ?_
                rintro e w3 ⟨rfl, he3⟩
                have HE3 := Lib.hid (HE.out.trans he3)
                clear he3
                go_wp2_with ((with_reducible refine wpList_store_id ?_ ?_ (.tmp 9) (.tmp 73) ?_ w3.heap.size (ic fun _ => 0) p ?_ ?_ ?_ ?_ ?_); (exact rfl); (exact rfl); (exact rfl); (exact rfl); (exact rfl); (exact Cs.new _ _ _ _ rfl); (exact ic_size _); intro w4 k4 g4; have K4 := Lib.hid k4; have HE4 := Lib.hid ((HE3.out.alloc _).grown g4 HE3.out.size); clear k4 g4)
                refine (HP2.out _).mono ?_
                rintro e w5 ⟨rfl, he5⟩
                have K5 := Lib.hid (K4.out.ext he5)
                have HE5 := Lib.hid (HE4.out.trans he5)
                clear he5 K4 HE4 HE3
                go_wp2_with (first
                  | ((with_reducible refine wpList_store_id ?_ ?_ (.tmp 11) (.tmp 78) ?_ w5.heap.size (ic fun _ => 0) p ?_ ?_ ?_ ?_ ?_); (exact rfl); (exact rfl); (exact rfl); (exact rfl); (exact rfl); (exact Cs.new _ _ _ _ rfl); (exact ic_size _); intro w7 k7 g7; have HB0 : Hid (Tx2 w w3.heap.size w5.heap.size p w7) := ⟨Cs.kept (Cs.alloc K5.out _) g7 (some_ne (by have := Cs.lt K5.out; omega)), k7, (HE5.out.alloc _).grown g7 HE5.out.size⟩; clear k7 g7)
                  | ((with_reducible refine wpList_load_id ?_ (.tmp 9) ?_ w3.heap.size p ?_ ?_ ?_); (exact rfl); (exact rfl); (exact rfl); (exact HB0.out.1))
                  | ((with_reducible refine wpList_load_id ?_ (.tmp 11) ?_ w5.heap.size p ?_ ?_ ?_); (exact rfl); (exact rfl); (exact rfl); (exact HB0.out.2.1))
                  | ((with_reducible refine wpList_neq_id ?_ (.tmp 80) (.tmp 81) ?_ p p false ?_ ?_ (same_self p) ?_); (exact rfl); (exact rfl); (exact rfl); (exact rfl)))
                exact ⟨⟨k + 1, by omega, by omega, by go_num, Lib.hid HB0.out.2.2⟩, by simp [intOf]; omega⟩
              | false =>
                have hv1 : prsV z = .tuple #[idv (fun _ => 0), .int .i64 130] := by unfold prsV; rw [hok]; rfl
                have hv2 : rprsV z = .tuple #[idv (fun _ => 0), .bool false] := by unfold rprsV; rw [hok]; rfl
                have HP1 := Lib.hid (fun W => parse_any z W)
                have HP2 := Lib.hid (fun W => refParse_any z W)
                rw [hv1] at HP1
                rw [hv2] at HP2
                clear hv1 hv2 hok
                generalize (fun _ => 0) = p at *
                go_wp2_with fail
                refine (HP1.out _).mono ?_
                rintro e w3 ⟨rfl, he3⟩
                have HE3 := Lib.hid (HE.out.trans he3)
                clear he3
                go_wp2_with ((with_reducible refine wpList_store_id ?_ ?_ (.tmp 9) (.tmp 73) ?_ w3.heap.size (ic fun _ => 0) p ?_ ?_ ?_ ?_ ?_); (exact rfl); (exact rfl); (exact rfl); (exact rfl); (exact rfl); (exact Cs.new _ _ _ _ rfl); (exact ic_size _); intro w4 k4 g4; have K4 := Lib.hid k4; have HE4 := Lib.hid ((HE3.out.alloc _).grown g4 HE3.out.size); clear k4 g4)
                refine (HP2.out _).mono ?_
                rintro e w5 ⟨rfl, he5⟩
                have K5 := Lib.hid (K4.out.ext he5)
                have HE5 := Lib.hid (HE4.out.trans he5)
                clear he5 K4 HE4 HE3
                go_wp2_with (first
                  | ((with_reducible refine wpList_store_id ?_ ?_ (.tmp 11) (.tmp 78) ?_ w5.heap.size (ic fun _ => 0) p ?_ ?_ ?_ ?_ ?_); (exact rfl); (exact rfl); (exact rfl); (exact rfl); (exact rfl); (exact Cs.new _ _ _ _ rfl); (exact ic_size _); intro w7 k7 g7; have HB0 : Hid (Tx2 w w3.heap.size w5.heap.size p w7) := ⟨Cs.kept (Cs.alloc K5.out _) g7 (some_ne (by have := Cs.lt K5.out; omega)), k7, (HE5.out.alloc _).grown g7 HE5.out.size⟩; clear k7 g7)
                  | ((with_reducible refine wpList_load_id ?_ (.tmp 9) ?_ w3.heap.size p ?_ ?_ ?_); (exact rfl); (exact rfl); (exact rfl); (exact HB0.out.1))
                  | ((with_reducible refine wpList_load_id ?_ (.tmp 11) ?_ w5.heap.size p ?_ ?_ ?_); (exact rfl); (exact rfl); (exact rfl); (exact HB0.out.2.1))
                  | ((with_reducible refine wpList_neq_id ?_ (.tmp 80) (.tmp 81) ?_ p p false ?_ ?_ (same_self p) ?_); (exact rfl); (exact rfl); (exact rfl); (exact rfl)))
                exact ⟨⟨k + 1, by omega, by omega, by go_num, Lib.hid HB0.out.2.2⟩, by simp [intOf]; omega⟩
          · obtain rfl : k = ss.length := by omega
            go_wp2_with fail
            go_ret
            exact ⟨rfl, HE.out⟩
      · have hd : ((k : Int) == 12) = false := by simp; omega
        have hk11 : k < 12 := by omega
        go_upto_region 7 with (first
          | ((with_reducible refine wpList_load_idAt ?_ (.tmp 20) ?_ b (o + k * 32) f ?_ ?_ ?_); (exact rfl); (exact rfl); (exact rfl); (exact HRk.out))
          | ((with_reducible refine wpList_store_id ?_ ?_ (.tmp 6) (.tmp 21) ?_ wr.heap.size (ic fun _ => 0) f ?_ ?_ ?_ ?_ ?_); (exact rfl); (exact rfl); (exact rfl); (exact rfl); (exact rfl); (exact Cs.new _ _ _ _ rfl); (exact ic_size _); intro w7 k7 g7; have HB0 : Hid (TxB w wr.heap.size b o f f0 w7) := ⟨k7, rangeAt_ext HR0.out (((Ext.refl wr).alloc _).grown g7 (by omega)), (HE.out.alloc _).grown g7 HE.out.size⟩; clear k7 g7))
        generalize wr.heap.size = g6 at *
        refine wp_named fun a0 ha0 => ?_
        obtain ⟨fr, hfr⟩ : ∃ fr : (Nat → Value) → Act, ∀ V, fr V = (((((((((((((((((((((((((((((((a0.put (some 24) (V 0)).put (some 25) (V 1)).put (some 26) (V 2)).put (some 27) (V 3)).put (some 28) (V 4)).put (some 29) (V 5)).put (some 30) (V 6)).put (some 31) (V 7)).put (some 32) (V 8)).put (some 33) (V 9)).put (some 34) (V 10)).put (some 35) (V 11)).put (some 36) (V 12)).put (some 37) (V 13)).put (some 38) (V 14)).put (some 39) (V 15)).put (some 40) (V 16)).put (some 41) (V 17)).put (some 42) (V 18)).put (some 43) (V 19)).put (some 44) (V 20)).put (some 45) (V 21)).put (some 46) (V 22)).put (some 47) (V 23)).put (some 48) (V 24)).put (some 49) (V 25)).put (some 50) (V 26)).put (some 51) (V 27)).put (some 52) (V 28)).put (some 53) (V 29)).put (some 54) (V 30)) := ⟨fun V => (((((((((((((((((((((((((((((((a0.put (some 24) (V 0)).put (some 25) (V 1)).put (some 26) (V 2)).put (some 27) (V 3)).put (some 28) (V 4)).put (some 29) (V 5)).put (some 30) (V 6)).put (some 31) (V 7)).put (some 32) (V 8)).put (some 33) (V 9)).put (some 34) (V 10)).put (some 35) (V 11)).put (some 36) (V 12)).put (some 37) (V 13)).put (some 38) (V 14)).put (some 39) (V 15)).put (some 40) (V 16)).put (some 41) (V 17)).put (some 42) (V 18)).put (some 43) (V 19)).put (some 44) (V 20)).put (some 45) (V 21)).put (some 46) (V 22)).put (some 47) (V 23)).put (some 48) (V 24)).put (some 49) (V 25)).put (some 50) (V 26)).put (some 51) (V 27)).put (some 52) (V 28)).put (some 53) (V 29)).put (some 54) (V 30)), fun _ => rfl⟩
        rw [ha0] at hfr
        simp only [Act.put, List.setIfInBounds_toArray, List.set_cons_zero, List.set_cons_succ] at hfr
        have HFR := Lib.hid hfr
        clear hfr
        refine wp_region_inv (by kernel_rfl) (by kernel_rfl) (fun L A W => ∃ V : Nat → Value, A = fr V ∧ Vals (fun j => ([some (idv f), some (.string tx), some (idv f), some (.string tx), some (.bool false), some (.bool false), some (idv f), some (.slice (some ⟨b, o, none⟩) l.length c), some (.pointer (some ⟨b, o, none⟩)), some (idv f0), some (.bool x1), some (idv f), some (.slice (some ⟨b, o, none⟩) l.length c), some (.pointer (some ⟨b, o, none⟩)), some (idv f0), some (.bool x1), some (.bool false), some (.bool false), some (.bool false), some (.slice (some ⟨b, o, none⟩) l.length c), some (.pointer (some ⟨b, o, none⟩)), some (idv f0), some (idv f), some (.bool x2), some (.slice (some ⟨b, o, none⟩) l.length c), some (.pointer (some ⟨b, o, none⟩)), some (idv f0), some (idv f), some (.bool x2), some (.bool false), some (.bool false)] : List (Option Value)).getD j none) L V ∧ TxB w g6 b o f f0 W) ?_ ⟨?_, ?_, ?_, ?_, ?_, ?_, ?_, ?_, ?_, ?_, ?_, ?_, ?_, ?_, ?_, ?_, ?_, ?_, ?_, ?_, ?_, ?_, ?_, ?_, ?_, ?_, ?_, ?_, ?_, ?_, ?_, trivial⟩ ?_
        · refine ⟨fun j => a0.tmps.getD (([24, 25, 26, 27, 28, 29, 30, 31, 32, 33, 34, 35, 36, 37, 38, 39, 40, 41, 42, 43, 44, 45, 46, 47, 48, 49, 50, 51, 52, 53, 54] : List Nat).getD j 0) undef, ?_, Vals.no _ _ _ (far_none _ _ rfl), HB0.out.drew⟩
          rw [HFR.out, ha0]
          rfl
        all_goals clear ha0
        · rintro L A W K hL hC hW ⟨V, rfl, HV, hB⟩ hK
          have H := Lib.hid (show ∀ W', Ext W W' → K (fr (upd V 0 (idv f))) W' from fun W' he => hK _ W' ⟨upd V 0 (idv f), rfl, HV.up 0 _ (fun x hx => Option.some.inj hx), TxB.ext hB he⟩)
          clear hK hC hW hL HV
          rw [HFR.out]
          have HLn := Lib.hid hB.1
          clear hB
          go_wp2_with ((with_reducible refine wpList_load_id ?_ (.tmp 6) ?_ g6 f ?_ ?_ ?_); (exact rfl); (exact rfl); (exact rfl); (exact HLn.out))
          show K _ _
          have := H.out _ (Ext.refl _)
          rw [HFR.out] at this
          exact this
        · rintro L A W K hL hC hW ⟨V, rfl, HV, hB⟩ hK
          have e0 : V 0 = idv f := HV 0 _ rfl (hW 0 rfl)
          have H := Lib.hid (show ∀ W', Ext W W' → K (fr (upd V 1 (.string tx))) W' from fun W' he => hK _ W' ⟨upd V 1 (.string tx), rfl, HV.up 1 _ (fun x hx => Option.some.inj hx), TxB.ext hB he⟩)
          clear hK hC hW hL HV
          have u0 : (upd V 1 (.string tx)) 0 = idv f := e0
          have HU := Lib.hid (show (upd V 1 (.string tx)) 0 = idv f from u0)
          clear u0
          rw [HFR.out]
          rw [e0]
          clear e0
          go_wp2_with fail
          refine (HX1.out _).mono ?_
          rintro e wx ⟨rfl, he⟩
          go_wp2_with fail
          show K _ _
          have := H.out _ he
          rw [HFR.out] at this
          obtain u0 := HU.out
          rw [u0] at this
          exact this
        · rintro L A W K hL hC hW ⟨V, rfl, HV, hB⟩ hK
          have H := Lib.hid (show ∀ W', Ext W W' → K (fr (upd V 2 (idv f))) W' from fun W' he => hK _ W' ⟨upd V 2 (idv f), rfl, HV.up 2 _ (fun x hx => Option.some.inj hx), TxB.ext hB he⟩)
          clear hK hC hW hL HV
          rw [HFR.out]
          have HLn := Lib.hid hB.1
          clear hB
          go_wp2_with ((with_reducible refine wpList_load_id ?_ (.tmp 6) ?_ g6 f ?_ ?_ ?_); (exact rfl); (exact rfl); (exact rfl); (exact HLn.out))
          show K _ _
          have := H.out _ (Ext.refl _)
          rw [HFR.out] at this
          exact this
        · rintro L A W K hL hC hW ⟨V, rfl, HV, hB⟩ hK
          have e2 : V 2 = idv f := HV 2 _ rfl (hW 2 rfl)
          have H := Lib.hid (show ∀ W', Ext W W' → K (fr (upd V 3 (.string tx))) W' from fun W' he => hK _ W' ⟨upd V 3 (.string tx), rfl, HV.up 3 _ (fun x hx => Option.some.inj hx), TxB.ext hB he⟩)
          clear hK hC hW hL HV
          have u2 : (upd V 3 (.string tx)) 2 = idv f := e2
          have HU := Lib.hid (show (upd V 3 (.string tx)) 2 = idv f from u2)
          clear u2
          rw [HFR.out]
          rw [e2]
          clear e2
          go_wp2_with fail
          refine (HX2.out _).mono ?_
          rintro e wx ⟨rfl, he⟩
          go_wp2_with fail
          show K _ _
          have := H.out _ he
          rw [HFR.out] at this
          obtain u2 := HU.out
          rw [u2] at this
          exact this
        · rintro L A W K hL hC hW ⟨V, rfl, HV, hB⟩ hK
          have e1 : V 1 = .string tx := HV 1 _ rfl (hW 1 rfl)
          have e3 : V 3 = .string tx := HV 3 _ rfl (hW 3 rfl)
          have H := Lib.hid (show ∀ W', Ext W W' → K (fr (upd V 4 (.bool false))) W' from fun W' he => hK _ W' ⟨upd V 4 (.bool false), rfl, HV.up 4 _ (fun x hx => Option.some.inj hx), TxB.ext hB he⟩)
          clear hK hC hW hL HV
          have u1 : (upd V 4 (.bool false)) 1 = .string tx := e1
          have u3 : (upd V 4 (.bool false)) 3 = .string tx := e3
          have HU := Lib.hid (show (upd V 4 (.bool false)) 1 = .string tx ∧ (upd V 4 (.bool false)) 3 = .string tx from ⟨u1, u3⟩)
          clear u1 u3
          rw [HFR.out]
          rw [e1, e3]
          clear e1 e3
          clear hB
          go_wp2_with fail
          show K _ _
          have := H.out _ (Ext.refl _)
          rw [HFR.out] at this
          obtain ⟨u1, u3⟩ := HU.out
          rw [u1, u3] at this
          exact this
        · rintro L A W K hL hC hW ⟨V, rfl, HV, hB⟩ hK
          have e4 : V 4 = .bool false := HV 4 _ rfl (hW 4 rfl)
          have H := Lib.hid (show ∀ W', Ext W W' → K (fr (upd V 5 (.bool false))) W' from fun W' he => hK _ W' ⟨upd V 5 (.bool false), rfl, HV.up 5 _ (fun x hx => Option.some.inj hx), TxB.ext hB he⟩)
          clear hK hC hW hL HV
          have u4 : (upd V 5 (.bool false)) 4 = .bool false := e4
          have HU := Lib.hid (show (upd V 5 (.bool false)) 4 = .bool false from u4)
          clear u4
          rw [HFR.out]
          rw [e4]
          clear e4
          clear hB
          go_wp2_with fail
          show K _ _
          have := H.out _ (Ext.refl _)
          rw [HFR.out] at this
          obtain u4 := HU.out
          rw [u4] at this
          exact this
        · rintro L A W K hL hC hW ⟨V, rfl, HV, hB⟩ hK
          have e5 : V 5 = .bool false := HV 5 _ rfl (hW 5 rfl)
          have H := Lib.hid (show ∀ W', Ext W W' → K (fr (upd V 6 (idv f))) W' from fun W' he => hK _ W' ⟨upd V 6 (idv f), rfl, HV.up 6 _ (fun x hx => Option.some.inj hx), TxB.ext hB he⟩)
          clear hK hC hW hL HV
          have u5 : (upd V 6 (idv f)) 5 = .bool false := e5
          have HU := Lib.hid (show (upd V 6 (idv f)) 5 = .bool false from u5)
          clear u5
          rw [HFR.out]
          rw [e5]
          clear e5
          have HLn := Lib.hid hB.1
          clear hB
          go_wp2_with ((with_reducible refine wpList_load_id ?_ (.tmp 6) ?_ g6 f ?_ ?_ ?_); (exact rfl); (exact rfl); (exact rfl); (exact HLn.out))
          show K _ _
          have := H.out _ (Ext.refl _)
          rw [HFR.out] at this
          obtain u5 := HU.out
          rw [u5] at this
          exact this
        · rintro L A W K hL hC hW ⟨V, rfl, HV, hB⟩ hK
          have e5 : V 5 = .bool false := HV 5 _ rfl (hW 5 rfl)
          have H := Lib.hid (show ∀ W', Ext W W' → K (fr (upd V 7 (.slice (some ⟨b, o, none⟩) l.length c))) W' from fun W' he => hK _ W' ⟨upd V 7 (.slice (some ⟨b, o, none⟩) l.length c), rfl, HV.up 7 _ (fun x hx => Option.some.inj hx), TxB.ext hB he⟩)
          clear hK hC hW hL HV
          have u5 : (upd V 7 (.slice (some ⟨b, o, none⟩) l.length c)) 5 = .bool false := e5
          have HU := Lib.hid (show (upd V 7 (.slice (some ⟨b, o, none⟩) l.length c)) 5 = .bool false from u5)
          clear u5
          rw [HFR.out]
          rw [e5]
          clear e5
          clear hB
          go_wp2_with fail
          show K _ _
          have := H.out _ (Ext.refl _)
          rw [HFR.out] at this
          obtain u5 := HU.out
          rw [u5] at this
          exact this
        · rintro L A W K hL hC hW ⟨V, rfl, HV, hB⟩ hK
          have e5 : V 5 = .bool false := HV 5 _ rfl (hW 5 rfl)
          have e7 : V 7 = .slice (some ⟨b, o, none⟩) l.length c := HV 7 _ rfl (hW 7 rfl)
          have H := Lib.hid (show ∀ W', Ext W W' → K (fr (upd V 8 (.pointer (some ⟨b, o, none⟩)))) W' from fun W' he => hK _ W' ⟨upd V 8 (.pointer (some ⟨b, o, none⟩)), rfl, HV.up 8 _ (fun x hx => Option.some.inj hx), TxB.ext hB he⟩)
          clear hK hC hW hL HV
          have u5 : (upd V 8 (.pointer (some ⟨b, o, none⟩))) 5 = .bool false := e5
          have u7 : (upd V 8 (.pointer (some ⟨b, o, none⟩))) 7 = .slice (some ⟨b, o, none⟩) l.length c := e7
          have HU := Lib.hid (show (upd V 8 (.pointer (some ⟨b, o, none⟩))) 5 = .bool false ∧ (upd V 8 (.pointer (some ⟨b, o, none⟩))) 7 = .slice (some ⟨b, o, none⟩) l.length c from ⟨u5, u7⟩)
          clear u5 u7
          rw [HFR.out]
          rw [e5, e7]
          clear e5 e7
          clear hB
          go_wp2_with fail
          show K _ _
          have := H.out _ (Ext.refl _)
          rw [HFR.out] at this
          obtain ⟨u5, u7⟩ := HU.out
          rw [u5, u7] at this
          exact this
        · rintro L A W K hL hC hW ⟨V, rfl, HV, hB⟩ hK
          have e5 : V 5 = .bool false := HV 5 _ rfl (hW 5 rfl)
          have e8 : V 8 = .pointer (some ⟨b, o, none⟩) := HV 8 _ rfl (hW 8 rfl)
          have H := Lib.hid (show ∀ W', Ext W W' → K (fr (upd V 9 (idv f0))) W' from fun W' he => hK _ W' ⟨upd V 9 (idv f0), rfl, HV.up 9 _ (fun x hx => Option.some.inj hx), TxB.ext hB he⟩)
          clear hK hC hW hL HV
          have u5 : (upd V 9 (idv f0)) 5 = .bool false := e5
          have u8 : (upd V 9 (idv f0)) 8 = .pointer (some ⟨b, o, none⟩) := e8
          have HU := Lib.hid (show (upd V 9 (idv f0)) 5 = .bool false ∧ (upd V 9 (idv f0)) 8 = .pointer (some ⟨b, o, none⟩) from ⟨u5, u8⟩)
          clear u5 u8
          rw [HFR.out]
          rw [e5, e8]
          clear e5 e8
          have HLn := Lib.hid hB.2.1
          clear hB
          go_wp2_with ((with_reducible refine wpList_load_idAt ?_ (.tmp 32) ?_ b o f0 ?_ ?_ ?_); (exact rfl); (exact rfl); (exact rfl); (exact HLn.out))
          show K _ _
          have := H.out _ (Ext.refl _)
          rw [HFR.out] at this
          obtain ⟨u5, u8⟩ := HU.out
          rw [u5, u8] at this
          exact this
        · rintro L A W K hL hC hW ⟨V, rfl, HV, hB⟩ hK
          have e5 : V 5 = .bool false := HV 5 _ rfl (hW 5 rfl)
          have e6 : V 6 = idv f := HV 6 _ rfl (hW 6 rfl)
          have e9 : V 9 = idv f0 := HV 9 _ rfl (hW 9 rfl)
          have H := Lib.hid (show ∀ W', Ext W W' → K (fr (upd V 10 (.bool x1))) W' from fun W' he => hK _ W' ⟨upd V 10 (.bool x1), rfl, HV.up 10 _ (fun x hx => Option.some.inj hx), TxB.ext hB he⟩)
          clear hK hC hW hL HV
          have u5 : (upd V 10 (.bool x1)) 5 = .bool false := e5
          have u6 : (upd V 10 (.bool x1)) 6 = idv f := e6
          have u9 : (upd V 10 (.bool x1)) 9 = idv f0 := e9
          have HU := Lib.hid (show (upd V 10 (.bool x1)) 5 = .bool false ∧ (upd V 10 (.bool x1)) 6 = idv f ∧ (upd V 10 (.bool x1)) 9 = idv f0 from ⟨u5, u6, u9⟩)
          clear u5 u6 u9
          rw [HFR.out]
          rw [e5, e6, e9]
          clear e5 e6 e9
          go_wp2_with fail
          refine (HY1.out _).mono ?_
          rintro e wx ⟨rfl, he⟩
          go_wp2_with fail
          show K _ _
          have := H.out _ he
          rw [HFR.out] at this
          obtain ⟨u5, u6, u9⟩ := HU.out
          rw [u5, u6, u9] at this
          exact this
        · rintro L A W K hL hC hW ⟨V, rfl, HV, hB⟩ hK
          have e5 : V 5 = .bool false := HV 5 _ rfl (hW 5 rfl)
          have H := Lib.hid (show ∀ W', Ext W W' → K (fr (upd V 11 (idv f))) W' from fun W' he => hK _ W' ⟨upd V 11 (idv f), rfl, HV.up 11 _ (fun x hx => Option.some.inj hx), TxB.ext hB he⟩)
          clear hK hC hW hL HV
          have u5 : (upd V 11 (idv f)) 5 = .bool false := e5
          have HU := Lib.hid (show (upd V 11 (idv f)) 5 = .bool false from u5)
          clear u5
          rw [HFR.out]
          rw [e5]
          clear e5
          have HLn := Lib.hid hB.1
          clear hB
          go_wp2_with ((with_reducible refine wpList_load_id ?_ (.tmp 6) ?_ g6 f ?_ ?_ ?_); (exact rfl); (exact rfl); (exact rfl); (exact HLn.out))
          show K _ _
          have := H.out _ (Ext.refl _)
          rw [HFR.out] at this
          obtain u5 := HU.out
          rw [u5] at this
          exact this
        · rintro L A W K hL hC hW ⟨V, rfl, HV, hB⟩ hK
          have e5 : V 5 = .bool false := HV 5 _ rfl (hW 5 rfl)
          have H := Lib.hid (show ∀ W', Ext W W' → K (fr (upd V 12 (.slice (some ⟨b, o, none⟩) l.length c))) W' from fun W' he => hK _ W' ⟨upd V 12 (.slice (some ⟨b, o, none⟩) l.length c), rfl, HV.up 12 _ (fun x hx => Option.some.inj hx), TxB.ext hB he⟩)
          clear hK hC hW hL HV
          have u5 : (upd V 12 (.slice (some ⟨b, o, none⟩) l.length c)) 5 = .bool false := e5
          have HU := Lib.hid (show (upd V 12 (.slice (some ⟨b, o, none⟩) l.length c)) 5 = .bool false from u5)
          clear u5
          rw [HFR.out]
          rw [e5]
          clear e5
          clear hB
          go_wp2_with fail
          show K _ _
          have := H.out _ (Ext.refl _)
          rw [HFR.out] at this
          obtain u5 := HU.out
          rw [u5] at this
          exact this
        · rintro L A W K hL hC hW ⟨V, rfl, HV, hB⟩ hK
          have e5 : V 5 = .bool false := HV 5 _ rfl (hW 5 rfl)
          have e12 : V 12 = .slice (some ⟨b, o, none⟩) l.length c := HV 12 _ rfl (hW 12 rfl)
          have H := Lib.hid (show ∀ W', Ext W W' → K (fr (upd V 13 (.pointer (some ⟨b, o, none⟩)))) W' from fun W' he => hK _ W' ⟨upd V 13 (.pointer (some ⟨b, o, none⟩)), rfl, HV.up 13 _ (fun x hx => Option.some.inj hx), TxB.ext hB he⟩)
          clear hK hC hW hL HV
          have u5 : (upd V 13 (.pointer (some ⟨b, o, none⟩))) 5 = .bool false := e5
          have u12 : (upd V 13 (.pointer (some ⟨b, o, none⟩))) 12 = .slice (some ⟨b, o, none⟩) l.length c := e12
          have HU := Lib.hid (show (upd V 13 (.pointer (some ⟨b, o, none⟩))) 5 = .bool false ∧ (upd V 13 (.pointer (some ⟨b, o, none⟩))) 12 = .slice (some ⟨b, o, none⟩) l.length c from ⟨u5, u12⟩)
          clear u5 u12
          rw [HFR.out]
          rw [e5, e12]
          clear e5 e12
          clear hB
          go_wp2_with fail
          show K _ _
          have := H.out _ (Ext.refl _)
          rw [HFR.out] at this
          obtain ⟨u5, u12⟩ := HU.out
          rw [u5, u12] at this
          exact this
        · rintro L A W K hL hC hW ⟨V, rfl, HV, hB⟩ hK
          have e5 : V 5 = .bool false := HV 5 _ rfl (hW 5 rfl)
          have e13 : V 13 = .pointer (some ⟨b, o, none⟩) := HV 13 _ rfl (hW 13 rfl)
          have H := Lib.hid (show ∀ W', Ext W W' → K (fr (upd V 14 (idv f0))) W' from fun W' he => hK _ W' ⟨upd V 14 (idv f0), rfl, HV.up 14 _ (fun x hx => Option.some.inj hx), TxB.ext hB he⟩)
          clear hK hC hW hL HV
          have u5 : (upd V 14 (idv f0)) 5 = .bool false := e5
          have u13 : (upd V 14 (idv f0)) 13 = .pointer (some ⟨b, o, none⟩) := e13
          have HU := Lib.hid (show (upd V 14 (idv f0)) 5 = .bool false ∧ (upd V 14 (idv f0)) 13 = .pointer (some ⟨b, o, none⟩) from ⟨u5, u13⟩)
          clear u5 u13
          rw [HFR.out]
          rw [e5, e13]
          clear e5 e13
          have HLn := Lib.hid hB.2.1
          clear hB
          go_wp2_with ((with_reducible refine wpList_load_idAt ?_ (.tmp 37) ?_ b o f0 ?_ ?_ ?_); (exact rfl); (exact rfl); (exact rfl); (exact HLn.out))
          show K _ _
          have := H.out _ (Ext.refl _)
          rw [HFR.out] at this
          obtain ⟨u5, u13⟩ := HU.out
          rw [u5, u13] at this
          exact this
        · rintro L A W K hL hC hW ⟨V, rfl, HV, hB⟩ hK
          have e5 : V 5 = .bool false := HV 5 _ rfl (hW 5 rfl)
          have e11 : V 11 = idv f := HV 11 _ rfl (hW 11 rfl)
          have e14 : V 14 = idv f0 := HV 14 _ rfl (hW 14 rfl)
          have H := Lib.hid (show ∀ W', Ext W W' → K (fr (upd V 15 (.bool x1))) W' from fun W' he => hK _ W' ⟨upd V 15 (.bool x1), rfl, HV.up 15 _ (fun x hx => Option.some.inj hx), TxB.ext hB he⟩)
          clear hK hC hW hL HV
          have u5 : (upd V 15 (.bool x1)) 5 = .bool false := e5
          have u11 : (upd V 15 (.bool x1)) 11 = idv f := e11
          have u14 : (upd V 15 (.bool x1)) 14 = idv f0 := e14
          have HU := Lib.hid (show (upd V 15 (.bool x1)) 5 = .bool false ∧ (upd V 15 (.bool x1)) 11 = idv f ∧ (upd V 15 (.bool x1)) 14 = idv f0 from ⟨u5, u11, u14⟩)
          clear u5 u11 u14
          rw [HFR.out]
          rw [e5, e11, e14]
          clear e5 e11 e14
          go_wp2_with fail
          refine (HY2.out _).mono ?_
          rintro e wx ⟨rfl, he⟩
          go_wp2_with fail
          show K _ _
          have := H.out _ he
          rw [HFR.out] at this
          obtain ⟨u5, u11, u14⟩ := HU.out
          rw [u5, u11, u14] at this
          exact this
        · rintro L A W K hL hC hW ⟨V, rfl, HV, hB⟩ hK
          have e5 : V 5 = .bool false := HV 5 _ rfl (hW 5 rfl)
          have e10 : V 10 = .bool x1 := HV 10 _ rfl (hW 10 rfl)
          have e15 : V 15 = .bool x1 := HV 15 _ rfl (hW 15 rfl)
          have H := Lib.hid (show ∀ W', Ext W W' → K (fr (upd V 16 (.bool false))) W' from fun W' he => hK _ W' ⟨upd V 16 (.bool false), rfl, HV.up 16 _ (fun x hx => Option.some.inj hx), TxB.ext hB he⟩)
          clear hK hC hW hL HV
          have u5 : (upd V 16 (.bool false)) 5 = .bool false := e5
          have u10 : (upd V 16 (.bool false)) 10 = .bool x1 := e10
          have u15 : (upd V 16 (.bool false)) 15 = .bool x1 := e15
          have HU := Lib.hid (show (upd V 16 (.bool false)) 5 = .bool false ∧ (upd V 16 (.bool false)) 10 = .bool x1 ∧ (upd V 16 (.bool false)) 15 = .bool x1 from ⟨u5, u10, u15⟩)
          clear u5 u10 u15
          rw [HFR.out]
          rw [e5, e10, e15]
          clear e5 e10 e15
          clear hB
          go_wp2_with fail
          show K _ _
          have := H.out _ (Ext.refl _)
          rw [HFR.out] at this
          obtain ⟨u5, u10, u15⟩ := HU.out
          rw [u5, u10, u15] at this
          exact this
        · rintro L A W K hL hC hW ⟨V, rfl, HV, hB⟩ hK
          have e5 : V 5 = .bool false := HV 5 _ rfl (hW 5 rfl)
          have e16 : V 16 = .bool false := HV 16 _ rfl (hW 16 rfl)
          have H := Lib.hid (show ∀ W', Ext W W' → K (fr (upd V 17 (.bool false))) W' from fun W' he => hK _ W' ⟨upd V 17 (.bool false), rfl, HV.up 17 _ (fun x hx => Option.some.inj hx), TxB.ext hB he⟩)
          clear hK hC hW hL HV
          have u5 : (upd V 17 (.bool false)) 5 = .bool false := e5
          have u16 : (upd V 17 (.bool false)) 16 = .bool false := e16
          have HU := Lib.hid (show (upd V 17 (.bool false)) 5 = .bool false ∧ (upd V 17 (.bool false)) 16 = .bool false from ⟨u5, u16⟩)
          clear u5 u16
          rw [HFR.out]
          rw [e5, e16]
          clear e5 e16
          clear hB
          go_wp2_with fail
          show K _ _
          have := H.out _ (Ext.refl _)
          rw [HFR.out] at this
          obtain ⟨u5, u16⟩ := HU.out
          rw [u5, u16] at this
          exact this
        · rintro L A W K hL hC hW ⟨V, rfl, HV, hB⟩ hK
          have e17 : V 17 = .bool false := HV 17 _ rfl (hW 17 rfl)
          have H := Lib.hid (show ∀ W', Ext W W' → K (fr (upd V 18 (.bool false))) W' from fun W' he => hK _ W' ⟨upd V 18 (.bool false), rfl, HV.up 18 _ (fun x hx => Option.some.inj hx), TxB.ext hB he⟩)
          clear hK hC hW hL HV
          have u17 : (upd V 18 (.bool false)) 17 = .bool false := e17
          have HU := Lib.hid (show (upd V 18 (.bool false)) 17 = .bool false from u17)
          clear u17
          rw [HFR.out]
          rw [e17]
          clear e17
          clear hB
          go_wp2_with fail
          show K _ _
          have := H.out _ (Ext.refl _)
          rw [HFR.out] at this
          obtain u17 := HU.out
          rw [u17] at this
          exact this
        · rintro L A W K hL hC hW ⟨V, rfl, HV, hB⟩ hK
          have e18 : V 18 = .bool false := HV 18 _ rfl (hW 18 rfl)
          have H := Lib.hid (show ∀ W', Ext W W' → K (fr (upd V 19 (.slice (some ⟨b, o, none⟩) l.length c))) W' from fun W' he => hK _ W' ⟨upd V 19 (.slice (some ⟨b, o, none⟩) l.length c), rfl, HV.up 19 _ (fun x hx => Option.some.inj hx), TxB.ext hB he⟩)
          clear hK hC hW hL HV
          have u18 : (upd V 19 (.slice (some ⟨b, o, none⟩) l.length c)) 18 = .bool false := e18
          have HU := Lib.hid (show (upd V 19 (.slice (some ⟨b, o, none⟩) l.length c)) 18 = .bool false from u18)
          clear u18
          rw [HFR.out]
          rw [e18]
          clear e18
          clear hB
          go_wp2_with fail
          show K _ _
          have := H.out _ (Ext.refl _)
          rw [HFR.out] at this
          obtain u18 := HU.out
          rw [u18] at this
          exact this
        · rintro L A W K hL hC hW ⟨V, rfl, HV, hB⟩ hK
          have e18 : V 18 = .bool false := HV 18 _ rfl (hW 18 rfl)
          have e19 : V 19 = .slice (some ⟨b, o, none⟩) l.length c := HV 19 _ rfl (hW 19 rfl)
          have H := Lib.hid (show ∀ W', Ext W W' → K (fr (upd V 20 (.pointer (some ⟨b, o, none⟩)))) W' from fun W' he => hK _ W' ⟨upd V 20 (.pointer (some ⟨b, o, none⟩)), rfl, HV.up 20 _ (fun x hx => Option.some.inj hx), TxB.ext hB he⟩)
          clear hK hC hW hL HV
          have u18 : (upd V 20 (.pointer (some ⟨b, o, none⟩))) 18 = .bool false := e18
          have u19 : (upd V 20 (.pointer (some ⟨b, o, none⟩))) 19 = .slice (some ⟨b, o, none⟩) l.length c := e19
          have HU := Lib.hid (show (upd V 20 (.pointer (some ⟨b, o, none⟩))) 18 = .bool false ∧ (upd V 20 (.pointer (some ⟨b, o, none⟩))) 19 = .slice (some ⟨b, o, none⟩) l.length c from ⟨u18, u19⟩)
          clear u18 u19
          rw [HFR.out]
          rw [e18, e19]
          clear e18 e19
          clear hB
          go_wp2_with fail
          show K _ _
          have := H.out _ (Ext.refl _)
          rw [HFR.out] at this
          obtain ⟨u18, u19⟩ := HU.out
          rw [u18, u19] at this
          exact this
        · rintro L A W K hL hC hW ⟨V, rfl, HV, hB⟩ hK
          have e18 : V 18 = .bool false := HV 18 _ rfl (hW 18 rfl)
          have e20 : V 20 = .pointer (some ⟨b, o, none⟩) := HV 20 _ rfl (hW 20 rfl)
          have H := Lib.hid (show ∀ W', Ext W W' → K (fr (upd V 21 (idv f0))) W' from fun W' he => hK _ W' ⟨upd V 21 (idv f0), rfl, HV.up 21 _ (fun x hx => Option.some.inj hx), TxB.ext hB he⟩)
          clear hK hC hW hL HV
          have u18 : (upd V 21 (idv f0)) 18 = .bool false := e18
          have u20 : (upd V 21 (idv f0)) 20 = .pointer (some ⟨b, o, none⟩) := e20
          have HU := Lib.hid (show (upd V 21 (idv f0)) 18 = .bool false ∧ (upd V 21 (idv f0)) 20 = .pointer (some ⟨b, o, none⟩) from ⟨u18, u20⟩)
          clear u18 u20
          rw [HFR.out]
          rw [e18, e20]
          clear e18 e20
          have HLn := Lib.hid hB.2.1
          clear hB
          go_wp2_with ((with_reducible refine wpList_load_idAt ?_ (.tmp 44) ?_ b o f0 ?_ ?_ ?_); (exact rfl); (exact rfl); (exact rfl); (exact HLn.out))
          show K _ _
          have := H.out _ (Ext.refl _)
          rw [HFR.out] at this
          obtain ⟨u18, u20⟩ := HU.out
          rw [u18, u20] at this
          exact this
        · rintro L A W K hL hC hW ⟨V, rfl, HV, hB⟩ hK
          have e18 : V 18 = .bool false := HV 18 _ rfl (hW 18 rfl)
          have H := Lib.hid (show ∀ W', Ext W W' → K (fr (upd V 22 (idv f))) W' from fun W' he => hK _ W' ⟨upd V 22 (idv f), rfl, HV.up 22 _ (fun x hx => Option.some.inj hx), TxB.ext hB he⟩)
          clear hK hC hW hL HV
          have u18 : (upd V 22 (idv f)) 18 = .bool false := e18
          have HU := Lib.hid (show (upd V 22 (idv f)) 18 = .bool false from u18)
          clear u18
          rw [HFR.out]
          rw [e18]
          clear e18
          have HLn := Lib.hid hB.1
          clear hB
          go_wp2_with ((with_reducible refine wpList_load_id ?_ (.tmp 6) ?_ g6 f ?_ ?_ ?_); (exact rfl); (exact rfl); (exact rfl); (exact HLn.out))
          show K _ _
          have := H.out _ (Ext.refl _)
          rw [HFR.out] at this
          obtain u18 := HU.out
          rw [u18] at this
          exact this
        · rintro L A W K hL hC hW ⟨V, rfl, HV, hB⟩ hK
          have e18 : V 18 = .bool false := HV 18 _ rfl (hW 18 rfl)
          have e21 : V 21 = idv f0 := HV 21 _ rfl (hW 21 rfl)
          have e22 : V 22 = idv f := HV 22 _ rfl (hW 22 rfl)
          have H := Lib.hid (show ∀ W', Ext W W' → K (fr (upd V 23 (.bool x2))) W' from fun W' he => hK _ W' ⟨upd V 23 (.bool x2), rfl, HV.up 23 _ (fun x hx => Option.some.inj hx), TxB.ext hB he⟩)
          clear hK hC hW hL HV
          have u18 : (upd V 23 (.bool x2)) 18 = .bool false := e18
          have u21 : (upd V 23 (.bool x2)) 21 = idv f0 := e21
          have u22 : (upd V 23 (.bool x2)) 22 = idv f := e22
          have HU := Lib.hid (show (upd V 23 (.bool x2)) 18 = .bool false ∧ (upd V 23 (.bool x2)) 21 = idv f0 ∧ (upd V 23 (.bool x2)) 22 = idv f from ⟨u18, u21, u22⟩)
          clear u18 u21 u22
          rw [HFR.out]
          rw [e18, e21, e22]
          clear e18 e21 e22
          go_wp2_with fail
          refine (HZ1.out _).mono ?_
          rintro e wx ⟨rfl, he⟩
          go_wp2_with fail
          show K _ _
          have := H.out _ he
          rw [HFR.out] at this
          obtain ⟨u18, u21, u22⟩ := HU.out
          rw [u18, u21, u22] at this
          exact this
        · rintro L A W K hL hC hW ⟨V, rfl, HV, hB⟩ hK
          have e18 : V 18 = .bool false := HV 18 _ rfl (hW 18 rfl)
          have H := Lib.hid (show ∀ W', Ext W W' → K (fr (upd V 24 (.slice (some ⟨b, o, none⟩) l.length c))) W' from fun W' he => hK _ W' ⟨upd V 24 (.slice (some ⟨b, o, none⟩) l.length c), rfl, HV.up 24 _ (fun x hx => Option.some.inj hx), TxB.ext hB he⟩)
          clear hK hC hW hL HV
          have u18 : (upd V 24 (.slice (some ⟨b, o, none⟩) l.length c)) 18 = .bool false := e18
          have HU := Lib.hid (show (upd V 24 (.slice (some ⟨b, o, none⟩) l.length c)) 18 = .bool false from u18)
          clear u18
          rw [HFR.out]
          rw [e18]
          clear e18
          clear hB
          go_wp2_with fail
          show K _ _
          have := H.out _ (Ext.refl _)
          rw [HFR.out] at this
          obtain u18 := HU.out
          rw [u18] at this
          exact this
        · rintro L A W K hL hC hW ⟨V, rfl, HV, hB⟩ hK
          have e18 : V 18 = .bool false := HV 18 _ rfl (hW 18 rfl)
          have e24 : V 24 = .slice (some ⟨b, o, none⟩) l.length c := HV 24 _ rfl (hW 24 rfl)
          have H := Lib.hid (show ∀ W', Ext W W' → K (fr (upd V 25 (.pointer (some ⟨b, o, none⟩)))) W' from fun W' he => hK _ W' ⟨upd V 25 (.pointer (some ⟨b, o, none⟩)), rfl, HV.up 25 _ (fun x hx => Option.some.inj hx), TxB.ext hB he⟩)
          clear hK hC hW hL HV
          have u18 : (upd V 25 (.pointer (some ⟨b, o, none⟩))) 18 = .bool false := e18
          have u24 : (upd V 25 (.pointer (some ⟨b, o, none⟩))) 24 = .slice (some ⟨b, o, none⟩) l.length c := e24
          have HU := Lib.hid (show (upd V 25 (.pointer (some ⟨b, o, none⟩))) 18 = .bool false ∧ (upd V 25 (.pointer (some ⟨b, o, none⟩))) 24 = .slice (some ⟨b, o, none⟩) l.length c from ⟨u18, u24⟩)
          clear u18 u24
          rw [HFR.out]
          rw [e18, e24]
          clear e18 e24
          clear hB
          go_wp2_with fail
          show K _ _
          have := H.out _ (Ext.refl _)
          rw [HFR.out] at this
          obtain ⟨u18, u24⟩ := HU.out
          rw [u18, u24] at this
          exact this
        · rintro L A W K hL hC hW ⟨V, rfl, HV, hB⟩ hK
          have e18 : V 18 = .bool false := HV 18 _ rfl (hW 18 rfl)
          have e25 : V 25 = .pointer (some ⟨b, o, none⟩) := HV 25 _ rfl (hW 25 rfl)
          have H := Lib.hid (show ∀ W', Ext W W' → K (fr (upd V 26 (idv f0))) W' from fun W' he => hK _ W' ⟨upd V 26 (idv f0), rfl, HV.up 26 _ (fun x hx => Option.some.inj hx), TxB.ext hB he⟩)
          clear hK hC hW hL HV
          have u18 : (upd V 26 (idv f0)) 18 = .bool false := e18
          have u25 : (upd V 26 (idv f0)) 25 = .pointer (some ⟨b, o, none⟩) := e25
          have HU := Lib.hid (show (upd V 26 (idv f0)) 18 = .bool false ∧ (upd V 26 (idv f0)) 25 = .pointer (some ⟨b, o, none⟩) from ⟨u18, u25⟩)
          clear u18 u25
          rw [HFR.out]
          rw [e18, e25]
          clear e18 e25
          have HLn := Lib.hid hB.2.1
          clear hB
          go_wp2_with ((with_reducible refine wpList_load_idAt ?_ (.tmp 49) ?_ b o f0 ?_ ?_ ?_); (exact rfl); (exact rfl); (exact rfl); (exact HLn.out))
          show K _ _
          have := H.out _ (Ext.refl _)
          rw [HFR.out] at this
          obtain ⟨u18, u25⟩ := HU.out
          rw [u18, u25] at this
          exact this
        · rintro L A W K hL hC hW ⟨V, rfl, HV, hB⟩ hK
          have e18 : V 18 = .bool false := HV 18 _ rfl (hW 18 rfl)
          have H := Lib.hid (show ∀ W', Ext W W' → K (fr (upd V 27 (idv f))) W' from fun W' he => hK _ W' ⟨upd V 27 (idv f), rfl, HV.up 27 _ (fun x hx => Option.some.inj hx), TxB.ext hB he⟩)
          clear hK hC hW hL HV
          have u18 : (upd V 27 (idv f)) 18 = .bool false := e18
          have HU := Lib.hid (show (upd V 27 (idv f)) 18 = .bool false from u18)
          clear u18
          rw [HFR.out]
          rw [e18]
          clear e18
          have HLn := Lib.hid hB.1
          clear hB
          go_wp2_with ((with_reducible refine wpList_load_id ?_ (.tmp 6) ?_ g6 f ?_ ?_ ?_); (exact rfl); (exact rfl); (exact rfl); (exact HLn.out))
          show K _ _
          have := H.out _ (Ext.refl _)
          rw [HFR.out] at this
          obtain u18 := HU.out
          rw [u18] at this
          exact this
        · rintro L A W K hL hC hW ⟨V, rfl, HV, hB⟩ hK
          have e18 : V 18 = .bool false := HV 18 _ rfl (hW 18 rfl)
          have e26 : V 26 = idv f0 := HV 26 _ rfl (hW 26 rfl)
          have e27 : V 27 = idv f := HV 27 _ rfl (hW 27 rfl)
          have H := Lib.hid (show ∀ W', Ext W W' → K (fr (upd V 28 (.bool x2))) W' from fun W' he => hK _ W' ⟨upd V 28 (.bool x2), rfl, HV.up 28 _ (fun x hx => Option.some.inj hx), TxB.ext hB he⟩)
          clear hK hC hW hL HV
          have u18 : (upd V 28 (.bool x2)) 18 = .bool false := e18
          have u26 : (upd V 28 (.bool x2)) 26 = idv f0 := e26
          have u27 : (upd V 28 (.bool x2)) 27 = idv f := e27
          have HU := Lib.hid (show (upd V 28 (.bool x2)) 18 = .bool false ∧ (upd V 28 (.bool x2)) 26 = idv f0 ∧ (upd V 28 (.bool x2)) 27 = idv f from ⟨u18, u26, u27⟩)
          clear u18 u26 u27
          rw [HFR.out]
          rw [e18, e26, e27]
          clear e18 e26 e27
          go_wp2_with fail
          refine (HZ2.out _).mono ?_
          rintro e wx ⟨rfl, he⟩
          go_wp2_with fail
          show K _ _
          have := H.out _ he
          rw [HFR.out] at this
          obtain ⟨u18, u26, u27⟩ := HU.out
          rw [u18, u26, u27] at this
          exact this
        · rintro L A W K hL hC hW ⟨V, rfl, HV, hB⟩ hK
          have e18 : V 18 = .bool false := HV 18 _ rfl (hW 18 rfl)
          have e23 : V 23 = .bool x2 := HV 23 _ rfl (hW 23 rfl)
          have e28 : V 28 = .bool x2 := HV 28 _ rfl (hW 28 rfl)
          have H := Lib.hid (show ∀ W', Ext W W' → K (fr (upd V 29 (.bool false))) W' from fun W' he => hK _ W' ⟨upd V 29 (.bool false), rfl, HV.up 29 _ (fun x hx => Option.some.inj hx), TxB.ext hB he⟩)
          clear hK hC hW hL HV
          have u18 : (upd V 29 (.bool false)) 18 = .bool false := e18
          have u23 : (upd V 29 (.bool false)) 23 = .bool x2 := e23
          have u28 : (upd V 29 (.bool false)) 28 = .bool x2 := e28
          have HU := Lib.hid (show (upd V 29 (.bool false)) 18 = .bool false ∧ (upd V 29 (.bool false)) 23 = .bool x2 ∧ (upd V 29 (.bool false)) 28 = .bool x2 from ⟨u18, u23, u28⟩)
          clear u18 u23 u28
          rw [HFR.out]
          rw [e18, e23, e28]
          clear e18 e23 e28
          clear hB
          go_wp2_with fail
          show K _ _
          have := H.out _ (Ext.refl _)
          rw [HFR.out] at this
          obtain ⟨u18, u23, u28⟩ := HU.out
          rw [u18, u23, u28] at this
          exact this
        · rintro L A W K hL hC hW ⟨V, rfl, HV, hB⟩ hK
          have e18 : V 18 = .bool false := HV 18 _ rfl (hW 18 rfl)
          have e29 : V 29 = .bool false := HV 29 _ rfl (hW 29 rfl)
          have H := Lib.hid (show ∀ W', Ext W W' → K (fr (upd V 30 (.bool false))) W' from fun W' he => hK _ W' ⟨upd V 30 (.bool false), rfl, HV.up 30 _ (fun x hx => Option.some.inj hx), TxB.ext hB he⟩)
          clear hK hC hW hL HV
          have u18 : (upd V 30 (.bool false)) 18 = .bool false := e18
          have u29 : (upd V 30 (.bool false)) 29 = .bool false := e29
          have HU := Lib.hid (show (upd V 30 (.bool false)) 18 = .bool false ∧ (upd V 30 (.bool false)) 29 = .bool false from ⟨u18, u29⟩)
          clear u18 u29
          rw [HFR.out]
          rw [e18, e29]
          clear e18 e29
          clear hB
          go_wp2_with fail
          show K _ _
          have := H.out _ (Ext.refl _)
          rw [HFR.out] at this
          obtain ⟨u18, u29⟩ := HU.out
          rw [u18, u29] at this
          exact this
        · rintro L A W hL ⟨V, rfl, HV, hB⟩
          have e0 : V 0 = idv f := HV 0 _ rfl (hL 0 (by simp))
          have e1 : V 1 = .string tx := HV 1 _ rfl (hL 1 (by simp))
          have e2 : V 2 = idv f := HV 2 _ rfl (hL 2 (by simp))
          have e3 : V 3 = .string tx := HV 3 _ rfl (hL 3 (by simp))
          have e4 : V 4 = .bool false := HV 4 _ rfl (hL 4 (by simp))
          have e5 : V 5 = .bool false := HV 5 _ rfl (hL 5 (by simp))
          have e6 : V 6 = idv f := HV 6 _ rfl (hL 6 (by simp))
          have e7 : V 7 = .slice (some ⟨b, o, none⟩) l.length c := HV 7 _ rfl (hL 7 (by simp))
          have e8 : V 8 = .pointer (some ⟨b, o, none⟩) := HV 8 _ rfl (hL 8 (by simp))
          have e9 : V 9 = idv f0 := HV 9 _ rfl (hL 9 (by simp))
          have e10 : V 10 = .bool x1 := HV 10 _ rfl (hL 10 (by simp))
          have e11 : V 11 = idv f := HV 11 _ rfl (hL 11 (by simp))
          have e12 : V 12 = .slice (some ⟨b, o, none⟩) l.length c := HV 12 _ rfl (hL 12 (by simp))
          have e13 : V 13 = .pointer (some ⟨b, o, none⟩) := HV 13 _ rfl (hL 13 (by simp))
          have e14 : V 14 = idv f0 := HV 14 _ rfl (hL 14 (by simp))
          have e15 : V 15 = .bool x1 := HV 15 _ rfl (hL 15 (by simp))
          have e16 : V 16 = .bool false := HV 16 _ rfl (hL 16 (by simp))
          have e17 : V 17 = .bool false := HV 17 _ rfl (hL 17 (by simp))
          have e18 : V 18 = .bool false := HV 18 _ rfl (hL 18 (by simp))
          have e19 : V 19 = .slice (some ⟨b, o, none⟩) l.length c := HV 19 _ rfl (hL 19 (by simp))
          have e20 : V 20 = .pointer (some ⟨b, o, none⟩) := HV 20 _ rfl (hL 20 (by simp))
          have e21 : V 21 = idv f0 := HV 21 _ rfl (hL 21 (by simp))
          have e22 : V 22 = idv f := HV 22 _ rfl (hL 22 (by simp))
          have e23 : V 23 = .bool x2 := HV 23 _ rfl (hL 23 (by simp))
          have e24 : V 24 = .slice (some ⟨b, o, none⟩) l.length c := HV 24 _ rfl (hL 24 (by simp))
          have e25 : V 25 = .pointer (some ⟨b, o, none⟩) := HV 25 _ rfl (hL 25 (by simp))
          have e26 : V 26 = idv f0 := HV 26 _ rfl (hL 26 (by simp))
          have e27 : V 27 = idv f := HV 27 _ rfl (hL 27 (by simp))
          have e28 : V 28 = .bool x2 := HV 28 _ rfl (hL 28 (by simp))
          have e29 : V 29 = .bool false := HV 29 _ rfl (hL 29 (by simp))
          have e30 : V 30 = .bool false := HV 30 _ rfl (hL 30 (by simp))
          rw [HFR.out]
          rw [e0, e1, e2, e3, e4, e5, e6, e7, e8, e9, e10, e11, e12, e13, e14, e15, e16, e17, e18, e19, e20, e21, e22, e23, e24, e25, e26, e27, e28, e29, e30]
          clear hL HV HFR e0 e1 e2 e3 e4 e5 e6 e7 e8 e9 e10 e11 e12 e13 e14 e15 e16 e17 e18 e19 e20 e21 e22 e23 e24 e25 e26 e27 e28 e29 e30
          have HB1 := Lib.hid hB.2.2
          clear hB
          go_wp2_with fail
          exact ⟨⟨k + 1, by omega, by omega, by go_num, HB1⟩, by simp [intOf]; omega⟩
    · obtain rfl : k = l.length := by omega
      go_wp2_with fail
      go_loopw [7, 8, 9, 10, 11, 12, 58, 59, 60, 61, 62, 63, 64, 65, 66, 67, 68, 69, 70, 71, 72, 73, 74, 75, 76, 77, 78, 79, 80, 81, 82, 83, 84, 85, 86, 87, 88, 89, 90, 91, 92, 93, 94, 95, 96, 97] (fun _ _ _ _ _ _ u _ _ _ _ _ _ _ _ _ _ _ _ _ _ _ _ _ _ _ _ _ _ _ _ _ _ _ _ _ _ _ _ _ _ _ _ _ _ _ wr => ∃ k : Nat, k ≤ 12 ∧ k ≤ ss.length ∧ u = .int .i64 k ∧ Hid (Ext w wr)) (fun _ _ _ _ _ _ u _ _ _ _ _ _ _ _ _ _ _ _ _ _ _ _ _ _ _ _ _ _ _ _ _ _ _ _ _ _ _ _ _ _ _ _ _ _ _ _ => ss.length - (intOf u).toNat)
      case atStart => exact ⟨0, by omega, by omega, rfl, HE⟩
      case round =>
        clear HE
        obtain ⟨k, hk12, hk, rfl, HE⟩ := hrel
        by_cases hlt : k < ss.length
        · obtain ⟨B', d', e, hd1, hd2, hd3⟩ := HS.out
          obtain ⟨b, o, rfl, hc⟩ := hd3 (by omega)
          injection e with e1 e2 e3
          subst e1
          have hc1 := HE.out.cell (hc k hlt).1
          have hsz0 := (hc k hlt).2
          clear hc hd3 hd1 hd2 e2 e3
          generalize ss.getD k ByteArray.empty = x at *
          by_cases h12 : k = 12
          · have hd : ((k : Int) == 12) = true := by rw [h12]; rfl
            clear h12
            go_wp2_with fail
            go_ret
            exact ⟨rfl, HE.out⟩
          · have hd : ((k : Int) == 12) = false := by simp; omega
            obtain ⟨m, hm⟩ : ∃ m, m = min x.size 100 := ⟨_, rfl⟩
            have hmi : min (x.size : Int) 100 = (m : Int) := by omega
            have hm1 : m ≤ x.size := by omega
            have hk11 : k < 12 := by omega
            clear hm h12
            unfold maxLen at hsz0
            generalize hz : x.extract 0 m = z at *
            cases hok : okS z with
            | true =>
              have hv1 : prsV z = .tuple #[idv (idP (dS z)), .int .i64 0] := by unfold prsV; rw [hok]; rfl
              have hv2 : rprsV z = .tuple #[idv (idP (dS z)), .bool true] := by unfold rprsV; rw [hok]; rfl
              have HP1 := Lib.hid (fun W => parse_any z W)
              have HP2 := Lib.hid (fun W => refParse_any z W)
              rw [hv1] at HP1
              rw [hv2] at HP2
              clear hv1 hv2 hok
              generalize (idP (dS z)) = p at *
              go_wp2_with fail
              refine (HP1.out _).mono ?_
              rintro e w3 ⟨rfl, he3⟩
              have HE3 := Lib.hid (HE.out.trans he3)
              clear he3
              go_wp2_with ((with_reducible refine wpList_store_id ?_ ?_ (.tmp 9) (.tmp 73) ?_ w3.heap.size (ic fun _ => 0) p ?_ ?_ ?_ ?_ ?_); (exact rfl); (exact rfl); (exact rfl); (exact rfl); (exact rfl); (exact Cs.new _ _ _ _ rfl); (exact ic_size _); intro w4 k4 g4; have K4 := Lib.hid k4; have HE4 := Lib.hid ((HE3.out.alloc _).grown g4 HE3.out.size); clear k4 g4)
              refine (HP2.out _).mono ?_
              rintro e w5 ⟨rfl, he5⟩
              have K5 := Lib.hid (K4.out.ext he5)
              have HE5 := Lib.hid (HE4.out.trans he5)
              clear he5 K4 HE4 HE3
              go_wp2_with (first
                | ((with_reducible refine wpList_store_id ?_ ?_ (.tmp 11) (.tmp 78) ?_ w5.heap.size (ic fun _ => 0) p ?_ ?_ ?_ ?_ ?_); (exact rfl); (exact rfl); (exact rfl); (exact rfl); (exact rfl); (exact Cs.new _ _ _ _ rfl); (exact ic_size _); intro w7 k7 g7; have HB0 : Hid (Tx2 w w3.heap.size w5.heap.size p w7) := ⟨Cs.kept (Cs.alloc K5.out _) g7 (some_ne (by have := Cs.lt K5.out; omega)), k7, (HE5.out.alloc _).grown g7 HE5.out.size⟩; clear k7 g7)
                | ((with_reducible refine wpList_load_id ?_ (.tmp 9) ?_ w3.heap.size p ?_ ?_ ?_); (exact rfl); (exact rfl); (exact rfl); (exact HB0.out.1))
                | ((with_reducible refine wpList_load_id ?_ (.tmp 11) ?_ w5.heap.size p ?_ ?_ ?_); (exact rfl); (exact rfl); (exact rfl); (exact HB0.out.2.1))
                | ((with_reducible refine wpList_neq_id ?_ (.tmp 80) (.tmp 81) ?_ p p false ?_ ?_ (same_self p) ?_); (exact rfl); (exact rfl); (exact rfl); (exact rfl)))
              exact ⟨⟨k + 1, by omega, by omega, by go_num, Lib.hid HB0.out.2.2⟩, by simp [intOf]; omega⟩
            | false =>
              have hv1 : prsV z = .tuple #[idv (fun _ => 0), .int .i64 130] := by unfold prsV; rw [hok]; rfl
              have hv2 : rprsV z = .tuple #[idv (fun _ => 0), .bool false] := by unfold rprsV; rw [hok]; rfl
              have HP1 := Lib.hid (fun W => parse_any z W)
              have HP2 := Lib.hid (fun W => refParse_any z W)
              rw [hv1] at HP1
              rw [hv2] at HP2
              clear hv1 hv2 hok
              generalize (fun _ => 0) = p at *
              go_wp2_with fail
              refine (HP1.out _).mono ?_
              rintro e w3 ⟨rfl, he3⟩
              have HE3 := Lib.hid (HE.out.trans he3)
              clear he3
              go_wp2_with ((with_reducible refine wpList_store_id ?_ ?_ (.tmp 9) (.tmp 73) ?_ w3.heap.size (ic fun _ => 0) p ?_ ?_ ?_ ?_ ?_); (exact rfl); (exact rfl); (exact rfl); (exact rfl); (exact rfl); (exact Cs.new _ _ _ _ rfl); (exact ic_size _); intro w4 k4 g4; have K4 := Lib.hid k4; have HE4 := Lib.hid ((HE3.out.alloc _).grown g4 HE3.out.size); clear k4 g4)
              refine (HP2.out _).mono ?_
              rintro e w5 ⟨rfl, he5⟩
              have K5 := Lib.hid (K4.out.ext he5)
              have HE5 := Lib.hid (HE4.out.trans he5)
              clear he5 K4 HE4 HE3
              go_wp2_with (first
                | ((with_reducible refine wpList_store_id ?_ ?_ (.tmp 11) (.tmp 78) ?_ w5.heap.size (ic fun _ => 0) p ?_ ?_ ?_ ?_ ?_); (exact rfl); (exact rfl); (exact rfl); (exact rfl); (exact rfl); (exact Cs.new _ _ _ _ rfl); (exact ic_size _); intro w7 k7 g7; have HB0 : Hid (Tx2 w w3.heap.size w5.heap.size p w7) := ⟨Cs.kept (Cs.alloc K5.out _) g7 (some_ne (by have := Cs.lt K5.out; omega)), k7, (HE5.out.alloc _).grown g7 HE5.out.size⟩; clear k7 g7)
                | ((with_reducible refine wpList_load_id ?_ (.tmp 9) ?_ w3.heap.size p ?_ ?_ ?_); (exact rfl); (exact rfl); (exact rfl); (exact HB0.out.1))
                | ((with_reducible refine wpList_load_id ?_ (.tmp 11) ?_ w5.heap.size p ?_ ?_ ?_); (exact rfl); (exact rfl); (exact rfl); (exact HB0.out.2.1))
                | ((with_reducible refine wpList_neq_id ?_ (.tmp 80) (.tmp 81) ?_ p p false ?_ ?_ (same_self p) ?_); (exact rfl); (exact rfl); (exact rfl); (exact rfl)))
              exact ⟨⟨k + 1, by omega, by omega, by go_num, Lib.hid HB0.out.2.2⟩, by simp [intOf]; omega⟩
        · obtain rfl : k = ss.length := by omega
          go_wp2_with fail
          go_ret
          exact ⟨rfl, HE.out⟩
end Go.Proofs.YthjmjccggkejhaaDoor
