/- PackParts: parts of words and bytes. No condition: every slice of words, every row of slices of bytes. -/
import Derived.Test.YtdlllihfibjabaaPky
import Derived.Test.YtdlllihfibjabaaPla
namespace Go.Proofs.Ytdlllihfibjabaa
open Go.ChangeShapes Go.WideShapes Go.ChangeAt Go.RowKit Go.Shelf

/-- A slice of words. -/
def Wl (W : World) (v : Value) (l : List Nat) : Prop := Sl W 4 (fun cs z => z < M256 ∧ cs = (wc z).toList) v l
set_option maxRecDepth 100000 in
theorem Wl.ext {W W' : World} {v : Value} {l : List Nat} (h : Wl W v l) (he : Ext W W') : Wl W' v l := Sl.mono h (fun _ _ hc => he.cell hc) fun _ _ h => h
set_option maxRecDepth 100000 in
theorem Wl.len {W : World} {v : Value} {l : List Nat} (h : Wl W v l) : ∃ A c, v = .slice A l.length c ∧ l.length ≤ c ∧ c ≤ maxLen := by
  obtain ⟨A, c, e, h1, h2, _⟩ := h
  exact ⟨A, c, e, h1, h2⟩
set_option maxRecDepth 100000 in
theorem Wl.at {W : World} {A : Option Addr} {n c : Nat} {l : List Nat} (h : Wl W (.slice A n c) l) (i : Nat) (hi : i < l.length) : ∃ b o, A = some ⟨b, o, none⟩ ∧ W.rangeAt b (o + i * 4) (wc (l.getD i 0)).toList ∧ l.getD i 0 < M256 := by
  obtain ⟨A', c', e, _, _, h3⟩ := h
  injection e with e1 e2 e3
  subst e1
  obtain ⟨b, o, rfl, hc⟩ := h3 (by omega)
  obtain ⟨cs, _, ⟨k0, rfl⟩, k3⟩ := hc i _ (List.getElem?_eq_getElem hi)
  have e : l.getD i 0 = l[i] := by simp [List.getD, List.getElem?_eq_getElem hi]
  rw [e]
  exact ⟨b, o, rfl, k3, k0⟩
set_option maxRecDepth 100000 in
theorem wl_came {H : Type} {enc : TypeId × Value → H} {W : World} {base : Nat} {v : Value} {d : DataW H} {p : List MemPlace}
    (hval : Value.okWide Try.prog W .any base 43 v) (h : DataW.Trod enc Try.prog W 0 (fun _ => true) true 43 v d p) : ∃ l : List Nat, Wl W v l := by
  obtain ⟨a0, len0, cap0, rfl⟩ := okWide_slice Try.underlying43 hval
  obtain ⟨fuel, hf⟩ := h
  obtain ⟨v, l, hv, hl⟩ := slice_came (α := Nat) (s := 4) Try.underlying43 (by kernel_rfl) (by decide) (fun cs z => z < M256 ∧ cs = (wc z).toList) (fun _ _ _ h => by
    obtain ⟨z, hz, h4, hc⟩ := word_trod h
    exact ⟨z, hz, wc_list z _ h4 hc⟩) hf
  simp [Value.cells] at hv
  rw [hv]
  exact ⟨l, hl⟩
set_option maxRecDepth 100000 in
theorem bss_came {H : Type} {enc : TypeId × Value → H} {W : World} {base : Nat} {v : Value} {d : DataW H} {p : List MemPlace}
    (hval : Value.okWide Try.prog W .any base 36 v) (h : DataW.Trod enc Try.prog W 0 (fun _ => true) true 36 v d p) : ∃ l : List (List UInt8), Bss W v l := by
  obtain ⟨a0, len0, cap0, rfl⟩ := okWide_slice Try.underlying36 hval
  obtain ⟨fuel, hf⟩ := h
  obtain ⟨v, l, hv, hl⟩ := slice_came (α := List UInt8) (s := 1) Try.underlying36 (by kernel_rfl) (by decide) (fun cs x => ∃ u, cs = [u] ∧ Bs W u x) (fun _ _ _ h => by
    obtain ⟨u, l, e, hl⟩ := bytes_trod Try.underlying28 Try.underlying5 (by kernel_rfl) h
    exact ⟨l, u, e, hl⟩) hf
  simp [Value.cells] at hv
  rw [hv]
  exact ⟨l, hl⟩
set_option maxRecDepth 100000 in
theorem Bss.ext {W W' : World} {v : Value} {l : List (List UInt8)} (h : Bss W v l) (he : Ext W W') : Bss W' v l :=
  Sl.mono h (fun _ _ hc => he.cell hc) fun _ _ ⟨u, e, h⟩ => ⟨u, e, h.ext he⟩
/-- What lies there while bytes are turned: those bytes, the part, its data, the copy. -/
def PpJ (w : World) (B3 g9 B4 B5 : Nat) (v3 v10 u : Value) (d : List UInt8) (W : World) : Prop :=
  (∃ d', d'.length = d.length ∧ Own W B3 5 v3 d') ∧ Pb W g9 (true, 0, d) u ∧ Own W B4 5 u d ∧ Own W B5 5 v10 d ∧ Ext w W
/-- A word's block, behind a world. -/
def WdX (w : World) (g n : Nat) (W : World) : Prop := Cs W g 46 (wc n) ∧ Ext w W
set_option maxRecDepth 100000 in
theorem WdX.ext {w : World} {g n : Nat} {W W' : World} (h : WdX w g n W) (he : Ext W W') : WdX w g n W' := ⟨h.1.ext he, h.2.trans he⟩
set_option maxRecDepth 100000 in
set_option maxHeartbeats 4000000 in
theorem packParts_any (v1 v2 : Value) (l : List Nat) (raw : List (List UInt8)) (w : World) (h1 : Wl w v1 l) (h2 : Bss w v2 raw) : Calls Try.prog 5 #[v1, v2] w (RetT w) := by
  have H1 := Lib.hid h1
  have H2 := Lib.hid h2
  obtain ⟨A0, c0, rfl, k1, k2⟩ := h1.len
  obtain ⟨A1, c1, rfl, k3, k4⟩ := h2.len
  unfold maxLen at k2 k4
  clear h1 h2
  go_enter Try.func5, Try.ntmps5
  go_wp2_with fail
  refine (packWakes_any _).mono ?_
  rintro e w1 ⟨rfl, he1⟩
  have HE1 := Lib.hid he1
  clear he1
  go_wp2_with fail
  go_loopw [16] (fun u wr => ∃ k : Nat, k ≤ l.length ∧ u = .int .i64 k ∧ Hid (Ext w wr)) (fun u _ => l.length - (intOf u).toNat)
  case atStart => exact ⟨0, by omega, rfl, HE1⟩
  case round =>
    clear HE1
    obtain ⟨k, hk, rfl, HE⟩ := hrel
    by_cases hlt : k < l.length
    · have hd : decide (k < l.length) = true := decide_eq_true hlt
      obtain ⟨bb, oo, rfl, hrg, hn⟩ := (H1.out.ext HE.out).at k hlt
      generalize l.getD k 0 = n at *
      have HR := Lib.hid hrg
      have HN := Lib.hid hn
      clear hrg hn
      have HPO := Lib.hid (fun W => packOf_any n W)
      have HSM := Lib.hid (fun W v1 v2 (h1 : Pts W v1 [(false, n, [])]) (h2 : Pts W v2 [(false, n, [])]) => show Calls Try.prog 21 #[v1, v2] W (fun e w' => e = .returned (.bool true) ∧ Ext W w') from
        (refSameL_any v1 v2 _ _ W h1 h2).mono fun e w' ⟨q1, q2⟩ => ⟨by rw [q1, show ([(false, n, [])] == [(false, n, [])] : Bool) = true by simp], q2⟩)
      by_cases h8 : k = 8
      · have h81 : ((k : Int) == 8) = true := by simp; omega
        have h82 : (k == 8) = true := by simp; omega
        clear h8
        go_wp2_with (first
          | ((with_reducible refine wpList_load_wordIn ?_ (.tmp 19) ?_ bb (oo + k * 4) n ?_ ?_ ?_); (exact rfl); (exact rfl); (exact rfl); (exact HR.out))
          | ((with_reducible refine wpList_store_word ?_ ?_ 46 (.tmp 6) (.tmp 20) ?_ winfo wr.heap.size (wc 0) n ?_ ?_ ?_ ?_ ?_); (exact rfl); (exact rfl); (exact rfl); (exact rfl); (exact rfl); (exact Cs.new _ _ _ _ rfl); (exact rfl); intro w2 kk gg; have HE2 := Lib.hid (HE.out.trans (((Ext.refl wr).alloc _).grown gg (Nat.le_refl _))); clear kk gg))
        go_loopw [34] (fun u wr => ∃ k : Nat, k ≤ raw.length ∧ u = .int .i64 k ∧ Hid (Ext w wr)) (fun u _ => raw.length - (intOf u).toNat)
        case atStart => exact ⟨0, by omega, rfl, HE2⟩
        case round =>
          clear HE2
          obtain ⟨q, hq, rfl, HF⟩ := hrel
          by_cases hlt2 : q < raw.length
          · have hd2 : decide (q < raw.length) = true := decide_eq_true hlt2
            obtain ⟨b2, o2, ub, rfl, hcb, hpb⟩ := (H2.out.ext HF.out).at q hlt2
            generalize raw.getD q [] = x at *
            have HX := Lib.hid hpb
            obtain ⟨A3, c3, rfl, y1, y2, y3⟩ := hpb
            unfold maxLen at y2
            clear y3
            by_cases h9 : q = 8
            · have h91 : ((q : Int) == 8) = true := by simp; omega
              have h92 : (q == 8) = true := by simp; omega
              clear h9
              go_wp2_with fail
              go_ret
              exact ⟨rfl, HF.out⟩
            · have h91 : ((q : Int) == 8) = false := by simp; omega
              have h92 : (q == 8) = false := by simpa using h9
              clear h9
              obtain ⟨d, hdd⟩ : ∃ d, x.take 300 = d := ⟨_, rfl⟩
              have HD := Lib.hid hdd
              have HDL := Lib.hid (show d.length ≤ 300 by rw [← hdd]; simp; omega)
              have HB3 := Lib.hid (show Bs wr (.slice A3 (min (x.length : Int) 300).toNat c3) d from by rw [← hdd]; exact HX.out.takeMin 300 _ (by omega))
              clear hdd
              go_wp2_with (at_builtin; go_loud ((refine wpList_append_bytes rfl (.tmp 41) (.tmp 46) _ rfl wr.heap.size 5 Try.underlying28 u8info _ [] rfl (own_made wr _ 5 (Nat.le_refl _)) _ d rfl (HB3.out.ext ((Ext.refl wr).alloc _)) (by have := HDL.out; simp; omega) ((Ext.refl wr).alloc _).size ?_); intro w3v w3 ho hg _; have HX3 := Lib.hid (((Ext.refl wr).alloc (.cells #[] 5)).append (own_made wr _ 5 (Nat.le_refl _)) hg); rw [List.nil_append] at ho; have HO3 := Lib.hid ho; clear ho hg))
              refine (packBytes_any _ d _ HO3.out.bs (by have := HDL.out; omega)).mono ?_
              rintro e w4 ⟨ud, rfl, ho4, he4⟩
              have HO4 := Lib.hid ho4
              have HB3L := Lib.hid (show w.heap.size ≤ wr.heap.size from HF.out.size)
              have HV3 := Lib.hid (show ∀ g, w3v.ownBlock = some g → g < w3.heap.size from fun g hg => (HO3.out.lt g hg).2)
              have HV4 := Lib.hid (show w3.heap.size ≤ w4.heap.size from he4.size)
              have HO3b := Lib.hid (HO3.out.ext he4)
              have HX4 := Lib.hid (HX3.out.trans he4)
              have HU1 := Lib.hid (bs_one ho4.bs)
              have HP1 := Lib.hid (ptc_one (true, 0, d) ud HU1.out)
              obtain ⟨pc, hpc⟩ : ∃ pc, ptc (true, 0, d) ud = pc := ⟨_, rfl⟩
              rw [hpc]
              have HP := Lib.hid hpc
              clear ho4 he4 hpc HX3 HO3
              obtain ⟨A5, c5, rfl, y5, y6, y7⟩ := HO3b.out.bs
              unfold maxLen at y6
              clear y7
              go_wp2_with (first
                | ((with_reducible refine wpList_store_part ?_ ?_ (.tmp 9) (.tmp 49) ?_ w4.heap.size pz (true, 0, d) ud ?_ ?_ ?_ ?_ ?_ ?_); (exact rfl); (exact rfl); (exact rfl); (exact HU1.out); (exact rfl); (rw [HP.out]; exact rfl); (exact Cs.new _ _ _ _ rfl); (exact rfl); intro w5 k5 g5; have K5 := Lib.hid k5; have HX5 := Lib.hid (((Ext.refl w4).alloc (.cells pz 48)).grown g5 (Nat.le_refl _)); clear k5 g5)
                | (at_builtin; go_loud ((refine wpList_append_bytes rfl (.tmp 50) (.tmp 51) _ rfl w5.heap.size 5 Try.underlying28 u8info _ [] rfl (own_made w5 _ 5 (Nat.le_refl _)) _ d rfl ((HO3b.out.ext HX5.out).bs.ext ((Ext.refl w5).alloc _)) (by have := HDL.out; simp; omega) ((Ext.refl w5).alloc _).size ?_); intro v10 w6 ho hg _; have HXK := Lib.hid (((Ext.refl w5).alloc (.cells #[] 5)).append (own_made w5 _ 5 (Nat.le_refl _)) hg); have HX6 := Lib.hid (HX5.out.trans HXK.out); rw [List.nil_append] at ho; have HO6 := Lib.hid ho; clear ho hg)))
              have HJ0 : Hid (PpJ w wr.heap.size w4.heap.size w3.heap.size w5.heap.size (.slice A5 d.length c5) v10 ud d w6) := Lib.hid ⟨⟨d, rfl, HO3b.out.ext HX6.out⟩, Cs.ext K5.out HXK.out, HO4.out.ext HX6.out, HO6.out, (HF.out.trans HX4.out).trans HX6.out⟩
              have HG4 := Lib.hid (show w3.heap.size ≤ w5.heap.size from Nat.le_trans HV4.out HX5.out.size)
              clear HXK HX6 HX5 HX4 K5 HO6 HO4 HO3b HB3 HX
              generalize w3.heap.size = B4 at *
              generalize w4.heap.size = g9 at *
              generalize w5.heap.size = B5 at *
              generalize wr.heap.size = B3 at *
              have HN8 := Lib.hid (show (d.length : Int) ≤ 300 by have := HDL.out; omega)
              have hdl8 := HN8.out
              go_loopw [55] (fun u wr => ∃ i : Nat, i ≤ d.length ∧ u = .int .i64 i ∧ Hid (PpJ w B3 g9 B4 B5 (.slice A5 d.length c5) v10 ud d wr)) (fun u _ => d.length - (intOf u).toNat)
              case atStart => exact ⟨0, by omega, rfl, HJ0⟩
              case round =>
                clear HJ0
                obtain ⟨i, hi, rfl, HJ⟩ := hrel
                by_cases hlt3 : i < d.length
                · have hd3 : decide (i < d.length) = true := decide_eq_true hlt3
                  obtain ⟨⟨d', hl', ho'⟩, hpb, hou, ho10, hex⟩ := HJ.out
                  obtain ⟨g8, cap8, e8, hb8, hcl8, hfr8, hst8⟩ := Own.form ho' (by omega)
                  rw [hl'] at hcl8 e8
                  injection e8 with e8 _ e9
                  subst e8
                  subst e9
                  have hci := hcl8 i hlt3
                  have hfi := hfr8 i
                  have hv8 : g8 < B4 := HV3.out g8 rfl
                  generalize d'.getD i 0 = c at hci
                  have HNX : Hid (PpJ w B3 g9 B4 B5 (.slice (some ⟨g8, 0, none⟩) d.length c5) v10 ud d (wr.setCell ⟨g8, i, none⟩ (bv (c ^^^ 85)))) := Lib.hid ⟨⟨_, by rw [List.length_set]; exact hl', (hst8 i (c ^^^ 85)).1⟩, Cs.kept hpb (grown_set _ _ _ _) (by intro e; injection e with e; have := HV4.out; omega), hou.setOld hv8, ho10.setOld (by have := HG4.out; omega), hex.grown (grown_set _ _ _ _) (by have := HB3L.out; omega)⟩
                  unfold bv at hci
                  clear hcl8 hfr8 hst8 ho' hpb hou ho10 hex HJ
                  go_wp2_with fail
                  rw [show Value.int .u8 (bits .xor .u8 (c.toNat : Int) 85) = bv (c ^^^ 85) from bv_xor c 85]
                  exact ⟨⟨i + 1, by omega, by go_num, HNX⟩, by simp [intOf]; omega⟩
                · obtain rfl : i = d.length := by omega
                  have hc0 := HJ.out.2.1.long
                  have hc5 := HJ.out.2.1.data
                  have HR9 := Lib.hid HJ.out.2.1.word
                  go_wp2_with (first
                    | ((with_reducible refine wpList_load_wordIn ?_ (.tmp 69) ?_ g9 1 0 ?_ ?_ ?_); (exact rfl); (exact rfl); (exact rfl); (exact HR9.out))
                    | ((with_reducible refine wpList_neq_word ?_ (.tmp 70) (.tmp 71) ?_ 0 0 (by decide) (by decide) ?_ ?_ ?_); (exact rfl); (exact rfl); (exact rfl); (exact rfl); (rw [show ((0 : Nat) != 0) = false from rfl])))
                  refine (bytesEqual_any _ _ d d _ HJ.out.2.2.1.bs HJ.out.2.2.2.1.bs).mono ?_
                  rintro e w7 ⟨rfl, rfl⟩
                  rw [show (d == d) = true by simp]
                  have HFX := Lib.hid HJ.out.2.2.2.2
                  go_wp2_with fail
                  exact ⟨⟨q + 1, by omega, by go_num, HFX⟩, by simp [intOf]; omega⟩
          · obtain rfl : q = raw.length := by omega
            go_wp2_with fail
            go_ret
            exact ⟨rfl, HF.out⟩
      · have h81 : ((k : Int) == 8) = false := by simp; omega
        have h82 : (k == 8) = false := by simpa using h8
        clear h8
        go_wp2_with (first
          | ((with_reducible refine wpList_load_wordIn ?_ (.tmp 19) ?_ bb (oo + k * 4) n ?_ ?_ ?_); (exact rfl); (exact rfl); (exact rfl); (exact HR.out))
          | ((with_reducible refine wpList_store_word ?_ ?_ 46 (.tmp 6) (.tmp 20) ?_ winfo wr.heap.size (wc 0) n ?_ ?_ ?_ ?_ ?_); (exact rfl); (exact rfl); (exact rfl); (exact rfl); (exact rfl); (exact Cs.new _ _ _ _ rfl); (exact rfl); intro w2 kk gg; have HWX := Lib.hid (show WdX w wr.heap.size n w2 from ⟨kk, HE.out.trans (((Ext.refl wr).alloc _).grown gg (Nat.le_refl _))⟩); clear kk gg))
        refine wp_named fun a0 ha0 => ?_
        obtain ⟨fr, hfr⟩ : ∃ fr : (Nat → Value) → Act, ∀ V, fr V = ((((((((a0.put (some 23) (V 0)).put (some 24) (V 1)).put (some 25) (V 2)).put (some 26) (V 3)).put (some 27) (V 4)).put (some 28) (V 5)).put (some 29) (V 6)).put (some 30) (V 7)) := ⟨fun V => ((((((((a0.put (some 23) (V 0)).put (some 24) (V 1)).put (some 25) (V 2)).put (some 26) (V 3)).put (some 27) (V 4)).put (some 28) (V 5)).put (some 29) (V 6)).put (some 30) (V 7)), fun _ => rfl⟩
        rw [ha0] at hfr
        simp only [Act.put, List.setIfInBounds_toArray, List.set_cons_zero, List.set_cons_succ] at hfr
        have HFR := Lib.hid hfr
        clear hfr
        refine wp_region_inv (by kernel_rfl) (by kernel_rfl) (fun L A W => ∃ V : Nat → Value, A = fr V ∧ Vals (fun j => ([some (wv n), some (.agg (ptc (false, n, []) (.slice none 0 0))), none, some (wv n), some (.agg (ptc (false, n, []) (.slice none 0 0))), none, some (.bool true), some (.bool false)] : List (Option Value)).getD j none) L V ∧ (WdX w wr.heap.size n W) ∧ (L 2 = true → Pts W (V 2) [(false, n, [])]) ∧ (L 5 = true → Pts W (V 5) [(false, n, [])])) ?_ ⟨?_, ?_, ?_, ?_, ?_, ?_, ?_, ?_, trivial⟩ ?_
        · refine ⟨fun j => a0.tmps.getD (([23, 24, 25, 26, 27, 28, 29, 30] : List Nat).getD j 0) undef, ?_, Vals.no _ _ _ (far_none _ _ rfl), HWX.out.ext (ext_drewN (Ext.refl w2) 1), fun h0 => absurd h0 (by decide), fun h0 => absurd h0 (by decide)⟩
          rw [HFR.out, ha0]
          rfl
        all_goals clear ha0
        · rintro L A W K hL hC hW ⟨V, rfl, HV, s0, f2, f5⟩ hK
          have hB := s0
          have H := Lib.hid (show ∀ W', Ext W W' → K (fr (upd V 0 (wv n))) W' from fun W' he => hK _ _ ⟨upd V 0 (wv n), rfl, HV.up 0 _ (fun x hx => Option.some.inj hx), WdX.ext s0 he, fun h0 => Pts.ext (f2 (more_ne h0 rfl)) he, fun h0 => Pts.ext (f5 (more_ne h0 rfl)) he⟩)
          clear hK hC hW hL HV s0 f2 f5
          rw [HFR.out]
          have HW := Lib.hid hB.1
          clear hB
          refine wpList_load_wordG rfl 46 44 (.tmp 6) rfl Try.underlying46 winfo wr.heap.size n rfl HW.out ?_
          show K _ _
          have := H.out _ (Ext.refl _)
          rw [HFR.out] at this
          exact this
        · rintro L A W K hL hC hW ⟨V, rfl, HV, s0, f2, f5⟩ hK
          have e0 : V 0 = wv n := HV 0 _ rfl (hW 0 rfl)
          have hB := s0
          have H := Lib.hid (show ∀ W', Ext W W' → K (fr (upd V 1 (.agg (ptc (false, n, []) (.slice none 0 0))))) W' from fun W' he => hK _ _ ⟨upd V 1 (.agg (ptc (false, n, []) (.slice none 0 0))), rfl, HV.up 1 _ (fun x hx => Option.some.inj hx), WdX.ext s0 he, fun h0 => Pts.ext (f2 (more_ne h0 rfl)) he, fun h0 => Pts.ext (f5 (more_ne h0 rfl)) he⟩)
          have HU := Lib.hid (show (upd V 1 (.agg (ptc (false, n, []) (.slice none 0 0)))) 0 = wv n from e0)
          clear hK hC hW hL HV s0 f2 f5
          rw [HFR.out]
          rw [e0]
          clear e0
          go_wp2_with fail
          refine (HPO.out _).mono ?_
          rintro e wx ⟨rfl, he⟩
          have := H.out _ he
          clear H
          go_wp2_with fail
          show K _ _
          rw [HFR.out] at this
          obtain u0 := HU.out
          rw [u0] at this
          exact this
        · rintro L A W K hL hC hW ⟨V, rfl, HV, s0, f2, f5⟩ hK
          have e1 : V 1 = .agg (ptc (false, n, []) (.slice none 0 0)) := HV 1 _ rfl (hW 1 rfl)
          have H := Lib.hid (show ∀ v W', Ext W W' → (Pts W' v [(false, n, [])]) → K (fr (upd V 2 v)) W' from fun v W' he hp => hK _ _ ⟨upd V 2 v, rfl, HV.up 2 _ (fun x hx => absurd hx (by intro h; cases h)), WdX.ext s0 he, fun h0 => hp, fun h0 => Pts.ext (f5 (more_ne h0 rfl)) he⟩)
          have HU := Lib.hid (show ∀ v, (upd V 2 v) 1 = .agg (ptc (false, n, []) (.slice none 0 0)) from fun v => e1)
          clear hK hC hW hL HV s0 f2 f5
          rw [HFR.out]
          rw [e1]
          clear e1
          refine wpList_build_one rfl (.tmp 24) 24 48 rfl Try.underlying24 (.agg pz) 6 64 pinfo3 (by decide) (by decide) (ptc (false, n, []) (.slice none 0 0)) rfl rfl ?_
          show K _ _
          have := H.out (.slice (some ⟨W.heap.size, 0, none⟩) 1 1) _ ((Ext.refl W).alloc (.cells (ptc (false, n, []) (.slice none 0 0)) 48)) (pts_lit _ _ 48 (false, n, []) (.slice none 0 0) (heap_alloc_new _ _) HN.out (Bs.nil _))
          rw [HFR.out] at this
          obtain u1 := HU.out _
          rw [u1] at this
          exact this
        · rintro L A W K hL hC hW ⟨V, rfl, HV, s0, f2, f5⟩ hK
          have hB := s0
          have H := Lib.hid (show ∀ W', Ext W W' → K (fr (upd V 3 (wv n))) W' from fun W' he => hK _ _ ⟨upd V 3 (wv n), rfl, HV.up 3 _ (fun x hx => Option.some.inj hx), WdX.ext s0 he, fun h0 => Pts.ext (f2 (more_ne h0 rfl)) he, fun h0 => Pts.ext (f5 (more_ne h0 rfl)) he⟩)
          clear hK hC hW hL HV s0 f2 f5
          rw [HFR.out]
          have HW := Lib.hid hB.1
          clear hB
          refine wpList_load_wordG rfl 46 44 (.tmp 6) rfl Try.underlying46 winfo wr.heap.size n rfl HW.out ?_
          show K _ _
          have := H.out _ (Ext.refl _)
          rw [HFR.out] at this
          exact this
        · rintro L A W K hL hC hW ⟨V, rfl, HV, s0, f2, f5⟩ hK
          have e3 : V 3 = wv n := HV 3 _ rfl (hW 3 rfl)
          have hB := s0
          have H := Lib.hid (show ∀ W', Ext W W' → K (fr (upd V 4 (.agg (ptc (false, n, []) (.slice none 0 0))))) W' from fun W' he => hK _ _ ⟨upd V 4 (.agg (ptc (false, n, []) (.slice none 0 0))), rfl, HV.up 4 _ (fun x hx => Option.some.inj hx), WdX.ext s0 he, fun h0 => Pts.ext (f2 (more_ne h0 rfl)) he, fun h0 => Pts.ext (f5 (more_ne h0 rfl)) he⟩)
          have HU := Lib.hid (show (upd V 4 (.agg (ptc (false, n, []) (.slice none 0 0)))) 3 = wv n from e3)
          clear hK hC hW hL HV s0 f2 f5
          rw [HFR.out]
          rw [e3]
          clear e3
          unfold wv wc
          go_wp2_with fail
          show K _ _
          have := H.out _ (Ext.refl _)
          rw [HFR.out] at this
          obtain u3 := HU.out
          rw [u3] at this
          exact this
        · rintro L A W K hL hC hW ⟨V, rfl, HV, s0, f2, f5⟩ hK
          have e4 : V 4 = .agg (ptc (false, n, []) (.slice none 0 0)) := HV 4 _ rfl (hW 4 rfl)
          have H := Lib.hid (show ∀ v W', Ext W W' → (Pts W' v [(false, n, [])]) → K (fr (upd V 5 v)) W' from fun v W' he hp => hK _ _ ⟨upd V 5 v, rfl, HV.up 5 _ (fun x hx => absurd hx (by intro h; cases h)), WdX.ext s0 he, fun h0 => Pts.ext (f2 (more_ne h0 rfl)) he, fun h0 => hp⟩)
          have HU := Lib.hid (show ∀ v, (upd V 5 v) 4 = .agg (ptc (false, n, []) (.slice none 0 0)) from fun v => e4)
          clear hK hC hW hL HV s0 f2 f5
          rw [HFR.out]
          rw [e4]
          clear e4
          refine wpList_build_one rfl (.tmp 27) 24 48 rfl Try.underlying24 (.agg pz) 6 64 pinfo3 (by decide) (by decide) (ptc (false, n, []) (.slice none 0 0)) rfl rfl ?_
          show K _ _
          have := H.out (.slice (some ⟨W.heap.size, 0, none⟩) 1 1) _ ((Ext.refl W).alloc (.cells (ptc (false, n, []) (.slice none 0 0)) 48)) (pts_lit _ _ 48 (false, n, []) (.slice none 0 0) (heap_alloc_new _ _) HN.out (Bs.nil _))
          rw [HFR.out] at this
          obtain u4 := HU.out _
          rw [u4] at this
          exact this
        · rintro L A W K hL hC hW ⟨V, rfl, HV, s0, f2, f5⟩ hK
          have hB := s0
          have q2 := f2 (hW 2 rfl)
          have q5 := f5 (hW 5 rfl)
          have H := Lib.hid (show ∀ W', Ext W W' → K (fr (upd V 6 (.bool true))) W' from fun W' he => hK _ _ ⟨upd V 6 (.bool true), rfl, HV.up 6 _ (fun x hx => Option.some.inj hx), WdX.ext s0 he, fun h0 => Pts.ext (f2 (more_ne h0 rfl)) he, fun h0 => Pts.ext (f5 (more_ne h0 rfl)) he⟩)
          clear hK hC hW hL HV s0 f2 f5
          rw [HFR.out]
          go_wp2_with fail
          refine (HSM.out _ _ _ q2 q5).mono ?_
          rintro e wx ⟨rfl, he⟩
          have := H.out _ he
          clear H
          go_wp2_with fail
          show K _ _
          rw [HFR.out] at this
          exact this
        · rintro L A W K hL hC hW ⟨V, rfl, HV, s0, f2, f5⟩ hK
          have e6 : V 6 = .bool true := HV 6 _ rfl (hW 6 rfl)
          have H := Lib.hid (show ∀ W', Ext W W' → K (fr (upd V 7 (.bool false))) W' from fun W' he => hK _ _ ⟨upd V 7 (.bool false), rfl, HV.up 7 _ (fun x hx => Option.some.inj hx), WdX.ext s0 he, fun h0 => Pts.ext (f2 (more_ne h0 rfl)) he, fun h0 => Pts.ext (f5 (more_ne h0 rfl)) he⟩)
          have HU := Lib.hid (show (upd V 7 (.bool false)) 6 = .bool true from e6)
          clear hK hC hW hL HV s0 f2 f5
          rw [HFR.out]
          rw [e6]
          clear e6
          go_wp2_with fail
          show K _ _
          have := H.out _ (Ext.refl _)
          rw [HFR.out] at this
          obtain u6 := HU.out
          rw [u6] at this
          exact this
        · rintro L A W hL ⟨V, rfl, HV, s0, f2, f5⟩
          have e0 : V 0 = wv n := HV 0 _ rfl (hL 0 (by simp))
          have e1 : V 1 = .agg (ptc (false, n, []) (.slice none 0 0)) := HV 1 _ rfl (hL 1 (by simp))
          have e3 : V 3 = wv n := HV 3 _ rfl (hL 3 (by simp))
          have e4 : V 4 = .agg (ptc (false, n, []) (.slice none 0 0)) := HV 4 _ rfl (hL 4 (by simp))
          have e6 : V 6 = .bool true := HV 6 _ rfl (hL 6 (by simp))
          have e7 : V 7 = .bool false := HV 7 _ rfl (hL 7 (by simp))
          have hA := s0
          have p25 := f2 (hL 2 (by simp))
          have p28 := f5 (hL 5 (by simp))
          rw [HFR.out]
          rw [e0, e1, e3, e4, e6, e7]
          clear hL HV HFR e0 e1 e3 e4 e6 e7 s0 f2 f5
          have HEX := Lib.hid hA.2
          clear hA p25 p28
          go_wp2_with fail
          exact ⟨⟨k + 1, by omega, by go_num, HEX⟩, by simp [intOf]; omega⟩
    · obtain rfl : k = l.length := by omega
      go_wp2_with fail
      go_loopw [34] (fun u wr => ∃ k : Nat, k ≤ raw.length ∧ u = .int .i64 k ∧ Hid (Ext w wr)) (fun u _ => raw.length - (intOf u).toNat)
      case atStart => exact ⟨0, by omega, rfl, HE⟩
      case round =>
        clear HE
        obtain ⟨q, hq, rfl, HF⟩ := hrel
        by_cases hlt2 : q < raw.length
        · have hd2 : decide (q < raw.length) = true := decide_eq_true hlt2
          obtain ⟨b2, o2, ub, rfl, hcb, hpb⟩ := (H2.out.ext HF.out).at q hlt2
          generalize raw.getD q [] = x at *
          have HX := Lib.hid hpb
          obtain ⟨A3, c3, rfl, y1, y2, y3⟩ := hpb
          unfold maxLen at y2
          clear y3
          by_cases h9 : q = 8
          · have h91 : ((q : Int) == 8) = true := by simp; omega
            have h92 : (q == 8) = true := by simp; omega
            clear h9
            go_wp2_with fail
            go_ret
            exact ⟨rfl, HF.out⟩
          · have h91 : ((q : Int) == 8) = false := by simp; omega
            have h92 : (q == 8) = false := by simpa using h9
            clear h9
            obtain ⟨d, hdd⟩ : ∃ d, x.take 300 = d := ⟨_, rfl⟩
            have HD := Lib.hid hdd
            have HDL := Lib.hid (show d.length ≤ 300 by rw [← hdd]; simp; omega)
            have HB3 := Lib.hid (show Bs wr (.slice A3 (min (x.length : Int) 300).toNat c3) d from by rw [← hdd]; exact HX.out.takeMin 300 _ (by omega))
            clear hdd
            go_wp2_with (at_builtin; go_loud ((refine wpList_append_bytes rfl (.tmp 41) (.tmp 46) _ rfl wr.heap.size 5 Try.underlying28 u8info _ [] rfl (own_made wr _ 5 (Nat.le_refl _)) _ d rfl (HB3.out.ext ((Ext.refl wr).alloc _)) (by have := HDL.out; simp; omega) ((Ext.refl wr).alloc _).size ?_); intro w3v w3 ho hg _; have HX3 := Lib.hid (((Ext.refl wr).alloc (.cells #[] 5)).append (own_made wr _ 5 (Nat.le_refl _)) hg); rw [List.nil_append] at ho; have HO3 := Lib.hid ho; clear ho hg))
            refine (packBytes_any _ d _ HO3.out.bs (by have := HDL.out; omega)).mono ?_
            rintro e w4 ⟨ud, rfl, ho4, he4⟩
            have HO4 := Lib.hid ho4
            have HB3L := Lib.hid (show w.heap.size ≤ wr.heap.size from HF.out.size)
            have HV3 := Lib.hid (show ∀ g, w3v.ownBlock = some g → g < w3.heap.size from fun g hg => (HO3.out.lt g hg).2)
            have HV4 := Lib.hid (show w3.heap.size ≤ w4.heap.size from he4.size)
            have HO3b := Lib.hid (HO3.out.ext he4)
            have HX4 := Lib.hid (HX3.out.trans he4)
            have HU1 := Lib.hid (bs_one ho4.bs)
            have HP1 := Lib.hid (ptc_one (true, 0, d) ud HU1.out)
            obtain ⟨pc, hpc⟩ : ∃ pc, ptc (true, 0, d) ud = pc := ⟨_, rfl⟩
            rw [hpc]
            have HP := Lib.hid hpc
            clear ho4 he4 hpc HX3 HO3
            obtain ⟨A5, c5, rfl, y5, y6, y7⟩ := HO3b.out.bs
            unfold maxLen at y6
            clear y7
            go_wp2_with (first
              | ((with_reducible refine wpList_store_part ?_ ?_ (.tmp 9) (.tmp 49) ?_ w4.heap.size pz (true, 0, d) ud ?_ ?_ ?_ ?_ ?_ ?_); (exact rfl); (exact rfl); (exact rfl); (exact HU1.out); (exact rfl); (rw [HP.out]; exact rfl); (exact Cs.new _ _ _ _ rfl); (exact rfl); intro w5 k5 g5; have K5 := Lib.hid k5; have HX5 := Lib.hid (((Ext.refl w4).alloc (.cells pz 48)).grown g5 (Nat.le_refl _)); clear k5 g5)
              | (at_builtin; go_loud ((refine wpList_append_bytes rfl (.tmp 50) (.tmp 51) _ rfl w5.heap.size 5 Try.underlying28 u8info _ [] rfl (own_made w5 _ 5 (Nat.le_refl _)) _ d rfl ((HO3b.out.ext HX5.out).bs.ext ((Ext.refl w5).alloc _)) (by have := HDL.out; simp; omega) ((Ext.refl w5).alloc _).size ?_); intro v10 w6 ho hg _; have HXK := Lib.hid (((Ext.refl w5).alloc (.cells #[] 5)).append (own_made w5 _ 5 (Nat.le_refl _)) hg); have HX6 := Lib.hid (HX5.out.trans HXK.out); rw [List.nil_append] at ho; have HO6 := Lib.hid ho; clear ho hg)))
            have HJ0 : Hid (PpJ w wr.heap.size w4.heap.size w3.heap.size w5.heap.size (.slice A5 d.length c5) v10 ud d w6) := Lib.hid ⟨⟨d, rfl, HO3b.out.ext HX6.out⟩, Cs.ext K5.out HXK.out, HO4.out.ext HX6.out, HO6.out, (HF.out.trans HX4.out).trans HX6.out⟩
            have HG4 := Lib.hid (show w3.heap.size ≤ w5.heap.size from Nat.le_trans HV4.out HX5.out.size)
            clear HXK HX6 HX5 HX4 K5 HO6 HO4 HO3b HB3 HX
            generalize w3.heap.size = B4 at *
            generalize w4.heap.size = g9 at *
            generalize w5.heap.size = B5 at *
            generalize wr.heap.size = B3 at *
            have HN8 := Lib.hid (show (d.length : Int) ≤ 300 by have := HDL.out; omega)
            have hdl8 := HN8.out
            go_loopw [55] (fun u wr => ∃ i : Nat, i ≤ d.length ∧ u = .int .i64 i ∧ Hid (PpJ w B3 g9 B4 B5 (.slice A5 d.length c5) v10 ud d wr)) (fun u _ => d.length - (intOf u).toNat)
            case atStart => exact ⟨0, by omega, rfl, HJ0⟩
            case round =>
              clear HJ0
              obtain ⟨i, hi, rfl, HJ⟩ := hrel
              by_cases hlt3 : i < d.length
              · have hd3 : decide (i < d.length) = true := decide_eq_true hlt3
                obtain ⟨⟨d', hl', ho'⟩, hpb, hou, ho10, hex⟩ := HJ.out
                obtain ⟨g8, cap8, e8, hb8, hcl8, hfr8, hst8⟩ := Own.form ho' (by omega)
                rw [hl'] at hcl8 e8
                injection e8 with e8 _ e9
                subst e8
                subst e9
                have hci := hcl8 i hlt3
                have hfi := hfr8 i
                have hv8 : g8 < B4 := HV3.out g8 rfl
                generalize d'.getD i 0 = c at hci
                have HNX : Hid (PpJ w B3 g9 B4 B5 (.slice (some ⟨g8, 0, none⟩) d.length c5) v10 ud d (wr.setCell ⟨g8, i, none⟩ (bv (c ^^^ 85)))) := Lib.hid ⟨⟨_, by rw [List.length_set]; exact hl', (hst8 i (c ^^^ 85)).1⟩, Cs.kept hpb (grown_set _ _ _ _) (by intro e; injection e with e; have := HV4.out; omega), hou.setOld hv8, ho10.setOld (by have := HG4.out; omega), hex.grown (grown_set _ _ _ _) (by have := HB3L.out; omega)⟩
                unfold bv at hci
                clear hcl8 hfr8 hst8 ho' hpb hou ho10 hex HJ
                go_wp2_with fail
                rw [show Value.int .u8 (bits .xor .u8 (c.toNat : Int) 85) = bv (c ^^^ 85) from bv_xor c 85]
                exact ⟨⟨i + 1, by omega, by go_num, HNX⟩, by simp [intOf]; omega⟩
              · obtain rfl : i = d.length := by omega
                have hc0 := HJ.out.2.1.long
                have hc5 := HJ.out.2.1.data
                have HR9 := Lib.hid HJ.out.2.1.word
                go_wp2_with (first
                  | ((with_reducible refine wpList_load_wordIn ?_ (.tmp 69) ?_ g9 1 0 ?_ ?_ ?_); (exact rfl); (exact rfl); (exact rfl); (exact HR9.out))
                  | ((with_reducible refine wpList_neq_word ?_ (.tmp 70) (.tmp 71) ?_ 0 0 (by decide) (by decide) ?_ ?_ ?_); (exact rfl); (exact rfl); (exact rfl); (exact rfl); (rw [show ((0 : Nat) != 0) = false from rfl])))
                refine (bytesEqual_any _ _ d d _ HJ.out.2.2.1.bs HJ.out.2.2.2.1.bs).mono ?_
                rintro e w7 ⟨rfl, rfl⟩
                rw [show (d == d) = true by simp]
                have HFX := Lib.hid HJ.out.2.2.2.2
                go_wp2_with fail
                exact ⟨⟨q + 1, by omega, by go_num, HFX⟩, by simp [intOf]; omega⟩
        · obtain rfl : q = raw.length := by omega
          go_wp2_with fail
          go_ret
          exact ⟨rfl, HF.out⟩

set_option maxRecDepth 100000 in
theorem packParts_told (W : World) (args : Array Value) (h : Told Try.f5 W args) : Calls Try.prog 5 args W (RetT W) := by
  obtain ⟨H, enc, base, ds, p, hval, hA⟩ := h
  rw [Try.params5] at hA hval
  obtain ⟨v0, v1, d0, d1, p0, p1, ha, rfl, rfl, h0, h1⟩ := trodAll_two hA
  obtain rfl : args = #[v0, v1] := by apply Array.toList_inj.1; rw [ha]
  obtain ⟨x0, hx0⟩ := wl_came (hval 0 _ v0 rfl rfl) h0
  obtain ⟨x1, hx1⟩ := bss_came (hval 1 _ v1 rfl rfl) h1
  exact packParts_any v0 v1 x0 x1 W hx0 hx1

set_option maxRecDepth 100000 in
theorem packParts_spec (H : Type) : ∀ ds : List (DataW H), ds.length = Try.f5.params.toList.length → Rows.packPartsSpec.fn H ds = { results := [.lit (.bool true)], args := ds }
  | [_, _], _ => rfl
  | [], h | [_], h | _ :: _ :: _ :: _, h => by rw [Try.params5] at h; simp at h

set_option maxRecDepth 100000 in
theorem packParts_holds : Rows.PackPartsSaid :=
  OpenClaim.holds_of_wide 5 Try.f5 rfl rfl rfl rfl rfl rfl rfl ⟨rfl, rfl, rfl, rfl, rfl⟩ rfl rfl rfl rfl rfl (by kernel_rfl) Try.func5 (by kernel_rfl)
    (of_decide_eq_true (by kernel_rfl)) (by unfold Func.isWrapper; first | (rw [if_pos (by decide +kernel)]; kernel_rfl) | (rw [if_neg (by decide +kernel)]; exact ⟨rfl, rfl⟩))
    (fun os started H enc _ => law_lifted started (by kernel_rfl) Try.func5 rfl rfl (packParts_spec H) (of_decide_eq_true (by kernel_rfl))
      (ChangeSpec.witness6 (enc := enc) (C := Try.checked) false ⟨#[], #[.slice none 0 0, .slice none 0 0], []⟩ 8 (by kernel_rfl) (by kernel_rfl) (by kernel_rfl) (by kernel_rfl)) packParts_told)
end Go.Proofs.Ytdlllihfibjabaa
