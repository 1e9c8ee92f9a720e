/- StateTells: which states may be, are one, and what they tell. -/
import Derived.Test.YtmojbekihbmdfaaQSue
namespace Go.Proofs.Ytmojbekihbmdfaa
open Go.ChangeShapes Go.WideShapes Go.ChangeAt Go.RowKit Go.Shelf

set_option maxRecDepth 100000 in
theorem wpList_neq_same' {ops : Array Oper} {rest : List Oper} {o : Oper} {a : Act} {w : World} {Q : Exit → Act → World → Prop} (hgd : Region.wanted o (yielded ops a.tmps) = true) (x y : Operand) (ho : o.op = .binOp .neq 31 x y 31)
    (n : Nat) (hn : n < M256) (hx : a.eval x = wv n) (hy : a.eval y = wv n) (h : wpList Try.prog ops Q rest (a.put o.dst (.bool false)) w) : wpList Try.prog ops Q (o :: rest) a w :=
  wpList_neq_word hgd x y ho n n hn hn hx hy (by simpa using h)
def StA (l : List Ac) (W : World) (v : Value) : Prop := ∃ x, v = .agg #[x] ∧ Acs W x l
set_option maxRecDepth 100000 in
theorem StA.ext {l : List Ac} {W W' : World} {v : Value} (h : StA l W v) (he : Ext W W') : StA l W' v := by
  obtain ⟨x, h1, h2⟩ := h
  exact ⟨x, h1, h2.ext he⟩
def OfQ (q : Ac) (W : World) (val : Value) : Prop := ∃ u v, val = .agg (acc q u v) ∧ Bs W u q.code ∧ Pks W v q.store
set_option maxRecDepth 100000 in
theorem OfQ.ext {q : Ac} {W W' : World} {val : Value} (h : OfQ q W val) (he : Ext W W') : OfQ q W' val := by
  obtain ⟨u, v, h1, h2, h3⟩ := h
  exact ⟨u, v, h1, h2.ext he, h3.ext he⟩
set_option maxRecDepth 100000 in
theorem ldF_lt (st : List (Nat × Nat)) (n : Nat) (h : ∀ p ∈ st, p.1 < M256 ∧ p.2 < M256) : ldF st n < M256 := by
  unfold ldF
  cases hf : st.find? (fun p => p.1 == n) with
  | some p => exact (h p (List.mem_of_find?_eq_some hf)).2
  | none => show 0 < M256; decide
set_option maxRecDepth 100000 in
set_option maxHeartbeats 16000000 in
theorem stateTells_any (v0 v1 v2 : Value) (ls : List (List Ac)) (ads ns : List Nat) (w : World) (h0 : Sts w v0 ls) (h1 : Ads w v1 ads) (h2 : Ws w v2 ns) : Calls Try.prog 4 #[v0, v1, v2] w (RetT w) := by
  have HLS := Lib.hid h0
  have HD := Lib.hid h1
  have HN := Lib.hid h2
  obtain ⟨A0, c0, rfl, p1, p2⟩ := h0.len
  obtain ⟨A1, c1, rfl, q1, q2⟩ := h1.len
  obtain ⟨A2, c2, rfl, r1, r2, _, _⟩ := h2
  unfold maxLen at p2 q2 r2
  clear h0 h1
  go_enter Try.func4, Try.ntmps4
  go_wp2_with fail
  refine (stateWakes_any _).mono ?_
  rintro e wk ⟨rfl, he⟩
  have HEK := Lib.hid he
  clear he
  go_wp2_with fail
  go_loopw [23] (fun iv wr => ∃ k : Nat, k ≤ ls.length ∧ iv = .int .i64 k ∧ Hid (Ext w wr)) (fun iv _ => ls.length - (intOf iv).toNat)
  case atStart => exact ⟨0, by omega, rfl, HEK⟩
  case round =>
    clear HEK
    obtain ⟨k, hk, rfl, HE⟩ := hrel
    by_cases hlt : k < ls.length
    · have hd : decide (k < ls.length) = true := decide_eq_true hlt
      have hpos : 0 < ls.length := by omega
      obtain ⟨b, o, s8, rfl, xs, hs8⟩ := (HLS.out.ext HE.out).at k hlt
      obtain ⟨b', o', sz, e', xz, hsz⟩ := (HLS.out.ext HE.out).at 0 hpos
      injection e' with e'
      injection e' with e1' e2' _
      subst e1' e2'
      rw [Nat.add_zero] at xz
      generalize ls.getD k [] = l8 at *
      generalize ls.getD 0 [] = lz at *
      obtain ⟨A8, c8, rfl, _, _⟩ := hs8.len
      obtain ⟨Az, cz, rfl, _, _⟩ := hsz.len
      have HA8 := Lib.hid hs8
      have HAZ := Lib.hid hsz
      have QZ := Lib.hid xz
      clear hs8 hsz xz
      by_cases h5 : k = 5
      · have hd5 : ((k : Int) == 5) = true := by rw [beq_iff_eq]; omega
        clear h5
        go_wp2_with fail
        go_ret
        exact ⟨rfl, HE.out.alloc _⟩
      · have hd5 : ((k : Int) == 5) = false := by rw [beq_eq_false_iff_ne]; omega
        clear h5
        go_upto_region 7 with fail
        obtain ⟨w7, hw7⟩ : ∃ x, wr.alloc (.cells #[.slice A8 l8.length c8] 24) = x := ⟨_, rfl⟩
        have HG8 : Hid (Cs w7 wr.heap.size 24 #[.slice A8 l8.length c8]) := Lib.hid (by rw [← hw7]; exact Cs.new _ _ _ _ rfl)
        have HX7 : Hid (Ext wr w7) := Lib.hid (by rw [← hw7]; exact (Ext.refl _).alloc _)
        rw [hw7]
        have HE7 := Lib.hid (HE.out.trans HX7.out)
        replace HA8 := Lib.hid (HA8.out.ext HX7.out)
        replace HAZ := Lib.hid (HAZ.out.ext HX7.out)
        replace QZ := Lib.hid (HX7.out.cell QZ.out)
        obtain ⟨g8, hg8⟩ : ∃ g, wr.heap.size = g := ⟨_, rfl⟩
        rw [hg8] at HG8 ⊢
        clear hw7 hg8 HX7 xs
        refine wp_named fun a0 ha0 => ?_
        obtain ⟨fr, hfr⟩ : ∃ fr : (Nat → Value) → Act, ∀ V, fr V = ((((((((a0.put (some 30) (V 0)).put (some 31) (V 1)).put (some 32) (V 2)).put (some 33) (V 3)).put (some 34) (V 4)).put (some 35) (V 5)).put (some 9) (V 6)).put (some 10) (V 7)) := ⟨fun V => ((((((((a0.put (some 30) (V 0)).put (some 31) (V 1)).put (some 32) (V 2)).put (some 33) (V 3)).put (some 34) (V 4)).put (some 35) (V 5)).put (some 9) (V 6)).put (some 10) (V 7)), fun _ => rfl⟩
        rw [ha0] at hfr
        simp only [Act.put, List.setIfInBounds_toArray, List.set_cons_zero, List.set_cons_succ] at hfr
        have HFR := Lib.hid hfr
        clear hfr
        refine wp_region_inv (by kernel_rfl) (by kernel_rfl) (fun L A W => ∃ V : Nat → Value, A = fr V ∧ Vals (fun j => ([some (.agg #[.slice A8 l8.length c8]), none, some (.slice (some ⟨b, o, none⟩) ls.length c0), some (.pointer (some ⟨b, o, none⟩)), some (.agg #[.slice Az lz.length cz]), none, none, none, none, none] : List (Option Value)).getD j none) L V ∧ (L 8 = true → L 6 = true) ∧ (L 9 = true → L 7 = true) ∧ PrI 24 (#[.slice none 0 0]) w7.heap.size (StP w7.heap.size (fewL l8)) (StP w7.heap.size (fewL lz)) w7 (L 1) (L 5) (L 6) (L 7) (L 8) (L 9) (V 1) (V 5) (V 6) (V 7) W) ?_ ⟨?_, ?_, ?_, ?_, ?_, ?_, ?_, ?_, ?_, ?_, trivial⟩ ?_
        · refine ⟨fun j => a0.tmps.getD (([30, 31, 32, 33, 34, 35, 9, 10, 0, 0] : List Nat).getD j 0) undef, ?_, Vals.no _ _ _ (far_none _ _ rfl), (by decide), (by decide), (Ext.refl _).drew, (fun h => absurd h (by decide)), (fun h => absurd h (by decide)), (fun h => absurd h (by decide)), (fun h => absurd h (by decide)), (fun h => absurd h (by decide)), (fun h => absurd h (by decide)), (fun h => absurd h (by decide))⟩
          rw [HFR.out, ha0]
          rfl
        all_goals clear ha0
        · rintro L A W K hL hC hW ⟨V, rfl, HV, l1, l2, s0⟩ hK
          have H := Lib.hid (show K (fr (upd V 0 (.agg #[.slice A8 l8.length c8]))) W from hK _ _ ⟨upd V 0 (.agg #[.slice A8 l8.length c8]), rfl, HV.up 0 _ (fun x hx => Option.some.inj hx), (by unfold More; rw [if_neg (by decide), if_neg (by decide)]; exact l1), (by unfold More; rw [if_neg (by decide), if_neg (by decide)]; exact l2), by simpa [More, upd] using s0⟩)
          have hE := s0.1
          have hcl := (Cs.ext HG8.out hE).cell 0 _ rfl
          clear hK hC hW hL HV l1 l2 s0 hE
          rw [HFR.out]
          go_wp2_with fail
          show K _ _
          have := H.out
          rw [HFR.out] at this
          exact this
        · rintro L A W K hL hC hW ⟨V, rfl, HV, l1, l2, s0⟩ hK
          have e0 : V 0 = .agg #[.slice A8 l8.length c8] := HV 0 _ rfl (hW 0 rfl)
          have s0' : PrI 24 (#[.slice none 0 0]) w7.heap.size (StP w7.heap.size (fewL l8)) (StP w7.heap.size (fewL lz)) w7 (L 1) (L 5) (L 6) (L 7) (L 8) (L 9) (V 1) (V 5) (V 6) (V 7) W := s0
          rw [(hC.no hL 8 _ rfl rfl)] at s0'
          have H := Lib.hid (show ∀ v W', Ext W W' → (StP w7.heap.size (fewL l8)) W' v → K (fr (upd V 1 v)) W' from fun v W' he hv => hK _ _ ⟨upd V 1 v, rfl, HV.up 1 _ (fun x hx => absurd hx (by intro h; cases h)), (by unfold More; rw [if_neg (by decide), if_neg (by decide)]; exact l1), (by unfold More; rw [if_neg (by decide), if_neg (by decide)]; exact l2), by simpa [More, upd, (hC.no hL 8 _ rfl rfl)] using (PrI.call (StP.pk _ _) (StP.pk _ _) s0' he hv)⟩)
          have HU := Lib.hid (show ∀ v, (upd V 1 v) 0 = .agg #[.slice A8 l8.length c8] from fun v => e0)
          have hE := s0.1
          have HS0 := Lib.hid hE
          clear hK hC hW hL HV l1 l2 s0 s0' hE
          rw [HFR.out]
          rw [e0]
          clear e0
          go_wp2_with fail
          have hE := HS0.out
          refine (stateFew_any _ _ _ (HA8.out.ext hE)).mono ?_
          rintro e wx ⟨v', rfl, hr, he⟩
          have := H.out _ _ he (⟨v', rfl, hr.low HS0.out.size⟩)
          clear H
          go_wp2_with fail
          show K _ _
          rw [HFR.out] at this
          obtain u0 := HU.out _
          rw [u0] at this
          exact this
        · rintro L A W K hL hC hW ⟨V, rfl, HV, l1, l2, s0⟩ hK
          have H := Lib.hid (show K (fr (upd V 2 (.slice (some ⟨b, o, none⟩) ls.length c0))) W from hK _ _ ⟨upd V 2 (.slice (some ⟨b, o, none⟩) ls.length c0), rfl, HV.up 2 _ (fun x hx => Option.some.inj hx), (by unfold More; rw [if_neg (by decide), if_neg (by decide)]; exact l1), (by unfold More; rw [if_neg (by decide), if_neg (by decide)]; exact l2), by simpa [More, upd] using s0⟩)
          clear hK hC hW hL HV l1 l2 s0
          rw [HFR.out]
          go_wp2_with fail
          show K _ _
          have := H.out
          rw [HFR.out] at this
          exact this
        · rintro L A W K hL hC hW ⟨V, rfl, HV, l1, l2, s0⟩ hK
          have e2 : V 2 = .slice (some ⟨b, o, none⟩) ls.length c0 := HV 2 _ rfl (hW 2 rfl)
          have H := Lib.hid (show K (fr (upd V 3 (.pointer (some ⟨b, o, none⟩)))) W from hK _ _ ⟨upd V 3 (.pointer (some ⟨b, o, none⟩)), rfl, HV.up 3 _ (fun x hx => Option.some.inj hx), (by unfold More; rw [if_neg (by decide), if_neg (by decide)]; exact l1), (by unfold More; rw [if_neg (by decide), if_neg (by decide)]; exact l2), by simpa [More, upd] using s0⟩)
          have HU := Lib.hid (show (upd V 3 (.pointer (some ⟨b, o, none⟩))) 2 = .slice (some ⟨b, o, none⟩) ls.length c0 from e2)
          clear hK hC hW hL HV l1 l2 s0
          rw [HFR.out]
          rw [e2]
          clear e2
          go_wp2_with fail
          show K _ _
          have := H.out
          rw [HFR.out] at this
          obtain u2 := HU.out
          rw [u2] at this
          exact this
        · rintro L A W K hL hC hW ⟨V, rfl, HV, l1, l2, s0⟩ hK
          have e3 : V 3 = .pointer (some ⟨b, o, none⟩) := HV 3 _ rfl (hW 3 rfl)
          have H := Lib.hid (show K (fr (upd V 4 (.agg #[.slice Az lz.length cz]))) W from hK _ _ ⟨upd V 4 (.agg #[.slice Az lz.length cz]), rfl, HV.up 4 _ (fun x hx => Option.some.inj hx), (by unfold More; rw [if_neg (by decide), if_neg (by decide)]; exact l1), (by unfold More; rw [if_neg (by decide), if_neg (by decide)]; exact l2), by simpa [More, upd] using s0⟩)
          have HU := Lib.hid (show (upd V 4 (.agg #[.slice Az lz.length cz])) 3 = .pointer (some ⟨b, o, none⟩) from e3)
          have hE := s0.1
          have hcl := hE.cell QZ.out
          clear hK hC hW hL HV l1 l2 s0 hE
          rw [HFR.out]
          rw [e3]
          clear e3
          go_wp2_with fail
          show K _ _
          have := H.out
          rw [HFR.out] at this
          obtain u3 := HU.out
          rw [u3] at this
          exact this
        · rintro L A W K hL hC hW ⟨V, rfl, HV, l1, l2, s0⟩ hK
          have e4 : V 4 = .agg #[.slice Az lz.length cz] := HV 4 _ rfl (hW 4 rfl)
          have s0' : PrI 24 (#[.slice none 0 0]) w7.heap.size (StP w7.heap.size (fewL l8)) (StP w7.heap.size (fewL lz)) w7 (L 1) (L 5) (L 6) (L 7) (L 8) (L 9) (V 1) (V 5) (V 6) (V 7) W := s0
          rw [(hC.no hL 9 _ rfl rfl)] at s0'
          have H := Lib.hid (show ∀ v W', Ext W W' → (StP w7.heap.size (fewL lz)) W' v → K (fr (upd V 5 v)) W' from fun v W' he hv => hK _ _ ⟨upd V 5 v, rfl, HV.up 5 _ (fun x hx => absurd hx (by intro h; cases h)), (by unfold More; rw [if_neg (by decide), if_neg (by decide)]; exact l1), (by unfold More; rw [if_neg (by decide), if_neg (by decide)]; exact l2), by simpa [More, upd, (hC.no hL 9 _ rfl rfl)] using (PrI.call (StP.pk _ _) (StP.pk _ _) s0'.swap he hv).swap⟩)
          have HU := Lib.hid (show ∀ v, (upd V 5 v) 4 = .agg #[.slice Az lz.length cz] from fun v => e4)
          have hE := s0.1
          have HS0 := Lib.hid hE
          clear hK hC hW hL HV l1 l2 s0 s0' hE
          rw [HFR.out]
          rw [e4]
          clear e4
          go_wp2_with fail
          have hE := HS0.out
          refine (stateFew_any _ _ _ (HAZ.out.ext hE)).mono ?_
          rintro e wx ⟨v', rfl, hr, he⟩
          have := H.out _ _ he (⟨v', rfl, hr.low HS0.out.size⟩)
          clear H
          go_wp2_with fail
          show K _ _
          rw [HFR.out] at this
          obtain u4 := HU.out _
          rw [u4] at this
          exact this
        · rintro L A W K hL hC hW ⟨V, rfl, HV, l1, l2, s0⟩ hK
          have s0' : PrI 24 (#[.slice none 0 0]) w7.heap.size (StP w7.heap.size (fewL l8)) (StP w7.heap.size (fewL lz)) w7 (L 1) (L 5) (L 6) (L 7) (L 8) (L 9) (V 1) (V 5) (V 6) (V 7) W := s0
          rw [(hC.no hL 8 _ rfl rfl)] at s0'
          have H := Lib.hid (show K (fr (upd V 6 (.pointer (some ⟨W.heap.size, 0, none⟩)))) (W.alloc (.cells (#[.slice none 0 0]) 24)) from hK _ _ ⟨upd V 6 (.pointer (some ⟨W.heap.size, 0, none⟩)), rfl, HV.up 6 _ (fun x hx => absurd hx (by intro h; cases h)), (fun _ => by unfold More; exact if_pos rfl), (by unfold More; rw [if_neg (by decide), if_neg (by decide)]; exact l2), by simpa [More, upd, (hC.no hL 8 _ rfl rfl)] using (PrI.alloc (StP.pk _ _) (StP.pk _ _) (Nat.le_refl _) s0')⟩)
          clear hK hC hW hL HV l1 l2 s0 s0'
          rw [HFR.out]
          go_wp2_with fail
          show K _ _
          have := H.out
          rw [HFR.out] at this
          exact this
        · rintro L A W K hL hC hW ⟨V, rfl, HV, l1, l2, s0⟩ hK
          have s0' : PrI 24 (#[.slice none 0 0]) w7.heap.size (StP w7.heap.size (fewL l8)) (StP w7.heap.size (fewL lz)) w7 (L 1) (L 5) (L 6) (L 7) (L 8) (L 9) (V 1) (V 5) (V 6) (V 7) W := s0
          rw [(hC.no hL 9 _ rfl rfl)] at s0'
          have H := Lib.hid (show K (fr (upd V 7 (.pointer (some ⟨W.heap.size, 0, none⟩)))) (W.alloc (.cells (#[.slice none 0 0]) 24)) from hK _ _ ⟨upd V 7 (.pointer (some ⟨W.heap.size, 0, none⟩)), rfl, HV.up 7 _ (fun x hx => absurd hx (by intro h; cases h)), (by unfold More; rw [if_neg (by decide), if_neg (by decide)]; exact l1), (fun _ => by unfold More; exact if_pos rfl), by simpa [More, upd, (hC.no hL 9 _ rfl rfl)] using (PrI.alloc (StP.pk _ _) (StP.pk _ _) (Nat.le_refl _) s0'.swap).swap⟩)
          clear hK hC hW hL HV l1 l2 s0 s0'
          rw [HFR.out]
          go_wp2_with fail
          show K _ _
          have := H.out
          rw [HFR.out] at this
          exact this
        · rintro L A W K hL hC hW ⟨V, rfl, HV, l1, l2, s0⟩ hK
          have s0' : PrI 24 (#[.slice none 0 0]) w7.heap.size (StP w7.heap.size (fewL l8)) (StP w7.heap.size (fewL lz)) w7 (L 1) (L 5) (L 6) (L 7) (L 8) (L 9) (V 1) (V 5) (V 6) (V 7) W := s0
          rw [hW 1 rfl, hW 6 rfl, hL] at s0'
          obtain ⟨g, eg, hlo, hcg⟩ := s0'.2.2.2.1 rfl rfl
          obtain ⟨cs, ev, hcn, hone⟩ := Pk.agg (StP.pk _ _) (s0'.2.1 rfl)
          rw [eg, ev] at s0'
          have HN := Lib.hid (fun (W' : World) (hc : Cs W' g 24 cs) (hg : W.grownBy W' (some g)) => (PrI.store (StP.pk _ _) (StP.pk _ _) (Nat.le_refl _) s0' l2 hc hg))
          have H := Lib.hid (show ∀ W', Cs W' g 24 cs → W.grownBy W' (some g) → K (fr V) W' from fun W' hc hg => hK _ _ ⟨V, rfl, HV.st 8 rfl, (fun _ => by unfold More; rw [if_neg (by decide)]; exact hW 6 rfl), (by unfold More; rw [if_neg (by decide), if_neg (by decide)]; exact l2), by rw [eg, ev]; simpa [More, hW 1 rfl, hW 6 rfl] using HN.out W' hc hg⟩)
          have HCG := Lib.hid hcg
          have HU := Lib.hid (show V 6 = .pointer (some ⟨g, 0, none⟩) ∧ V 1 = .agg cs from ⟨eg, ev⟩)
          clear hK hC hW hL HV l1 l2 s0 s0' HN hlo hcg
          rw [HFR.out]
          rw [eg, ev]
          clear eg ev
          refine wpList_store_agg rfl rfl 24 (.tmp 9) (.tmp 31) rfl stinfo g (#[.slice none 0 0]) cs hone rfl rfl HCG.out (by first | rfl | simp [wc]) hcn ?_
          intro W' hc hg
          show K _ _
          have := H.out _ hc hg
          rw [HFR.out] at this
          rw [HU.out.1, HU.out.2] at this
          exact this
        · rintro L A W K hL hC hW ⟨V, rfl, HV, l1, l2, s0⟩ hK
          have s0' : PrI 24 (#[.slice none 0 0]) w7.heap.size (StP w7.heap.size (fewL l8)) (StP w7.heap.size (fewL lz)) w7 (L 1) (L 5) (L 6) (L 7) (L 8) (L 9) (V 1) (V 5) (V 6) (V 7) W := s0
          rw [hW 5 rfl, hW 7 rfl, hL] at s0'
          obtain ⟨g, eg, hlo, hcg⟩ := s0'.2.2.2.2.1 rfl rfl
          obtain ⟨cs, ev, hcn, hone⟩ := Pk.agg (StP.pk _ _) (s0'.2.2.1 rfl)
          rw [eg, ev] at s0'
          have HN := Lib.hid (fun (W' : World) (hc : Cs W' g 24 cs) (hg : W.grownBy W' (some g)) => (PrI.store (StP.pk _ _) (StP.pk _ _) (Nat.le_refl _) s0'.swap l1 hc hg).swap)
          have H := Lib.hid (show ∀ W', Cs W' g 24 cs → W.grownBy W' (some g) → K (fr V) W' from fun W' hc hg => hK _ _ ⟨V, rfl, HV.st 9 rfl, (by unfold More; rw [if_neg (by decide), if_neg (by decide)]; exact l1), (fun _ => by unfold More; rw [if_neg (by decide)]; exact hW 7 rfl), by rw [eg, ev]; simpa [More, hW 5 rfl, hW 7 rfl] using HN.out W' hc hg⟩)
          have HCG := Lib.hid hcg
          have HU := Lib.hid (show V 7 = .pointer (some ⟨g, 0, none⟩) ∧ V 5 = .agg cs from ⟨eg, ev⟩)
          clear hK hC hW hL HV l1 l2 s0 s0' HN hlo hcg
          rw [HFR.out]
          rw [eg, ev]
          clear eg ev
          refine wpList_store_agg rfl rfl 24 (.tmp 10) (.tmp 35) rfl stinfo g (#[.slice none 0 0]) cs hone rfl rfl HCG.out (by first | rfl | simp [wc]) hcn ?_
          intro W' hc hg
          show K _ _
          have := H.out _ hc hg
          rw [HFR.out] at this
          rw [HU.out.1, HU.out.2] at this
          exact this
        · rintro L A W hL ⟨V, rfl, HV, l1, l2, s0⟩
          rw [show L 1 = true from hL 1 (by simp), show L 5 = true from hL 5 (by simp), show L 6 = true from hL 6 (by simp), show L 7 = true from hL 7 (by simp), show L 8 = true from hL 8 (by simp), show L 9 = true from hL 9 (by simp)] at s0
          obtain ⟨z0, z1, z2, z3, z4, z5, z6, z7⟩ := s0
          clear l1 l2
          obtain ⟨x9, e9, r9⟩ := z1 rfl
          obtain ⟨cx, ex, g1x, eg1, hb1, hc1⟩ := z5 rfl
          obtain rfl : cx = #[x9] := by have ey := ex.symm.trans e9; injection ey
          clear ex
          obtain ⟨xz, ez, rz⟩ := z2 rfl
          obtain ⟨cx, ex, g2x, eg2, hb2, hc2⟩ := z6 rfl
          obtain rfl : cx = #[xz] := by have ey := ex.symm.trans ez; injection ey
          clear ex
          have hne12 : g1x ≠ g2x := fun e => z7 rfl rfl (by rw [eg1, eg2, e])
          rw [HFR.out]
          rw [eg1, eg2]
          clear hL HV HFR z1 z2 z5 z6 z7 eg1 eg2
          have HG9 := Lib.hid hc1
          have HG10 := Lib.hid hc2
          have HA1 := Lib.hid r9.acs
          have HA0 := Lib.hid rz.acs
          have HL1 := Lib.hid (fewL_len l8)
          obtain ⟨l1, hl1⟩ : ∃ x, fewL l8 = x := ⟨_, rfl⟩
          obtain ⟨l0, hl0⟩ : ∃ x, fewL lz = x := ⟨_, rfl⟩
          have HL8 := Lib.hid hl1
          rw [hl1] at HA1 HL1 r9
          rw [hl0] at HA0 rz
          obtain ⟨A9, c9, rfl⟩ := r9.shape
          obtain ⟨A0', c0', rfl⟩ := rz.shape
          replace HE7 := Lib.hid (HE7.out.trans z0)
          replace HG8 := Lib.hid (Cs.ext HG8.out z0)
          replace HA8 := Lib.hid (HA8.out.ext z0)
          clear z0 z3 z4 r9 rz e9 ez hb1 hb2 hc1 hc2 hl1 hl0 hne12 HAZ QZ
          have q9 := HG9.out.cell 0 _ rfl
          go_wp2_with fail
          refine (refRight_any _ l1 _ HA1.out (by have := HL1.out; omega)).mono ?_
          rintro e w8 ⟨rfl, he⟩
          replace HE7 := Lib.hid (HE7.out.trans he)
          replace HG8 := Lib.hid (Cs.ext HG8.out he)
          replace HG9 := Lib.hid (Cs.ext HG9.out he)
          replace HG10 := Lib.hid (Cs.ext HG10.out he)
          replace HA1 := Lib.hid (HA1.out.ext he)
          replace HA0 := Lib.hid (HA0.out.ext he)
          replace HA8 := Lib.hid (HA8.out.ext he)
          clear he q9
          have q9 := HG9.out.cell 0 _ rfl
          cases hr1 : rightL l1 with
          | true =>
            have HR := Lib.hid hr1
            clear hr1
            go_wp2_with fail
            refine (stateCheck_any _ l1 _ HA1.out (by have := HL1.out; omega)).mono ?_
            rintro e wX ⟨rfl, he⟩
            rw [show chkE l1 = 0 by unfold chkE; rw [HR.out]; rfl]
            replace HE7 := Lib.hid (HE7.out.trans he)
            replace HG8 := Lib.hid (Cs.ext HG8.out he)
            replace HG9 := Lib.hid (Cs.ext HG9.out he)
            replace HG10 := Lib.hid (Cs.ext HG10.out he)
            replace HA1 := Lib.hid (HA1.out.ext he)
            replace HA0 := Lib.hid (HA0.out.ext he)
            replace HA8 := Lib.hid (HA8.out.ext he)
            clear he
            have HSA := Lib.hid (fun W (h : Ext wX W) => stateSame_any _ _ l1 l0 W (HA1.out.ext h) (HA0.out.ext h))
            have HSB := Lib.hid (fun W (h : Ext wX W) => refSame_any _ _ l1 l0 W (HA1.out.ext h) (HA0.out.ext h))
            have HFW := Lib.hid (fun W (h : Ext wX W) => show Calls _ _ _ W (fun e w' => ∃ v', e = .returned (.agg #[v']) ∧ Acs w' v' l1 ∧ Ext W w') from (stateFew_any _ l8 W (HA8.out.ext h)).mono (fun e w' hh => by obtain ⟨v', e1, e2, e3⟩ := hh; exact ⟨v', e1, by rw [← HL8.out]; exact e2.acs, e3⟩))
            have HSC := Lib.hid (fun (x' : Value) W (h : Ext wX W) (hx : Acs W x' l1) => show Calls _ _ _ W (fun e w' => e = .returned (.bool true) ∧ Ext W w') by have := stateSame_any _ x' l1 l1 W (HA1.out.ext h) hx; rw [(eqL_iff l1 l1).2 rfl] at this; exact this)
            generalize eqL l1 l0 = bs at *
            go_upto_region 10 with fail
            refine wp_named fun a0 ha0 => ?_
            obtain ⟨fr, hfr⟩ : ∃ fr : (Nat → Value) → Act, ∀ V, fr V = ((((((((((((((((((((((((((((a0.put (some 40) (V 0)).put (some 41) (V 1)).put (some 42) (V 2)).put (some 43) (V 3)).put (some 44) (V 4)).put (some 45) (V 5)).put (some 46) (V 6)).put (some 47) (V 7)).put (some 48) (V 8)).put (some 49) (V 9)).put (some 50) (V 10)).put (some 51) (V 11)).put (some 52) (V 12)).put (some 53) (V 13)).put (some 54) (V 14)).put (some 55) (V 15)).put (some 56) (V 16)).put (some 57) (V 17)).put (some 58) (V 18)).put (some 59) (V 19)).put (some 60) (V 20)).put (some 61) (V 21)).put (some 62) (V 22)).put (some 63) (V 23)).put (some 64) (V 24)).put (some 65) (V 25)).put (some 66) (V 26)).put (some 67) (V 27)) := ⟨fun V => ((((((((((((((((((((((((((((a0.put (some 40) (V 0)).put (some 41) (V 1)).put (some 42) (V 2)).put (some 43) (V 3)).put (some 44) (V 4)).put (some 45) (V 5)).put (some 46) (V 6)).put (some 47) (V 7)).put (some 48) (V 8)).put (some 49) (V 9)).put (some 50) (V 10)).put (some 51) (V 11)).put (some 52) (V 12)).put (some 53) (V 13)).put (some 54) (V 14)).put (some 55) (V 15)).put (some 56) (V 16)).put (some 57) (V 17)).put (some 58) (V 18)).put (some 59) (V 19)).put (some 60) (V 20)).put (some 61) (V 21)).put (some 62) (V 22)).put (some 63) (V 23)).put (some 64) (V 24)).put (some 65) (V 25)).put (some 66) (V 26)).put (some 67) (V 27)), fun _ => rfl⟩
            rw [ha0] at hfr
            simp only [Act.put, List.setIfInBounds_toArray, List.set_cons_zero, List.set_cons_succ] at hfr
            have HFR := Lib.hid hfr
            clear hfr
            refine wp_region_inv (by kernel_rfl) (by kernel_rfl) (fun L A W => ∃ V : Nat → Value, A = fr V ∧ Vals (fun j => ([some (.int .i64 0), some (.bool true), some (.bool true), some (.bool false), some (.bool false), some (.bool true), some (.bool false), some (.bool false), some (undef), some (undef), some (.bool false), some (.bool false), some (.bool false), some (.agg #[.slice A9 l1.length c9]), some (.agg #[.slice A0' l0.length c0']), some (.bool bs), some (.agg #[.slice A9 l1.length c9]), some (.agg #[.slice A0' l0.length c0']), some (.bool bs), some (.bool false), some (.bool false), some (.bool false), some (.agg #[.slice A9 l1.length c9]), some (.agg #[.slice A8 l8.length c8]), none, some (.bool true), some (.bool false), some (.bool false)] : List (Option Value)).getD j none) L V ∧ (Ext wX W) ∧ (L 24 = true → StA l1 W (V 24))) ?_ ⟨?_, ?_, ?_, ?_, ?_, ?_, ?_, ?_, ?_, ?_, ?_, ?_, ?_, ?_, ?_, ?_, ?_, ?_, ?_, ?_, ?_, ?_, ?_, ?_, ?_, ?_, ?_, ?_, trivial⟩ ?_
            · refine ⟨fun j => a0.tmps.getD (([40, 41, 42, 43, 44, 45, 46, 47, 48, 49, 50, 51, 52, 53, 54, 55, 56, 57, 58, 59, 60, 61, 62, 63, 64, 65, 66, 67] : List Nat).getD j 0) undef, ?_, Vals.no _ _ _ (far_none _ _ rfl), (Ext.refl _).drew, fun h0 => absurd h0 (by decide)⟩
              rw [HFR.out, ha0]
              rfl
            all_goals clear ha0
            · rintro L A W K hL hC hW ⟨V, rfl, HV, s0, f24⟩ hK
              have H := Lib.hid (show ∀ W', Ext W W' → K (fr (upd V 0 (.int .i64 0))) W' from fun W' he => hK _ _ ⟨upd V 0 (.int .i64 0), rfl, HV.up 0 _ (fun x hx => Option.some.inj hx), Ext.trans s0 he, fun h0 => StA.ext (f24 (more_ne h0 rfl)) he⟩)
              clear hK hC hW hL HV s0 f24
              rw [HFR.out]
              go_wp2_with fail
              show K _ _
              have := H.out _ (Ext.refl _)
              rw [HFR.out] at this
              exact this
            · rintro L A W K hL hC hW ⟨V, rfl, HV, s0, f24⟩ hK
              have e0 : V 0 = .int .i64 0 := HV 0 _ rfl (hW 0 rfl)
              have H := Lib.hid (show ∀ W', Ext W W' → K (fr (upd V 1 (.bool true))) W' from fun W' he => hK _ _ ⟨upd V 1 (.bool true), rfl, HV.up 1 _ (fun x hx => Option.some.inj hx), Ext.trans s0 he, fun h0 => StA.ext (f24 (more_ne h0 rfl)) he⟩)
              have HU := Lib.hid (show (upd V 1 (.bool true)) 0 = .int .i64 0 from e0)
              clear hK hC hW hL HV s0 f24
              rw [HFR.out]
              rw [e0]
              clear e0
              go_wp2_with fail
              show K _ _
              have := H.out _ (Ext.refl _)
              rw [HFR.out] at this
              obtain u0 := HU.out
              rw [u0] at this
              exact this
            · rintro L A W K hL hC hW ⟨V, rfl, HV, s0, f24⟩ hK
              have H := Lib.hid (show ∀ W', Ext W W' → K (fr (upd V 2 (.bool true))) W' from fun W' he => hK _ _ ⟨upd V 2 (.bool true), rfl, HV.up 2 _ (fun x hx => Option.some.inj hx), Ext.trans s0 he, fun h0 => absurd (more_ne h0 rfl) (by rw [(hC.no (hC.no (hC.no (hC.no (hC.no (hC.no (hC.no hL 3 _ rfl rfl) 4 _ rfl rfl) 11 _ rfl rfl) 12 _ rfl rfl) 20 _ rfl rfl) 21 _ rfl rfl) 24 _ rfl rfl)]; simp)⟩)
              clear hK hC hW hL HV s0 f24
              rw [HFR.out]
              go_wp2_with fail
              show K _ _
              have := H.out _ (Ext.refl _)
              rw [HFR.out] at this
              exact this
            · rintro L A W K hL hC hW ⟨V, rfl, HV, s0, f24⟩ hK
              have e1 : V 1 = .bool true := HV 1 _ rfl (hW 1 rfl)
              have e2 : V 2 = .bool true := HV 2 _ rfl (hW 2 rfl)
              have H := Lib.hid (show ∀ W', Ext W W' → K (fr (upd V 3 (.bool false))) W' from fun W' he => hK _ _ ⟨upd V 3 (.bool false), rfl, HV.up 3 _ (fun x hx => Option.some.inj hx), Ext.trans s0 he, fun h0 => StA.ext (f24 (more_ne h0 rfl)) he⟩)
              have HU := Lib.hid (show (upd V 3 (.bool false)) 1 = .bool true ∧ (upd V 3 (.bool false)) 2 = .bool true from ⟨e1, e2⟩)
              clear hK hC hW hL HV s0 f24
              rw [HFR.out]
              rw [e1, e2]
              clear e1 e2
              go_wp2_with fail
              show K _ _
              have := H.out _ (Ext.refl _)
              rw [HFR.out] at this
              obtain ⟨u1, u2⟩ := HU.out
              rw [u1, u2] at this
              exact this
            · rintro L A W K hL hC hW ⟨V, rfl, HV, s0, f24⟩ hK
              have e3 : V 3 = .bool false := HV 3 _ rfl (hW 3 rfl)
              have H := Lib.hid (show ∀ W', Ext W W' → K (fr (upd V 4 (.bool false))) W' from fun W' he => hK _ _ ⟨upd V 4 (.bool false), rfl, HV.up 4 _ (fun x hx => Option.some.inj hx), Ext.trans s0 he, fun h0 => StA.ext (f24 (more_ne h0 rfl)) he⟩)
              have HU := Lib.hid (show (upd V 4 (.bool false)) 3 = .bool false from e3)
              clear hK hC hW hL HV s0 f24
              rw [HFR.out]
              rw [e3]
              clear e3
              go_wp2_with fail
              show K _ _
              have := H.out _ (Ext.refl _)
              rw [HFR.out] at this
              obtain u3 := HU.out
              rw [u3] at this
              exact this
            · rintro L A W K hL hC hW ⟨V, rfl, HV, s0, f24⟩ hK
              have e4 : V 4 = .bool false := HV 4 _ rfl (hW 4 rfl)
              have H := Lib.hid (show ∀ W', Ext W W' → K (fr (upd V 5 (.bool true))) W' from fun W' he => hK _ _ ⟨upd V 5 (.bool true), rfl, HV.up 5 _ (fun x hx => Option.some.inj hx), Ext.trans s0 he, fun h0 => StA.ext (f24 (more_ne h0 rfl)) he⟩)
              have HU := Lib.hid (show (upd V 5 (.bool true)) 4 = .bool false from e4)
              clear hK hC hW hL HV s0 f24
              rw [HFR.out]
              rw [e4]
              clear e4
              go_wp2_with fail
              show K _ _
              have := H.out _ (Ext.refl _)
              rw [HFR.out] at this
              obtain u4 := HU.out
              rw [u4] at this
              exact this
            · rintro L A W K hL hC hW ⟨V, rfl, HV, s0, f24⟩ hK
              have e4 : V 4 = .bool false := HV 4 _ rfl (hW 4 rfl)
              have e5 : V 5 = .bool true := HV 5 _ rfl (hW 5 rfl)
              have H := Lib.hid (show ∀ W', Ext W W' → K (fr (upd V 6 (.bool false))) W' from fun W' he => hK _ _ ⟨upd V 6 (.bool false), rfl, HV.up 6 _ (fun x hx => Option.some.inj hx), Ext.trans s0 he, fun h0 => StA.ext (f24 (more_ne h0 rfl)) he⟩)
              have HU := Lib.hid (show (upd V 6 (.bool false)) 4 = .bool false ∧ (upd V 6 (.bool false)) 5 = .bool true from ⟨e4, e5⟩)
              clear hK hC hW hL HV s0 f24
              rw [HFR.out]
              rw [e4, e5]
              clear e4 e5
              go_wp2_with fail
              show K _ _
              have := H.out _ (Ext.refl _)
              rw [HFR.out] at this
              obtain ⟨u4, u5⟩ := HU.out
              rw [u4, u5] at this
              exact this
            · rintro L A W K hL hC hW ⟨V, rfl, HV, s0, f24⟩ hK
              have e4 : V 4 = .bool false := HV 4 _ rfl (hW 4 rfl)
              have e6 : V 6 = .bool false := HV 6 _ rfl (hW 6 rfl)
              have H := Lib.hid (show ∀ W', Ext W W' → K (fr (upd V 7 (.bool false))) W' from fun W' he => hK _ _ ⟨upd V 7 (.bool false), rfl, HV.up 7 _ (fun x hx => Option.some.inj hx), Ext.trans s0 he, fun h0 => StA.ext (f24 (more_ne h0 rfl)) he⟩)
              have HU := Lib.hid (show (upd V 7 (.bool false)) 4 = .bool false ∧ (upd V 7 (.bool false)) 6 = .bool false from ⟨e4, e6⟩)
              clear hK hC hW hL HV s0 f24
              rw [HFR.out]
              rw [e4, e6]
              clear e4 e6
              go_wp2_with fail
              show K _ _
              have := H.out _ (Ext.refl _)
              rw [HFR.out] at this
              obtain ⟨u4, u6⟩ := HU.out
              rw [u4, u6] at this
              exact this
            · rintro L A W K hL hC hW ⟨V, rfl, HV, s0, f24⟩ hK
              have e7 : V 7 = .bool false := HV 7 _ rfl (hW 7 rfl)
              have H := Lib.hid (show ∀ W', Ext W W' → K (fr (upd V 8 (undef))) W' from fun W' he => hK _ _ ⟨upd V 8 (undef), rfl, HV.up 8 _ (fun x hx => Option.some.inj hx), Ext.trans s0 he, fun h0 => StA.ext (f24 (more_ne h0 rfl)) he⟩)
              have HU := Lib.hid (show (upd V 8 (undef)) 7 = .bool false from e7)
              clear hK hC hW hL HV s0 f24
              rw [HFR.out]
              rw [e7]
              clear e7
              go_wp2_with fail
              show K _ _
              have := H.out _ (Ext.refl _)
              rw [HFR.out] at this
              obtain u7 := HU.out
              rw [u7] at this
              exact this
            · rintro L A W K hL hC hW ⟨V, rfl, HV, s0, f24⟩ hK
              have e7 : V 7 = .bool false := HV 7 _ rfl (hW 7 rfl)
              have e8 : V 8 = undef := HV 8 _ rfl (hW 8 rfl)
              have H := Lib.hid (show ∀ W', Ext W W' → K (fr (upd V 9 (undef))) W' from fun W' he => hK _ _ ⟨upd V 9 (undef), rfl, HV.up 9 _ (fun x hx => Option.some.inj hx), Ext.trans s0 he, fun h0 => StA.ext (f24 (more_ne h0 rfl)) he⟩)
              have HU := Lib.hid (show (upd V 9 (undef)) 7 = .bool false ∧ (upd V 9 (undef)) 8 = undef from ⟨e7, e8⟩)
              clear hK hC hW hL HV s0 f24
              rw [HFR.out]
              rw [e7, e8]
              clear e7 e8
              go_wp2_with fail
              show K _ _
              have := H.out _ (Ext.refl _)
              rw [HFR.out] at this
              obtain ⟨u7, u8⟩ := HU.out
              rw [u7, u8] at this
              exact this
            · rintro L A W K hL hC hW ⟨V, rfl, HV, s0, f24⟩ hK
              have e4 : V 4 = .bool false := HV 4 _ rfl (hW 4 rfl)
              have e7 : V 7 = .bool false := HV 7 _ rfl (hW 7 rfl)
              have e9 : V 9 = undef := HV 9 _ rfl (hW 9 rfl)
              have H := Lib.hid (show ∀ W', Ext W W' → K (fr (upd V 10 (.bool false))) W' from fun W' he => hK _ _ ⟨upd V 10 (.bool false), rfl, HV.up 10 _ (fun x hx => Option.some.inj hx), Ext.trans s0 he, fun h0 => StA.ext (f24 (more_ne h0 rfl)) he⟩)
              have HU := Lib.hid (show (upd V 10 (.bool false)) 4 = .bool false ∧ (upd V 10 (.bool false)) 7 = .bool false ∧ (upd V 10 (.bool false)) 9 = undef from ⟨e4, e7, e9⟩)
              clear hK hC hW hL HV s0 f24
              rw [HFR.out]
              rw [e4, e7, e9]
              clear e4 e7 e9
              go_wp2_with fail
              show K _ _
              have := H.out _ (Ext.refl _)
              rw [HFR.out] at this
              obtain ⟨u4, u7, u9⟩ := HU.out
              rw [u4, u7, u9] at this
              exact this
            · rintro L A W K hL hC hW ⟨V, rfl, HV, s0, f24⟩ hK
              have e4 : V 4 = .bool false := HV 4 _ rfl (hW 4 rfl)
              have e10 : V 10 = .bool false := HV 10 _ rfl (hW 10 rfl)
              have H := Lib.hid (show ∀ W', Ext W W' → K (fr (upd V 11 (.bool false))) W' from fun W' he => hK _ _ ⟨upd V 11 (.bool false), rfl, HV.up 11 _ (fun x hx => Option.some.inj hx), Ext.trans s0 he, fun h0 => StA.ext (f24 (more_ne h0 rfl)) he⟩)
              have HU := Lib.hid (show (upd V 11 (.bool false)) 4 = .bool false ∧ (upd V 11 (.bool false)) 10 = .bool false from ⟨e4, e10⟩)
              clear hK hC hW hL HV s0 f24
              rw [HFR.out]
              rw [e4, e10]
              clear e4 e10
              go_wp2_with fail
              show K _ _
              have := H.out _ (Ext.refl _)
              rw [HFR.out] at this
              obtain ⟨u4, u10⟩ := HU.out
              rw [u4, u10] at this
              exact this
            · rintro L A W K hL hC hW ⟨V, rfl, HV, s0, f24⟩ hK
              have e11 : V 11 = .bool false := HV 11 _ rfl (hW 11 rfl)
              have H := Lib.hid (show ∀ W', Ext W W' → K (fr (upd V 12 (.bool false))) W' from fun W' he => hK _ _ ⟨upd V 12 (.bool false), rfl, HV.up 12 _ (fun x hx => Option.some.inj hx), Ext.trans s0 he, fun h0 => StA.ext (f24 (more_ne h0 rfl)) he⟩)
              have HU := Lib.hid (show (upd V 12 (.bool false)) 11 = .bool false from e11)
              clear hK hC hW hL HV s0 f24
              rw [HFR.out]
              rw [e11]
              clear e11
              go_wp2_with fail
              show K _ _
              have := H.out _ (Ext.refl _)
              rw [HFR.out] at this
              obtain u11 := HU.out
              rw [u11] at this
              exact this
            · rintro L A W K hL hC hW ⟨V, rfl, HV, s0, f24⟩ hK
              have e12 : V 12 = .bool false := HV 12 _ rfl (hW 12 rfl)
              have hB := s0
              have H := Lib.hid (show ∀ W', Ext W W' → K (fr (upd V 13 (.agg #[.slice A9 l1.length c9]))) W' from fun W' he => hK _ _ ⟨upd V 13 (.agg #[.slice A9 l1.length c9]), rfl, HV.up 13 _ (fun x hx => Option.some.inj hx), Ext.trans s0 he, fun h0 => StA.ext (f24 (more_ne h0 rfl)) he⟩)
              have HU := Lib.hid (show (upd V 13 (.agg #[.slice A9 l1.length c9])) 12 = .bool false from e12)
              clear hK hC hW hL HV s0 f24
              rw [HFR.out]
              rw [e12]
              clear e12
              have hcl := (Cs.ext HG9.out hB).cell 0 _ rfl
              clear hB
              go_wp2_with fail
              show K _ _
              have := H.out _ (Ext.refl _)
              rw [HFR.out] at this
              obtain u12 := HU.out
              rw [u12] at this
              exact this
            · rintro L A W K hL hC hW ⟨V, rfl, HV, s0, f24⟩ hK
              have e12 : V 12 = .bool false := HV 12 _ rfl (hW 12 rfl)
              have hB := s0
              have H := Lib.hid (show ∀ W', Ext W W' → K (fr (upd V 14 (.agg #[.slice A0' l0.length c0']))) W' from fun W' he => hK _ _ ⟨upd V 14 (.agg #[.slice A0' l0.length c0']), rfl, HV.up 14 _ (fun x hx => Option.some.inj hx), Ext.trans s0 he, fun h0 => StA.ext (f24 (more_ne h0 rfl)) he⟩)
              have HU := Lib.hid (show (upd V 14 (.agg #[.slice A0' l0.length c0'])) 12 = .bool false from e12)
              clear hK hC hW hL HV s0 f24
              rw [HFR.out]
              rw [e12]
              clear e12
              have hcl := (Cs.ext HG10.out hB).cell 0 _ rfl
              clear hB
              go_wp2_with fail
              show K _ _
              have := H.out _ (Ext.refl _)
              rw [HFR.out] at this
              obtain u12 := HU.out
              rw [u12] at this
              exact this
            · rintro L A W K hL hC hW ⟨V, rfl, HV, s0, f24⟩ hK
              have e12 : V 12 = .bool false := HV 12 _ rfl (hW 12 rfl)
              have e13 : V 13 = .agg #[.slice A9 l1.length c9] := HV 13 _ rfl (hW 13 rfl)
              have e14 : V 14 = .agg #[.slice A0' l0.length c0'] := HV 14 _ rfl (hW 14 rfl)
              have hB := s0
              have H := Lib.hid (show ∀ W', Ext W W' → K (fr (upd V 15 (.bool bs))) W' from fun W' he => hK _ _ ⟨upd V 15 (.bool bs), rfl, HV.up 15 _ (fun x hx => Option.some.inj hx), Ext.trans s0 he, fun h0 => StA.ext (f24 (more_ne h0 rfl)) he⟩)
              have HU := Lib.hid (show (upd V 15 (.bool bs)) 12 = .bool false ∧ (upd V 15 (.bool bs)) 13 = .agg #[.slice A9 l1.length c9] ∧ (upd V 15 (.bool bs)) 14 = .agg #[.slice A0' l0.length c0'] from ⟨e12, e13, e14⟩)
              clear hK hC hW hL HV s0 f24
              rw [HFR.out]
              rw [e12, e13, e14]
              clear e12 e13 e14
              have HB' := Lib.hid hB
              clear hB
              go_wp2_with fail
              refine (HSA.out _ HB'.out).mono ?_
              rintro e wx ⟨rfl, he⟩
              have := H.out _ he
              clear H
              go_wp2_with fail
              show K _ _
              rw [HFR.out] at this
              obtain ⟨u12, u13, u14⟩ := HU.out
              rw [u12, u13, u14] at this
              exact this
            · rintro L A W K hL hC hW ⟨V, rfl, HV, s0, f24⟩ hK
              have e12 : V 12 = .bool false := HV 12 _ rfl (hW 12 rfl)
              have hB := s0
              have H := Lib.hid (show ∀ W', Ext W W' → K (fr (upd V 16 (.agg #[.slice A9 l1.length c9]))) W' from fun W' he => hK _ _ ⟨upd V 16 (.agg #[.slice A9 l1.length c9]), rfl, HV.up 16 _ (fun x hx => Option.some.inj hx), Ext.trans s0 he, fun h0 => StA.ext (f24 (more_ne h0 rfl)) he⟩)
              have HU := Lib.hid (show (upd V 16 (.agg #[.slice A9 l1.length c9])) 12 = .bool false from e12)
              clear hK hC hW hL HV s0 f24
              rw [HFR.out]
              rw [e12]
              clear e12
              have hcl := (Cs.ext HG9.out hB).cell 0 _ rfl
              clear hB
              go_wp2_with fail
              show K _ _
              have := H.out _ (Ext.refl _)
              rw [HFR.out] at this
              obtain u12 := HU.out
              rw [u12] at this
              exact this
            · rintro L A W K hL hC hW ⟨V, rfl, HV, s0, f24⟩ hK
              have e12 : V 12 = .bool false := HV 12 _ rfl (hW 12 rfl)
              have hB := s0
              have H := Lib.hid (show ∀ W', Ext W W' → K (fr (upd V 17 (.agg #[.slice A0' l0.length c0']))) W' from fun W' he => hK _ _ ⟨upd V 17 (.agg #[.slice A0' l0.length c0']), rfl, HV.up 17 _ (fun x hx => Option.some.inj hx), Ext.trans s0 he, fun h0 => StA.ext (f24 (more_ne h0 rfl)) he⟩)
              have HU := Lib.hid (show (upd V 17 (.agg #[.slice A0' l0.length c0'])) 12 = .bool false from e12)
              clear hK hC hW hL HV s0 f24
              rw [HFR.out]
              rw [e12]
              clear e12
              have hcl := (Cs.ext HG10.out hB).cell 0 _ rfl
              clear hB
              go_wp2_with fail
              show K _ _
              have := H.out _ (Ext.refl _)
              rw [HFR.out] at this
              obtain u12 := HU.out
              rw [u12] at this
              exact this
            · rintro L A W K hL hC hW ⟨V, rfl, HV, s0, f24⟩ hK
              have e12 : V 12 = .bool false := HV 12 _ rfl (hW 12 rfl)
              have e16 : V 16 = .agg #[.slice A9 l1.length c9] := HV 16 _ rfl (hW 16 rfl)
              have e17 : V 17 = .agg #[.slice A0' l0.length c0'] := HV 17 _ rfl (hW 17 rfl)
              have hB := s0
              have H := Lib.hid (show ∀ W', Ext W W' → K (fr (upd V 18 (.bool bs))) W' from fun W' he => hK _ _ ⟨upd V 18 (.bool bs), rfl, HV.up 18 _ (fun x hx => Option.some.inj hx), Ext.trans s0 he, fun h0 => StA.ext (f24 (more_ne h0 rfl)) he⟩)
              have HU := Lib.hid (show (upd V 18 (.bool bs)) 12 = .bool false ∧ (upd V 18 (.bool bs)) 16 = .agg #[.slice A9 l1.length c9] ∧ (upd V 18 (.bool bs)) 17 = .agg #[.slice A0' l0.length c0'] from ⟨e12, e16, e17⟩)
              clear hK hC hW hL HV s0 f24
              rw [HFR.out]
              rw [e12, e16, e17]
              clear e12 e16 e17
              have HB' := Lib.hid hB
              clear hB
              go_wp2_with fail
              refine (HSB.out _ HB'.out).mono ?_
              rintro e wx ⟨rfl, he⟩
              have := H.out _ he
              clear H
              go_wp2_with fail
              show K _ _
              rw [HFR.out] at this
              obtain ⟨u12, u16, u17⟩ := HU.out
              rw [u12, u16, u17] at this
              exact this
            · rintro L A W K hL hC hW ⟨V, rfl, HV, s0, f24⟩ hK
              have e12 : V 12 = .bool false := HV 12 _ rfl (hW 12 rfl)
              have e15 : V 15 = .bool bs := HV 15 _ rfl (hW 15 rfl)
              have e18 : V 18 = .bool bs := HV 18 _ rfl (hW 18 rfl)
              have H := Lib.hid (show ∀ W', Ext W W' → K (fr (upd V 19 (.bool false))) W' from fun W' he => hK _ _ ⟨upd V 19 (.bool false), rfl, HV.up 19 _ (fun x hx => Option.some.inj hx), Ext.trans s0 he, fun h0 => StA.ext (f24 (more_ne h0 rfl)) he⟩)
              have HU := Lib.hid (show (upd V 19 (.bool false)) 12 = .bool false ∧ (upd V 19 (.bool false)) 15 = .bool bs ∧ (upd V 19 (.bool false)) 18 = .bool bs from ⟨e12, e15, e18⟩)
              clear hK hC hW hL HV s0 f24
              rw [HFR.out]
              rw [e12, e15, e18]
              clear e12 e15 e18
              go_wp2_with fail
              show K _ _
              have := H.out _ (Ext.refl _)
              rw [HFR.out] at this
              obtain ⟨u12, u15, u18⟩ := HU.out
              rw [u12, u15, u18] at this
              exact this
            · rintro L A W K hL hC hW ⟨V, rfl, HV, s0, f24⟩ hK
              have e12 : V 12 = .bool false := HV 12 _ rfl (hW 12 rfl)
              have e19 : V 19 = .bool false := HV 19 _ rfl (hW 19 rfl)
              have H := Lib.hid (show ∀ W', Ext W W' → K (fr (upd V 20 (.bool false))) W' from fun W' he => hK _ _ ⟨upd V 20 (.bool false), rfl, HV.up 20 _ (fun x hx => Option.some.inj hx), Ext.trans s0 he, fun h0 => StA.ext (f24 (more_ne h0 rfl)) he⟩)
              have HU := Lib.hid (show (upd V 20 (.bool false)) 12 = .bool false ∧ (upd V 20 (.bool false)) 19 = .bool false from ⟨e12, e19⟩)
              clear hK hC hW hL HV s0 f24
              rw [HFR.out]
              rw [e12, e19]
              clear e12 e19
              go_wp2_with fail
              show K _ _
              have := H.out _ (Ext.refl _)
              rw [HFR.out] at this
              obtain ⟨u12, u19⟩ := HU.out
              rw [u12, u19] at this
              exact this
            · rintro L A W K hL hC hW ⟨V, rfl, HV, s0, f24⟩ hK
              have e20 : V 20 = .bool false := HV 20 _ rfl (hW 20 rfl)
              have H := Lib.hid (show ∀ W', Ext W W' → K (fr (upd V 21 (.bool false))) W' from fun W' he => hK _ _ ⟨upd V 21 (.bool false), rfl, HV.up 21 _ (fun x hx => Option.some.inj hx), Ext.trans s0 he, fun h0 => StA.ext (f24 (more_ne h0 rfl)) he⟩)
              have HU := Lib.hid (show (upd V 21 (.bool false)) 20 = .bool false from e20)
              clear hK hC hW hL HV s0 f24
              rw [HFR.out]
              rw [e20]
              clear e20
              go_wp2_with fail
              show K _ _
              have := H.out _ (Ext.refl _)
              rw [HFR.out] at this
              obtain u20 := HU.out
              rw [u20] at this
              exact this
            · rintro L A W K hL hC hW ⟨V, rfl, HV, s0, f24⟩ hK
              have e21 : V 21 = .bool false := HV 21 _ rfl (hW 21 rfl)
              have hB := s0
              have H := Lib.hid (show ∀ W', Ext W W' → K (fr (upd V 22 (.agg #[.slice A9 l1.length c9]))) W' from fun W' he => hK _ _ ⟨upd V 22 (.agg #[.slice A9 l1.length c9]), rfl, HV.up 22 _ (fun x hx => Option.some.inj hx), Ext.trans s0 he, fun h0 => StA.ext (f24 (more_ne h0 rfl)) he⟩)
              have HU := Lib.hid (show (upd V 22 (.agg #[.slice A9 l1.length c9])) 21 = .bool false from e21)
              clear hK hC hW hL HV s0 f24
              rw [HFR.out]
              rw [e21]
              clear e21
              have hcl := (Cs.ext HG9.out hB).cell 0 _ rfl
              clear hB
              go_wp2_with fail
              show K _ _
              have := H.out _ (Ext.refl _)
              rw [HFR.out] at this
              obtain u21 := HU.out
              rw [u21] at this
              exact this
            · rintro L A W K hL hC hW ⟨V, rfl, HV, s0, f24⟩ hK
              have e21 : V 21 = .bool false := HV 21 _ rfl (hW 21 rfl)
              have hB := s0
              have H := Lib.hid (show ∀ W', Ext W W' → K (fr (upd V 23 (.agg #[.slice A8 l8.length c8]))) W' from fun W' he => hK _ _ ⟨upd V 23 (.agg #[.slice A8 l8.length c8]), rfl, HV.up 23 _ (fun x hx => Option.some.inj hx), Ext.trans s0 he, fun h0 => StA.ext (f24 (more_ne h0 rfl)) he⟩)
              have HU := Lib.hid (show (upd V 23 (.agg #[.slice A8 l8.length c8])) 21 = .bool false from e21)
              clear hK hC hW hL HV s0 f24
              rw [HFR.out]
              rw [e21]
              clear e21
              have hcl := (Cs.ext HG8.out hB).cell 0 _ rfl
              clear hB
              go_wp2_with fail
              show K _ _
              have := H.out _ (Ext.refl _)
              rw [HFR.out] at this
              obtain u21 := HU.out
              rw [u21] at this
              exact this
            · rintro L A W K hL hC hW ⟨V, rfl, HV, s0, f24⟩ hK
              have e21 : V 21 = .bool false := HV 21 _ rfl (hW 21 rfl)
              have e23 : V 23 = .agg #[.slice A8 l8.length c8] := HV 23 _ rfl (hW 23 rfl)
              have hB := s0
              have H := Lib.hid (show ∀ v W', Ext W W' → (StA l1 W' v) → K (fr (upd V 24 v)) W' from fun v W' he hp => hK _ _ ⟨upd V 24 v, rfl, HV.up 24 _ (fun x hx => absurd hx (by intro h; cases h)), Ext.trans s0 he, fun h0 => hp⟩)
              have HU := Lib.hid (show ∀ v, (upd V 24 v) 21 = .bool false ∧ (upd V 24 v) 23 = .agg #[.slice A8 l8.length c8] from fun v => ⟨e21, e23⟩)
              clear hK hC hW hL HV s0 f24
              rw [HFR.out]
              rw [e21, e23]
              clear e21 e23
              have HB' := Lib.hid hB
              clear hB
              go_wp2_with fail
              refine (HFW.out _ HB'.out).mono ?_
              rintro e wx ⟨v', rfl, hr', he⟩
              have := H.out _ _ he (⟨v', rfl, hr'⟩)
              clear H
              go_wp2_with fail
              show K _ _
              rw [HFR.out] at this
              obtain ⟨u21, u23⟩ := HU.out _
              rw [u21, u23] at this
              exact this
            · rintro L A W K hL hC hW ⟨V, rfl, HV, s0, f24⟩ hK
              have e21 : V 21 = .bool false := HV 21 _ rfl (hW 21 rfl)
              have e22 : V 22 = .agg #[.slice A9 l1.length c9] := HV 22 _ rfl (hW 22 rfl)
              have hB := s0
              have q24 := f24 (hW 24 rfl)
              obtain ⟨x24, e24, z24⟩ := q24
              have H := Lib.hid (show ∀ W', Ext W W' → K (fr (upd V 25 (.bool true))) W' from fun W' he => hK _ _ ⟨upd V 25 (.bool true), rfl, HV.up 25 _ (fun x hx => Option.some.inj hx), Ext.trans s0 he, fun h0 => StA.ext (f24 (more_ne h0 rfl)) he⟩)
              have HU := Lib.hid (show (upd V 25 (.bool true)) 21 = .bool false ∧ (upd V 25 (.bool true)) 22 = .agg #[.slice A9 l1.length c9] ∧ (upd V 25 (.bool true)) 24 = .agg #[x24] from ⟨e21, e22, e24⟩)
              clear hK hC hW hL HV s0 f24
              rw [HFR.out]
              rw [e21, e22, e24]
              clear e21 e22 e24
              have HB' := Lib.hid hB
              have Z24 := Lib.hid z24
              clear hB z24
              go_wp2_with fail
              refine (HSC.out _ _ HB'.out Z24.out).mono ?_
              rintro e wx ⟨rfl, he⟩
              have := H.out _ he
              clear H
              go_wp2_with fail
              show K _ _
              rw [HFR.out] at this
              obtain ⟨u21, u22, u24⟩ := HU.out
              rw [u21, u22, u24] at this
              exact this
            · rintro L A W K hL hC hW ⟨V, rfl, HV, s0, f24⟩ hK
              have e21 : V 21 = .bool false := HV 21 _ rfl (hW 21 rfl)
              have e25 : V 25 = .bool true := HV 25 _ rfl (hW 25 rfl)
              have H := Lib.hid (show ∀ W', Ext W W' → K (fr (upd V 26 (.bool false))) W' from fun W' he => hK _ _ ⟨upd V 26 (.bool false), rfl, HV.up 26 _ (fun x hx => Option.some.inj hx), Ext.trans s0 he, fun h0 => StA.ext (f24 (more_ne h0 rfl)) he⟩)
              have HU := Lib.hid (show (upd V 26 (.bool false)) 21 = .bool false ∧ (upd V 26 (.bool false)) 25 = .bool true from ⟨e21, e25⟩)
              clear hK hC hW hL HV s0 f24
              rw [HFR.out]
              rw [e21, e25]
              clear e21 e25
              go_wp2_with fail
              show K _ _
              have := H.out _ (Ext.refl _)
              rw [HFR.out] at this
              obtain ⟨u21, u25⟩ := HU.out
              rw [u21, u25] at this
              exact this
            · rintro L A W K hL hC hW ⟨V, rfl, HV, s0, f24⟩ hK
              have e21 : V 21 = .bool false := HV 21 _ rfl (hW 21 rfl)
              have e26 : V 26 = .bool false := HV 26 _ rfl (hW 26 rfl)
              have H := Lib.hid (show ∀ W', Ext W W' → K (fr (upd V 27 (.bool false))) W' from fun W' he => hK _ _ ⟨upd V 27 (.bool false), rfl, HV.up 27 _ (fun x hx => Option.some.inj hx), Ext.trans s0 he, fun h0 => StA.ext (f24 (more_ne h0 rfl)) he⟩)
              have HU := Lib.hid (show (upd V 27 (.bool false)) 21 = .bool false ∧ (upd V 27 (.bool false)) 26 = .bool false from ⟨e21, e26⟩)
              clear hK hC hW hL HV s0 f24
              rw [HFR.out]
              rw [e21, e26]
              clear e21 e26
              go_wp2_with fail
              show K _ _
              have := H.out _ (Ext.refl _)
              rw [HFR.out] at this
              obtain ⟨u21, u26⟩ := HU.out
              rw [u21, u26] at this
              exact this
            · rintro L A W10 hL ⟨V, rfl, HV, s0, f24⟩
              have e0 : V 0 = .int .i64 0 := HV 0 _ rfl (hL 0 (by simp))
              have e1 : V 1 = .bool true := HV 1 _ rfl (hL 1 (by simp))
              have e2 : V 2 = .bool true := HV 2 _ rfl (hL 2 (by simp))
              have e3 : V 3 = .bool false := HV 3 _ rfl (hL 3 (by simp))
              have e4 : V 4 = .bool false := HV 4 _ rfl (hL 4 (by simp))
              have e5 : V 5 = .bool true := HV 5 _ rfl (hL 5 (by simp))
              have e6 : V 6 = .bool false := HV 6 _ rfl (hL 6 (by simp))
              have e7 : V 7 = .bool false := HV 7 _ rfl (hL 7 (by simp))
              have e8 : V 8 = undef := HV 8 _ rfl (hL 8 (by simp))
              have e9 : V 9 = undef := HV 9 _ rfl (hL 9 (by simp))
              have e10 : V 10 = .bool false := HV 10 _ rfl (hL 10 (by simp))
              have e11 : V 11 = .bool false := HV 11 _ rfl (hL 11 (by simp))
              have e12 : V 12 = .bool false := HV 12 _ rfl (hL 12 (by simp))
              have e13 : V 13 = .agg #[.slice A9 l1.length c9] := HV 13 _ rfl (hL 13 (by simp))
              have e14 : V 14 = .agg #[.slice A0' l0.length c0'] := HV 14 _ rfl (hL 14 (by simp))
              have e15 : V 15 = .bool bs := HV 15 _ rfl (hL 15 (by simp))
              have e16 : V 16 = .agg #[.slice A9 l1.length c9] := HV 16 _ rfl (hL 16 (by simp))
              have e17 : V 17 = .agg #[.slice A0' l0.length c0'] := HV 17 _ rfl (hL 17 (by simp))
              have e18 : V 18 = .bool bs := HV 18 _ rfl (hL 18 (by simp))
              have e19 : V 19 = .bool false := HV 19 _ rfl (hL 19 (by simp))
              have e20 : V 20 = .bool false := HV 20 _ rfl (hL 20 (by simp))
              have e21 : V 21 = .bool false := HV 21 _ rfl (hL 21 (by simp))
              have e22 : V 22 = .agg #[.slice A9 l1.length c9] := HV 22 _ rfl (hL 22 (by simp))
              have e23 : V 23 = .agg #[.slice A8 l8.length c8] := HV 23 _ rfl (hL 23 (by simp))
              have e25 : V 25 = .bool true := HV 25 _ rfl (hL 25 (by simp))
              have e26 : V 26 = .bool false := HV 26 _ rfl (hL 26 (by simp))
              have e27 : V 27 = .bool false := HV 27 _ rfl (hL 27 (by simp))
              have hA := s0
              have p64 := f24 (hL 24 (by simp))
              rw [HFR.out]
              rw [e0, e1, e2, e3, e4, e5, e6, e7, e8, e9, e10, e11, e12, e13, e14, e15, e16, e17, e18, e19, e20, e21, e22, e23, e25, e26, e27]
              clear hL HV HFR e0 e1 e2 e3 e4 e5 e6 e7 e8 e9 e10 e11 e12 e13 e14 e15 e16 e17 e18 e19 e20 e21 e22 e23 e25 e26 e27 s0 f24
              have HZ := Lib.hid hA
              clear hA p64 HSA HSB HFW HSC
              replace HE7 := Lib.hid (HE7.out.trans HZ.out)
              replace HG9 := Lib.hid (Cs.ext HG9.out HZ.out)
              replace HA1 := Lib.hid (HA1.out.ext HZ.out)
              clear HZ HG8 HG10 HA0 HA8
              go_upto_region 13 with fail
              obtain ⟨w13, hw13⟩ : ∃ x, W10.alloc (.cells (wc 0) 31) = x := ⟨_, rfl⟩
              rw [show W10.alloc (.cells #[.int .u64 0, .int .u64 0, .int .u64 0, .int .u64 0] 31) = w13 from hw13]
              have HT0 : Hid (Cs w13 W10.heap.size 31 (wc 0)) := Lib.hid (by rw [← hw13]; exact Cs.new _ _ _ _ rfl)
              have HX13 : Hid (Ext W10 w13) := Lib.hid (by rw [← hw13]; exact (Ext.refl _).alloc _)
              have HZS := Lib.hid (Nat.le_refl W10.heap.size)
              clear hw13
              obtain ⟨g13, hg13⟩ : ∃ g, W10.heap.size = g := ⟨_, rfl⟩
              have HZS := Lib.hid (show W10.heap.size ≤ g13 by omega)
              rw [hg13] at HT0 ⊢
              clear hg13
              have q9 := (Cs.ext HG9.out HX13.out).cell 0 _ rfl
              go_wp2_with fail
              refine (refTotal_any _ l1 _ (HA1.out.ext HX13.out) (by have := HL1.out; omega)).mono ?_
              rintro e w14 ⟨rfl, htl, he⟩
              have HTL := Lib.hid htl
              have HX14 := Lib.hid (HX13.out.trans he)
              replace HT0 := Lib.hid (Cs.ext HT0.out he)
              have HTN := Lib.hid (show totN l1 = (sumW (bals l1)).1 by unfold totN; rw [HR.out]; rfl)
              clear htl he q9 HX13
              generalize (sumW (bals l1)).2 = bb at *
              generalize (sumW (bals l1)).1 = tt at *
              go_upto_region 15 with ((with_reducible refine wpList_store_word rfl rfl 31 (.tmp 13) (.tmp 74) rfl winfo g13 (wc 0) tt ?_ ?_ ?_ ?_ ?_); (exact rfl); (exact rfl); (exact HT0.out); (exact rfl); intro wX k15 h15; have HT := Lib.hid k15; have HXT := Lib.hid (HX14.out.grown h15 HZS.out); clear k15 h15)
              clear HT0 HX14
              replace HE7 := Lib.hid (HE7.out.trans HXT.out)
              replace HG9 := Lib.hid (Cs.ext HG9.out HXT.out)
              replace HA1 := Lib.hid (HA1.out.ext HXT.out)
              clear HXT HZS
              have HTT := Lib.hid (fun W (h : Ext wX W) => show Calls _ _ _ W (fun e w' => e = .returned (wv tt) ∧ Ext W w') by have := stateTotal_any _ l1 W (HA1.out.ext h) (by have := HL1.out; omega); rw [HTN.out] at this; exact this)
              refine wp_named fun a0 ha0 => ?_
              obtain ⟨fr, hfr⟩ : ∃ fr : (Nat → Value) → Act, ∀ V, fr V = ((((a0.put (some 76) (V 0)).put (some 77) (V 1)).put (some 78) (V 2)).put (some 79) (V 3)) := ⟨fun V => ((((a0.put (some 76) (V 0)).put (some 77) (V 1)).put (some 78) (V 2)).put (some 79) (V 3)), fun _ => rfl⟩
              rw [ha0] at hfr
              simp only [Act.put, List.setIfInBounds_toArray, List.set_cons_zero, List.set_cons_succ] at hfr
              have HFR := Lib.hid hfr
              clear hfr
              refine wp_region_inv (by kernel_rfl) (by kernel_rfl) (fun L A W => ∃ V : Nat → Value, A = fr V ∧ Vals (fun j => ([some (.agg #[.slice A9 l1.length c9]), some (wv tt), some (wv tt), some (.bool false)] : List (Option Value)).getD j none) L V ∧ (Ext wX W)) ?_ ⟨?_, ?_, ?_, ?_, trivial⟩ ?_
              · refine ⟨fun j => a0.tmps.getD (([76, 77, 78, 79] : List Nat).getD j 0) undef, ?_, Vals.no _ _ _ (far_none _ _ rfl), (Ext.refl _).drew⟩
                rw [HFR.out, ha0]
                rfl
              all_goals clear ha0
              · rintro L A W K hL hC hW ⟨V, rfl, HV, s0⟩ hK
                have hB := s0
                have H := Lib.hid (show ∀ W', Ext W W' → K (fr (upd V 0 (.agg #[.slice A9 l1.length c9]))) W' from fun W' he => hK _ _ ⟨upd V 0 (.agg #[.slice A9 l1.length c9]), rfl, HV.up 0 _ (fun x hx => Option.some.inj hx), Ext.trans s0 he⟩)
                clear hK hC hW hL HV s0
                rw [HFR.out]
                have hcl := (Cs.ext HG9.out hB).cell 0 _ rfl
                clear hB
                go_wp2_with fail
                show K _ _
                have := H.out _ (Ext.refl _)
                rw [HFR.out] at this
                exact this
              · rintro L A W K hL hC hW ⟨V, rfl, HV, s0⟩ hK
                have e0 : V 0 = .agg #[.slice A9 l1.length c9] := HV 0 _ rfl (hW 0 rfl)
                have hB := s0
                have H := Lib.hid (show ∀ W', Ext W W' → K (fr (upd V 1 (wv tt))) W' from fun W' he => hK _ _ ⟨upd V 1 (wv tt), rfl, HV.up 1 _ (fun x hx => Option.some.inj hx), Ext.trans s0 he⟩)
                have HU := Lib.hid (show (upd V 1 (wv tt)) 0 = .agg #[.slice A9 l1.length c9] from e0)
                clear hK hC hW hL HV s0
                rw [HFR.out]
                rw [e0]
                clear e0
                have HB' := Lib.hid hB
                clear hB
                go_wp2_with fail
                refine (HTT.out _ HB'.out).mono ?_
                rintro e wx ⟨rfl, he⟩
                have := H.out _ he
                clear H
                go_wp2_with fail
                show K _ _
                rw [HFR.out] at this
                obtain u0 := HU.out
                rw [u0] at this
                exact this
              · rintro L A W K hL hC hW ⟨V, rfl, HV, s0⟩ hK
                have hB := s0
                have H := Lib.hid (show ∀ W', Ext W W' → K (fr (upd V 2 (wv tt))) W' from fun W' he => hK _ _ ⟨upd V 2 (wv tt), rfl, HV.up 2 _ (fun x hx => Option.some.inj hx), Ext.trans s0 he⟩)
                clear hK hC hW hL HV s0
                rw [HFR.out]
                have HCR := Lib.hid (Cs.range0' (Cs.ext HT.out hB))
                clear hB
                ((with_reducible refine wpList_load_wordIn ?_ (.tmp 13) ?_ g13 0 (tt) ?_ ?_ ?_); (exact rfl); (exact rfl); (exact rfl); (exact HCR.out))
                show K _ _
                have := H.out _ (Ext.refl _)
                rw [HFR.out] at this
                exact this
              · rintro L A W K hL hC hW ⟨V, rfl, HV, s0⟩ hK
                have e1 : V 1 = wv tt := HV 1 _ rfl (hW 1 rfl)
                have e2 : V 2 = wv tt := HV 2 _ rfl (hW 2 rfl)
                have hB := s0
                have H := Lib.hid (show ∀ W', Ext W W' → K (fr (upd V 3 (.bool false))) W' from fun W' he => hK _ _ ⟨upd V 3 (.bool false), rfl, HV.up 3 _ (fun x hx => Option.some.inj hx), Ext.trans s0 he⟩)
                have HU := Lib.hid (show (upd V 3 (.bool false)) 1 = wv tt ∧ (upd V 3 (.bool false)) 2 = wv tt from ⟨e1, e2⟩)
                clear hK hC hW hL HV s0
                rw [HFR.out]
                rw [e1, e2]
                clear e1 e2
                clear hB
                ((with_reducible refine wpList_neq_same' ?_ (.tmp 77) (.tmp 78) ?_ tt HTL.out ?_ ?_ ?_); (exact rfl); (exact rfl); (exact rfl); (exact rfl))
                show K _ _
                have := H.out _ (Ext.refl _)
                rw [HFR.out] at this
                obtain ⟨u1, u2⟩ := HU.out
                rw [u1, u2] at this
                exact this
              · rintro L A w15 hL ⟨V, rfl, HV, s0⟩
                have e0 : V 0 = .agg #[.slice A9 l1.length c9] := HV 0 _ rfl (hL 0 (by simp))
                have e1 : V 1 = wv tt := HV 1 _ rfl (hL 1 (by simp))
                have e2 : V 2 = wv tt := HV 2 _ rfl (hL 2 (by simp))
                have e3 : V 3 = .bool false := HV 3 _ rfl (hL 3 (by simp))
                have hA := s0
                rw [HFR.out]
                rw [e0, e1, e2, e3]
                clear hL HV HFR e0 e1 e2 e3 s0

                have HZ := Lib.hid hA
                clear hA HTT HTN HTL
                have HE15 := Lib.hid (HE7.out.trans HZ.out)
                replace HG9 := Lib.hid (Cs.ext HG9.out HZ.out)
                replace HA1 := Lib.hid (HA1.out.ext HZ.out)
                clear HZ HE7 HT
                go_wp2_with fail
                go_loopw [82] (fun iv wr => ∃ k : Nat, k ≤ ads.length ∧ iv = .int .i64 k ∧ Hid (Ext w15 wr)) (fun iv _ => ads.length - (intOf iv).toNat)
                case atStart => exact ⟨0, by omega, rfl, Lib.hid (Ext.refl _)⟩
                case round =>
                  obtain ⟨k2, hk2, rfl, HE2⟩ := hrel
                  by_cases hlt2 : k2 < ads.length
                  · have hd2 : decide (k2 < ads.length) = true := decide_eq_true hlt2
                    obtain ⟨ba, oa, rfl, xa, ha⟩ := (HD.out.ext (HE15.out.trans HE2.out)).at k2 hlt2
                    have HAL := Lib.hid ha
                    generalize ads.getD k2 0 = a at *
                    by_cases h6 : k2 = 6
                    · have hd6 : ((k2 : Int) == 6) = true := by rw [beq_iff_eq]; omega
                      clear h6
                      go_wp2_with fail
                      exact ⟨⟨k + 1, by omega, by go_num, Lib.hid (HE15.out.trans HE2.out)⟩, by simp [intOf]; omega⟩
                    · have hd6 : ((k2 : Int) == 6) = false := by rw [beq_eq_false_iff_ne]; omega
                      clear h6
                      go_upto_region 22 with fail
                      have HLIT := acc_lit a
                      rw [show wr.alloc (.cells #[.int .u64 (a : Nat), .int .u64 0, .int .u64 0, .int .u64 0, .int .u64 0, .int .u64 0, .slice none 0 0, .slice none 0 0] 37) = wr.alloc (.cells (acc ⟨a, 0, 0, [], []⟩ (.slice none 0 0) (.slice none 0 0)) 37) by injection HLIT with h; rw [h]]
                      obtain ⟨w21, hw21⟩ : ∃ x, wr.alloc (.cells (acc ⟨a, 0, 0, [], []⟩ (.slice none 0 0) (.slice none 0 0)) 37) = x := ⟨_, rfl⟩
                      have HQ0 : Hid (Ab w21 wr.heap.size ⟨a, 0, 0, [], []⟩ (.slice none 0 0) (.slice none 0 0)) := Lib.hid (by rw [← hw21]; exact Cs.new _ _ _ _ rfl)
                      have HX21 : Hid (Ext wr w21) := Lib.hid (by rw [← hw21]; exact (Ext.refl _).alloc _)
                      rw [hw21]
                      clear hw21 HLIT xa
                      have HSZ := Lib.hid (show w15.heap.size ≤ wr.heap.size from HE2.out.size)
                      obtain ⟨g16, hg16⟩ : ∃ g, wr.heap.size = g := ⟨_, rfl⟩
                      rw [hg16] at HQ0 HSZ ⊢
                      clear hg16
                      have HX22 := Lib.hid (HE2.out.trans HX21.out)
                      have q9 := (Cs.ext HG9.out HX22.out).cell 0 _ rfl
                      go_wp2_with fail
                      refine (refOf_any _ l1 a w15 _ HX22.out HA1.out HAL.out).mono ?_
                      rintro e w23 ⟨u, v, rfl, hu, hv, he⟩
                      have HX23 := Lib.hid (HX22.out.trans he)
                      have HQ1 := Lib.hid (Ab.ext HQ0.out he)
                      have HQP := Lib.hid (And.intro hu hv)
                      have HQK := Lib.hid (OkL.acc HA1.out.oks HAL.out)
                      have HQQ := Lib.hid (ofA_right HR.out a)
                      clear hu hv he q9 HX21 HX22 HQ0
                      generalize (accF l1 a).1 = q at *
                      go_upto_region 24 with ((with_reducible refine wpList_store_ac ?_ ?_ (.tmp 16) (.tmp 94) ?_ g16 (acc ⟨a, 0, 0, [], []⟩ (.slice none 0 0) (.slice none 0 0)) q u v ?_ ?_ ?_ ?_ ?_ ?_ ?_); (exact rfl); (exact rfl); (exact rfl); (exact bs_one HQP.out.1); (exact pks_one HQP.out.2); (exact rfl); (exact rfl); (exact HQ1.out); (exact rfl); intro wX k24 h24; have HQ := Lib.hid k24; have HXX := Lib.hid (HX23.out.grown h24 HSZ.out); clear k24 h24)
                      clear HQ1 HX23
                      have HG9 := Lib.hid (Cs.ext HG9.out HXX.out)
                      have HA1 := Lib.hid (HA1.out.ext HXX.out)
                      have HQP := Lib.hid (And.intro (HQP.out.1.ext HXX.out) (HQP.out.2.ext HXX.out))
                      have HOF := Lib.hid (fun W (h : Ext wX W) => show Calls _ _ _ W (fun e w' => ∃ u v, e = .returned (.agg (acc q u v)) ∧ AcO W.heap.size w' q u v ∧ Ext W w') by have := stateOf_any _ l1 a W (HA1.out.ext h) HAL.out (by have := HL1.out; omega); rw [HQQ.out] at this; exact this)
                      have HSQ := Lib.hid (fun (u' v' : Value) W (h : Ext wX W) (hu : Bs W u' q.code) (hv : Pks W v' q.store) => show Calls _ _ _ W (fun e w' => e = .returned (.bool true) ∧ Ext W w') by have := refSameAccount_any q q u' v' u v W HQK.out HQK.out hu hv (HQP.out.1.ext h) (HQP.out.2.ext h); rw [(Ac.eqB_iff q q).2 rfl] at this; exact this)
                      have HRO := Lib.hid (fun W (h : Ext wX W) => stateRoom_any _ l1 a W (HA1.out.ext h) HAL.out (by have := HL1.out; omega))
                      have HRR := Lib.hid (fun W (h : Ext wX W) => show Calls _ _ _ W (fun e w' => e = .returned (.bool (rmB l1 a)) ∧ Ext W w') by have := refRoom_any _ l1 a W (HA1.out.ext h) HAL.out (by have := HL1.out; omega); rw [show roomR l1 a = rmB l1 a by rw [rm_eq HA1.out.oks, HR.out, Bool.true_and]] at this; exact this)
                      generalize rmB l1 a = rm at *
                      refine wp_named fun a0 ha0 => ?_
                      obtain ⟨fr, hfr⟩ : ∃ fr : (Nat → Value) → Act, ∀ V, fr V = ((((((((((((((((((a0.put (some 95) (V 0)).put (some 96) (V 1)).put (some 97) (V 2)).put (some 98) (V 3)).put (some 99) (V 4)).put (some 100) (V 5)).put (some 101) (V 6)).put (some 102) (V 7)).put (some 103) (V 8)).put (some 104) (V 9)).put (some 105) (V 10)).put (some 106) (V 11)).put (some 107) (V 12)).put (some 108) (V 13)).put (some 109) (V 14)).put (some 110) (V 15)).put (some 111) (V 16)).put (some 112) (V 17)) := ⟨fun V => ((((((((((((((((((a0.put (some 95) (V 0)).put (some 96) (V 1)).put (some 97) (V 2)).put (some 98) (V 3)).put (some 99) (V 4)).put (some 100) (V 5)).put (some 101) (V 6)).put (some 102) (V 7)).put (some 103) (V 8)).put (some 104) (V 9)).put (some 105) (V 10)).put (some 106) (V 11)).put (some 107) (V 12)).put (some 108) (V 13)).put (some 109) (V 14)).put (some 110) (V 15)).put (some 111) (V 16)).put (some 112) (V 17)), fun _ => rfl⟩
                      rw [ha0] at hfr
                      simp only [Act.put, List.setIfInBounds_toArray, List.set_cons_zero, List.set_cons_succ] at hfr
                      have HFR := Lib.hid hfr
                      clear hfr
                      refine wp_region_inv (by kernel_rfl) (by kernel_rfl) (fun L A W => ∃ V : Nat → Value, A = fr V ∧ Vals (fun j => ([some (.agg #[.slice A9 l1.length c9]), some (.int .u64 (a : Nat)), none, some (.agg (acc q u v)), some (.bool true), some (.bool false), some (.bool false), some (.agg #[.slice A9 l1.length c9]), some (.int .u64 (a : Nat)), some (.bool rm), some (.bool true), some (.bool true), some (.agg #[.slice A9 l1.length c9]), some (.int .u64 (a : Nat)), some (.bool rm), some (.bool rm), some (.bool false), some (.bool false)] : List (Option Value)).getD j none) L V ∧ (Ext wX W) ∧ (L 2 = true → OfQ q W (V 2))) ?_ ⟨?_, ?_, ?_, ?_, ?_, ?_, ?_, ?_, ?_, ?_, ?_, ?_, ?_, ?_, ?_, ?_, ?_, ?_, trivial⟩ ?_
                      · refine ⟨fun j => a0.tmps.getD (([95, 96, 97, 98, 99, 100, 101, 102, 103, 104, 105, 106, 107, 108, 109, 110, 111, 112] : List Nat).getD j 0) undef, ?_, Vals.no _ _ _ (far_none _ _ rfl), (Ext.refl _).drew, fun h0 => absurd h0 (by decide)⟩
                        rw [HFR.out, ha0]
                        rfl
                      all_goals clear ha0
                      · rintro L A W K hL hC hW ⟨V, rfl, HV, s0, f2⟩ hK
                        have hB := s0
                        have H := Lib.hid (show ∀ W', Ext W W' → K (fr (upd V 0 (.agg #[.slice A9 l1.length c9]))) W' from fun W' he => hK _ _ ⟨upd V 0 (.agg #[.slice A9 l1.length c9]), rfl, HV.up 0 _ (fun x hx => Option.some.inj hx), Ext.trans s0 he, fun h0 => OfQ.ext (f2 (more_ne h0 rfl)) he⟩)
                        clear hK hC hW hL HV s0 f2
                        rw [HFR.out]
                        have hcl := (Cs.ext HG9.out hB).cell 0 _ rfl
                        clear hB
                        go_wp2_with fail
                        show K _ _
                        have := H.out _ (Ext.refl _)
                        rw [HFR.out] at this
                        exact this
                      · rintro L A W K hL hC hW ⟨V, rfl, HV, s0, f2⟩ hK
                        have H := Lib.hid (show ∀ W', Ext W W' → K (fr (upd V 1 (.int .u64 (a : Nat)))) W' from fun W' he => hK _ _ ⟨upd V 1 (.int .u64 (a : Nat)), rfl, HV.up 1 _ (fun x hx => Option.some.inj hx), Ext.trans s0 he, fun h0 => OfQ.ext (f2 (more_ne h0 rfl)) he⟩)
                        clear hK hC hW hL HV s0 f2
                        rw [HFR.out]
                        go_wp2_with fail
                        show K _ _
                        have := H.out _ (Ext.refl _)
                        rw [HFR.out] at this
                        exact this
                      · rintro L A W K hL hC hW ⟨V, rfl, HV, s0, f2⟩ hK
                        have e0 : V 0 = .agg #[.slice A9 l1.length c9] := HV 0 _ rfl (hW 0 rfl)
                        have e1 : V 1 = .int .u64 (a : Nat) := HV 1 _ rfl (hW 1 rfl)
                        have hB := s0
                        have H := Lib.hid (show ∀ v W', Ext W W' → (OfQ q W' v) → K (fr (upd V 2 v)) W' from fun v W' he hp => hK _ _ ⟨upd V 2 v, rfl, HV.up 2 _ (fun x hx => absurd hx (by intro h; cases h)), Ext.trans s0 he, fun h0 => hp⟩)
                        have HU := Lib.hid (show ∀ v, (upd V 2 v) 0 = .agg #[.slice A9 l1.length c9] ∧ (upd V 2 v) 1 = .int .u64 (a : Nat) from fun v => ⟨e0, e1⟩)
                        clear hK hC hW hL HV s0 f2
                        rw [HFR.out]
                        rw [e0, e1]
                        clear e0 e1
                        have HB' := Lib.hid hB
                        clear hB
                        go_wp2_with fail
                        refine (HOF.out _ HB'.out).mono ?_
                        rintro e wx ⟨u', v', rfl, ho, he⟩
                        have := H.out _ _ he (⟨u', v', rfl, ho.1.bs, ho.2.pks⟩)
                        clear H
                        go_wp2_with fail
                        show K _ _
                        rw [HFR.out] at this
                        obtain ⟨u0, u1⟩ := HU.out _
                        rw [u0, u1] at this
                        exact this
                      · rintro L A W K hL hC hW ⟨V, rfl, HV, s0, f2⟩ hK
                        have hB := s0
                        have H := Lib.hid (show ∀ W', Ext W W' → K (fr (upd V 3 (.agg (acc q u v)))) W' from fun W' he => hK _ _ ⟨upd V 3 (.agg (acc q u v)), rfl, HV.up 3 _ (fun x hx => Option.some.inj hx), Ext.trans s0 he, fun h0 => OfQ.ext (f2 (more_ne h0 rfl)) he⟩)
                        clear hK hC hW hL HV s0 f2
                        rw [HFR.out]
                        have HCR := Lib.hid (Ab.range (Ab.ext HQ.out hB))
                        clear hB
                        ((with_reducible refine wpList_load_ac ?_ (.tmp 16) ?_ g16 0 q u v ?_ ?_ ?_); (exact rfl); (exact rfl); (exact rfl); (exact HCR.out))
                        show K _ _
                        have := H.out _ (Ext.refl _)
                        rw [HFR.out] at this
                        exact this
                      · rintro L A W K hL hC hW ⟨V, rfl, HV, s0, f2⟩ hK
                        have e3 : V 3 = .agg (acc q u v) := HV 3 _ rfl (hW 3 rfl)
                        have hB := s0
                        have q2 := f2 (hW 2 rfl)
                        obtain ⟨u2, v2, e2, z2⟩ := q2
                        have H := Lib.hid (show ∀ W', Ext W W' → K (fr (upd V 4 (.bool true))) W' from fun W' he => hK _ _ ⟨upd V 4 (.bool true), rfl, HV.up 4 _ (fun x hx => Option.some.inj hx), Ext.trans s0 he, fun h0 => OfQ.ext (f2 (more_ne h0 rfl)) he⟩)
                        have HU := Lib.hid (show (upd V 4 (.bool true)) 2 = .agg (acc q u2 v2) ∧ (upd V 4 (.bool true)) 3 = .agg (acc q u v) from ⟨e2, e3⟩)
                        clear hK hC hW hL HV s0 f2
                        rw [HFR.out]
                        rw [e2, e3]
                        clear e2 e3
                        have HB' := Lib.hid hB
                        have Z2 := Lib.hid z2
                        clear hB z2
                        go_wp2_with fail
                        refine (HSQ.out _ _ _ HB'.out Z2.out.1 Z2.out.2).mono ?_
                        rintro e wx ⟨rfl, he⟩
                        have := H.out _ he
                        clear H
                        go_wp2_with fail
                        show K _ _
                        rw [HFR.out] at this
                        obtain ⟨u2, u3⟩ := HU.out
                        rw [u2, u3] at this
                        exact this
                      · rintro L A W K hL hC hW ⟨V, rfl, HV, s0, f2⟩ hK
                        have e4 : V 4 = .bool true := HV 4 _ rfl (hW 4 rfl)
                        have H := Lib.hid (show ∀ W', Ext W W' → K (fr (upd V 5 (.bool false))) W' from fun W' he => hK _ _ ⟨upd V 5 (.bool false), rfl, HV.up 5 _ (fun x hx => Option.some.inj hx), Ext.trans s0 he, fun h0 => OfQ.ext (f2 (more_ne h0 rfl)) he⟩)
                        have HU := Lib.hid (show (upd V 5 (.bool false)) 4 = .bool true from e4)
                        clear hK hC hW hL HV s0 f2
                        rw [HFR.out]
                        rw [e4]
                        clear e4
                        go_wp2_with fail
                        show K _ _
                        have := H.out _ (Ext.refl _)
                        rw [HFR.out] at this
                        obtain u4 := HU.out
                        rw [u4] at this
                        exact this
                      · rintro L A W K hL hC hW ⟨V, rfl, HV, s0, f2⟩ hK
                        have e5 : V 5 = .bool false := HV 5 _ rfl (hW 5 rfl)
                        have H := Lib.hid (show ∀ W', Ext W W' → K (fr (upd V 6 (.bool false))) W' from fun W' he => hK _ _ ⟨upd V 6 (.bool false), rfl, HV.up 6 _ (fun x hx => Option.some.inj hx), Ext.trans s0 he, fun h0 => OfQ.ext (f2 (more_ne h0 rfl)) he⟩)
                        have HU := Lib.hid (show (upd V 6 (.bool false)) 5 = .bool false from e5)
                        clear hK hC hW hL HV s0 f2
                        rw [HFR.out]
                        rw [e5]
                        clear e5
                        go_wp2_with fail
                        show K _ _
                        have := H.out _ (Ext.refl _)
                        rw [HFR.out] at this
                        obtain u5 := HU.out
                        rw [u5] at this
                        exact this
                      · rintro L A W K hL hC hW ⟨V, rfl, HV, s0, f2⟩ hK
                        have e6 : V 6 = .bool false := HV 6 _ rfl (hW 6 rfl)
                        have hB := s0
                        have H := Lib.hid (show ∀ W', Ext W W' → K (fr (upd V 7 (.agg #[.slice A9 l1.length c9]))) W' from fun W' he => hK _ _ ⟨upd V 7 (.agg #[.slice A9 l1.length c9]), rfl, HV.up 7 _ (fun x hx => Option.some.inj hx), Ext.trans s0 he, fun h0 => OfQ.ext (f2 (more_ne h0 rfl)) he⟩)
                        have HU := Lib.hid (show (upd V 7 (.agg #[.slice A9 l1.length c9])) 6 = .bool false from e6)
                        clear hK hC hW hL HV s0 f2
                        rw [HFR.out]
                        rw [e6]
                        clear e6
                        have hcl := (Cs.ext HG9.out hB).cell 0 _ rfl
                        clear hB
                        go_wp2_with fail
                        show K _ _
                        have := H.out _ (Ext.refl _)
                        rw [HFR.out] at this
                        obtain u6 := HU.out
                        rw [u6] at this
                        exact this
                      · rintro L A W K hL hC hW ⟨V, rfl, HV, s0, f2⟩ hK
                        have e6 : V 6 = .bool false := HV 6 _ rfl (hW 6 rfl)
                        have H := Lib.hid (show ∀ W', Ext W W' → K (fr (upd V 8 (.int .u64 (a : Nat)))) W' from fun W' he => hK _ _ ⟨upd V 8 (.int .u64 (a : Nat)), rfl, HV.up 8 _ (fun x hx => Option.some.inj hx), Ext.trans s0 he, fun h0 => OfQ.ext (f2 (more_ne h0 rfl)) he⟩)
                        have HU := Lib.hid (show (upd V 8 (.int .u64 (a : Nat))) 6 = .bool false from e6)
                        clear hK hC hW hL HV s0 f2
                        rw [HFR.out]
                        rw [e6]
                        clear e6
                        go_wp2_with fail
                        show K _ _
                        have := H.out _ (Ext.refl _)
                        rw [HFR.out] at this
                        obtain u6 := HU.out
                        rw [u6] at this
                        exact this
                      · rintro L A W K hL hC hW ⟨V, rfl, HV, s0, f2⟩ hK
                        have e6 : V 6 = .bool false := HV 6 _ rfl (hW 6 rfl)
                        have e7 : V 7 = .agg #[.slice A9 l1.length c9] := HV 7 _ rfl (hW 7 rfl)
                        have e8 : V 8 = .int .u64 (a : Nat) := HV 8 _ rfl (hW 8 rfl)
                        have hB := s0
                        have H := Lib.hid (show ∀ W', Ext W W' → K (fr (upd V 9 (.bool rm))) W' from fun W' he => hK _ _ ⟨upd V 9 (.bool rm), rfl, HV.up 9 _ (fun x hx => Option.some.inj hx), Ext.trans s0 he, fun h0 => OfQ.ext (f2 (more_ne h0 rfl)) he⟩)
                        have HU := Lib.hid (show (upd V 9 (.bool rm)) 6 = .bool false ∧ (upd V 9 (.bool rm)) 7 = .agg #[.slice A9 l1.length c9] ∧ (upd V 9 (.bool rm)) 8 = .int .u64 (a : Nat) from ⟨e6, e7, e8⟩)
                        clear hK hC hW hL HV s0 f2
                        rw [HFR.out]
                        rw [e6, e7, e8]
                        clear e6 e7 e8
                        have HB' := Lib.hid hB
                        clear hB
                        go_wp2_with fail
                        refine (HRO.out _ HB'.out).mono ?_
                        rintro e wx ⟨rfl, he⟩
                        have := H.out _ he
                        clear H
                        go_wp2_with fail
                        show K _ _
                        rw [HFR.out] at this
                        obtain ⟨u6, u7, u8⟩ := HU.out
                        rw [u6, u7, u8] at this
                        exact this
                      · rintro L A W K hL hC hW ⟨V, rfl, HV, s0, f2⟩ hK
                        have e6 : V 6 = .bool false := HV 6 _ rfl (hW 6 rfl)
                        have H := Lib.hid (show ∀ W', Ext W W' → K (fr (upd V 10 (.bool true))) W' from fun W' he => hK _ _ ⟨upd V 10 (.bool true), rfl, HV.up 10 _ (fun x hx => Option.some.inj hx), Ext.trans s0 he, fun h0 => OfQ.ext (f2 (more_ne h0 rfl)) he⟩)
                        have HU := Lib.hid (show (upd V 10 (.bool true)) 6 = .bool false from e6)
                        clear hK hC hW hL HV s0 f2
                        rw [HFR.out]
                        rw [e6]
                        clear e6
                        go_wp2_with fail
                        show K _ _
                        have := H.out _ (Ext.refl _)
                        rw [HFR.out] at this
                        obtain u6 := HU.out
                        rw [u6] at this
                        exact this
                      · rintro L A W K hL hC hW ⟨V, rfl, HV, s0, f2⟩ hK
                        have e6 : V 6 = .bool false := HV 6 _ rfl (hW 6 rfl)
                        have e10 : V 10 = .bool true := HV 10 _ rfl (hW 10 rfl)
                        have H := Lib.hid (show ∀ W', Ext W W' → K (fr (upd V 11 (.bool true))) W' from fun W' he => hK _ _ ⟨upd V 11 (.bool true), rfl, HV.up 11 _ (fun x hx => Option.some.inj hx), Ext.trans s0 he, fun h0 => OfQ.ext (f2 (more_ne h0 rfl)) he⟩)
                        have HU := Lib.hid (show (upd V 11 (.bool true)) 6 = .bool false ∧ (upd V 11 (.bool true)) 10 = .bool true from ⟨e6, e10⟩)
                        clear hK hC hW hL HV s0 f2
                        rw [HFR.out]
                        rw [e6, e10]
                        clear e6 e10
                        go_wp2_with fail
                        show K _ _
                        have := H.out _ (Ext.refl _)
                        rw [HFR.out] at this
                        obtain ⟨u6, u10⟩ := HU.out
                        rw [u6, u10] at this
                        exact this
                      · rintro L A W K hL hC hW ⟨V, rfl, HV, s0, f2⟩ hK
                        have e11 : V 11 = .bool true := HV 11 _ rfl (hW 11 rfl)
                        have hB := s0
                        have H := Lib.hid (show ∀ W', Ext W W' → K (fr (upd V 12 (.agg #[.slice A9 l1.length c9]))) W' from fun W' he => hK _ _ ⟨upd V 12 (.agg #[.slice A9 l1.length c9]), rfl, HV.up 12 _ (fun x hx => Option.some.inj hx), Ext.trans s0 he, fun h0 => OfQ.ext (f2 (more_ne h0 rfl)) he⟩)
                        have HU := Lib.hid (show (upd V 12 (.agg #[.slice A9 l1.length c9])) 11 = .bool true from e11)
                        clear hK hC hW hL HV s0 f2
                        rw [HFR.out]
                        rw [e11]
                        clear e11
                        have hcl := (Cs.ext HG9.out hB).cell 0 _ rfl
                        clear hB
                        go_wp2_with fail
                        show K _ _
                        have := H.out _ (Ext.refl _)
                        rw [HFR.out] at this
                        obtain u11 := HU.out
                        rw [u11] at this
                        exact this
                      · rintro L A W K hL hC hW ⟨V, rfl, HV, s0, f2⟩ hK
                        have e11 : V 11 = .bool true := HV 11 _ rfl (hW 11 rfl)
                        have H := Lib.hid (show ∀ W', Ext W W' → K (fr (upd V 13 (.int .u64 (a : Nat)))) W' from fun W' he => hK _ _ ⟨upd V 13 (.int .u64 (a : Nat)), rfl, HV.up 13 _ (fun x hx => Option.some.inj hx), Ext.trans s0 he, fun h0 => OfQ.ext (f2 (more_ne h0 rfl)) he⟩)
                        have HU := Lib.hid (show (upd V 13 (.int .u64 (a : Nat))) 11 = .bool true from e11)
                        clear hK hC hW hL HV s0 f2
                        rw [HFR.out]
                        rw [e11]
                        clear e11
                        go_wp2_with fail
                        show K _ _
                        have := H.out _ (Ext.refl _)
                        rw [HFR.out] at this
                        obtain u11 := HU.out
                        rw [u11] at this
                        exact this
                      · rintro L A W K hL hC hW ⟨V, rfl, HV, s0, f2⟩ hK
                        have e11 : V 11 = .bool true := HV 11 _ rfl (hW 11 rfl)
                        have e12 : V 12 = .agg #[.slice A9 l1.length c9] := HV 12 _ rfl (hW 12 rfl)
                        have e13 : V 13 = .int .u64 (a : Nat) := HV 13 _ rfl (hW 13 rfl)
                        have hB := s0
                        have H := Lib.hid (show ∀ W', Ext W W' → K (fr (upd V 14 (.bool rm))) W' from fun W' he => hK _ _ ⟨upd V 14 (.bool rm), rfl, HV.up 14 _ (fun x hx => Option.some.inj hx), Ext.trans s0 he, fun h0 => OfQ.ext (f2 (more_ne h0 rfl)) he⟩)
                        have HU := Lib.hid (show (upd V 14 (.bool rm)) 11 = .bool true ∧ (upd V 14 (.bool rm)) 12 = .agg #[.slice A9 l1.length c9] ∧ (upd V 14 (.bool rm)) 13 = .int .u64 (a : Nat) from ⟨e11, e12, e13⟩)
                        clear hK hC hW hL HV s0 f2
                        rw [HFR.out]
                        rw [e11, e12, e13]
                        clear e11 e12 e13
                        have HB' := Lib.hid hB
                        clear hB
                        go_wp2_with fail
                        refine (HRR.out _ HB'.out).mono ?_
                        rintro e wx ⟨rfl, he⟩
                        have := H.out _ he
                        clear H
                        go_wp2_with fail
                        show K _ _
                        rw [HFR.out] at this
                        obtain ⟨u11, u12, u13⟩ := HU.out
                        rw [u11, u12, u13] at this
                        exact this
                      · rintro L A W K hL hC hW ⟨V, rfl, HV, s0, f2⟩ hK
                        have e6 : V 6 = .bool false := HV 6 _ rfl (hW 6 rfl)
                        have e11 : V 11 = .bool true := HV 11 _ rfl (hW 11 rfl)
                        have e14 : V 14 = .bool rm := HV 14 _ rfl (hW 14 rfl)
                        have H := Lib.hid (show ∀ W', Ext W W' → K (fr (upd V 15 (.bool rm))) W' from fun W' he => hK _ _ ⟨upd V 15 (.bool rm), rfl, HV.up 15 _ (fun x hx => Option.some.inj hx), Ext.trans s0 he, fun h0 => OfQ.ext (f2 (more_ne h0 rfl)) he⟩)
                        have HU := Lib.hid (show (upd V 15 (.bool rm)) 6 = .bool false ∧ (upd V 15 (.bool rm)) 11 = .bool true ∧ (upd V 15 (.bool rm)) 14 = .bool rm from ⟨e6, e11, e14⟩)
                        clear hK hC hW hL HV s0 f2
                        rw [HFR.out]
                        rw [e6, e11, e14]
                        clear e6 e11 e14
                        go_wp2_with fail
                        show K _ _
                        have := H.out _ (Ext.refl _)
                        rw [HFR.out] at this
                        obtain ⟨u6, u11, u14⟩ := HU.out
                        rw [u6, u11, u14] at this
                        exact this
                      · rintro L A W K hL hC hW ⟨V, rfl, HV, s0, f2⟩ hK
                        have e6 : V 6 = .bool false := HV 6 _ rfl (hW 6 rfl)
                        have e9 : V 9 = .bool rm := HV 9 _ rfl (hW 9 rfl)
                        have e15 : V 15 = .bool rm := HV 15 _ rfl (hW 15 rfl)
                        have H := Lib.hid (show ∀ W', Ext W W' → K (fr (upd V 16 (.bool false))) W' from fun W' he => hK _ _ ⟨upd V 16 (.bool false), rfl, HV.up 16 _ (fun x hx => Option.some.inj hx), Ext.trans s0 he, fun h0 => OfQ.ext (f2 (more_ne h0 rfl)) he⟩)
                        have HU := Lib.hid (show (upd V 16 (.bool false)) 6 = .bool false ∧ (upd V 16 (.bool false)) 9 = .bool rm ∧ (upd V 16 (.bool false)) 15 = .bool rm from ⟨e6, e9, e15⟩)
                        clear hK hC hW hL HV s0 f2
                        rw [HFR.out]
                        rw [e6, e9, e15]
                        clear e6 e9 e15
                        go_wp2_with fail
                        show K _ _
                        have := H.out _ (Ext.refl _)
                        rw [HFR.out] at this
                        obtain ⟨u6, u9, u15⟩ := HU.out
                        rw [u6, u9, u15] at this
                        exact this
                      · rintro L A W K hL hC hW ⟨V, rfl, HV, s0, f2⟩ hK
                        have e6 : V 6 = .bool false := HV 6 _ rfl (hW 6 rfl)
                        have e16 : V 16 = .bool false := HV 16 _ rfl (hW 16 rfl)
                        have H := Lib.hid (show ∀ W', Ext W W' → K (fr (upd V 17 (.bool false))) W' from fun W' he => hK _ _ ⟨upd V 17 (.bool false), rfl, HV.up 17 _ (fun x hx => Option.some.inj hx), Ext.trans s0 he, fun h0 => OfQ.ext (f2 (more_ne h0 rfl)) he⟩)
                        have HU := Lib.hid (show (upd V 17 (.bool false)) 6 = .bool false ∧ (upd V 17 (.bool false)) 16 = .bool false from ⟨e6, e16⟩)
                        clear hK hC hW hL HV s0 f2
                        rw [HFR.out]
                        rw [e6, e16]
                        clear e6 e16
                        go_wp2_with fail
                        show K _ _
                        have := H.out _ (Ext.refl _)
                        rw [HFR.out] at this
                        obtain ⟨u6, u16⟩ := HU.out
                        rw [u6, u16] at this
                        exact this
                      · rintro L A w24 hL ⟨V, rfl, HV, s0, f2⟩
                        have e0 : V 0 = .agg #[.slice A9 l1.length c9] := HV 0 _ rfl (hL 0 (by simp))
                        have e1 : V 1 = .int .u64 (a : Nat) := HV 1 _ rfl (hL 1 (by simp))
                        have e3 : V 3 = .agg (acc q u v) := HV 3 _ rfl (hL 3 (by simp))
                        have e4 : V 4 = .bool true := HV 4 _ rfl (hL 4 (by simp))
                        have e5 : V 5 = .bool false := HV 5 _ rfl (hL 5 (by simp))
                        have e6 : V 6 = .bool false := HV 6 _ rfl (hL 6 (by simp))
                        have e7 : V 7 = .agg #[.slice A9 l1.length c9] := HV 7 _ rfl (hL 7 (by simp))
                        have e8 : V 8 = .int .u64 (a : Nat) := HV 8 _ rfl (hL 8 (by simp))
                        have e9 : V 9 = .bool rm := HV 9 _ rfl (hL 9 (by simp))
                        have e10 : V 10 = .bool true := HV 10 _ rfl (hL 10 (by simp))
                        have e11 : V 11 = .bool true := HV 11 _ rfl (hL 11 (by simp))
                        have e12 : V 12 = .agg #[.slice A9 l1.length c9] := HV 12 _ rfl (hL 12 (by simp))
                        have e13 : V 13 = .int .u64 (a : Nat) := HV 13 _ rfl (hL 13 (by simp))
                        have e14 : V 14 = .bool rm := HV 14 _ rfl (hL 14 (by simp))
                        have e15 : V 15 = .bool rm := HV 15 _ rfl (hL 15 (by simp))
                        have e16 : V 16 = .bool false := HV 16 _ rfl (hL 16 (by simp))
                        have e17 : V 17 = .bool false := HV 17 _ rfl (hL 17 (by simp))
                        have hA := s0
                        have p97 := f2 (hL 2 (by simp))
                        rw [HFR.out]
                        rw [e0, e1, e3, e4, e5, e6, e7, e8, e9, e10, e11, e12, e13, e14, e15, e16, e17]
                        clear hL HV HFR e0 e1 e3 e4 e5 e6 e7 e8 e9 e10 e11 e12 e13 e14 e15 e16 e17 s0 f2
                        have HZ := Lib.hid hA
                        clear hA p97 HOF HSQ HRO HRR
                        have HX24 := Lib.hid (HXX.out.trans HZ.out)
                        have HE24 := Lib.hid (HE15.out.trans HX24.out)
                        replace HG9 := Lib.hid (Cs.ext HG9.out HZ.out)
                        replace HA1 := Lib.hid (HA1.out.ext HZ.out)
                        replace HQ := Lib.hid (Ab.ext HQ.out HZ.out)
                        replace HQP := Lib.hid (And.intro (HQP.out.1.ext HZ.out) (HQP.out.2.ext HZ.out))
                        clear HZ HXX
                        go_wp2_with fail
                        go_loopw [115] (fun iv wr => ∃ k : Nat, k ≤ ns.length ∧ iv = .int .i64 k ∧ Hid (Ext w24 wr)) (fun iv _ => ns.length - (intOf iv).toNat)
                        case atStart => exact ⟨0, by omega, rfl, Lib.hid (Ext.refl _)⟩
                        case round =>
                          obtain ⟨k3, hk3, rfl, HE3⟩ := hrel
                          by_cases hlt3 : k3 < ns.length
                          · have hd3 : decide (k3 < ns.length) = true := decide_eq_true hlt3
                            obtain ⟨bn, on, rfl, xn, hn⟩ := (HN.out.ext (HE24.out.trans HE3.out)).at k3 hlt3
                            have XN := Lib.hid xn
                            have HNL := Lib.hid hn
                            clear xn hn
                            generalize ns.getD k3 0 = n at *
                            by_cases h6 : k3 = 6
                            · have hd6 : ((k3 : Int) == 6) = true := by rw [beq_iff_eq]; omega
                              clear h6
                              go_wp2_with (first
                                | ((with_reducible refine wpList_load_wordIn ?_ (.tmp 118) ?_ bn (on + k3 * 4) (n) ?_ ?_ ?_); (exact rfl); (exact rfl); (exact rfl); (exact XN.out))
                                | ((with_reducible refine wpList_store_word rfl rfl 31 (.tmp 18) (.tmp 119) rfl winfo wr.heap.size (wc 0) n ?_ ?_ ?_ ?_ ?_); (exact rfl); (exact rfl); (exact Cs.new _ _ _ _ rfl); (exact rfl); intro w28 k28 h28; have HX28 := Lib.hid (((Ext.refl wr).alloc _).grown h28 (Nat.le_refl _)); clear k28 h28))
                              exact ⟨⟨k2 + 1, by omega, by go_num, Lib.hid (HX24.out.trans (HE3.out.trans HX28.out))⟩, by simp [intOf]; omega⟩
                            · have hd6 : ((k3 : Int) == 6) = false := by rw [beq_eq_false_iff_ne]; omega
                              clear h6
                              go_upto_region 30 with (first
                                | ((with_reducible refine wpList_load_wordIn ?_ (.tmp 118) ?_ bn (on + k3 * 4) (n) ?_ ?_ ?_); (exact rfl); (exact rfl); (exact rfl); (exact XN.out))
                                | ((with_reducible refine wpList_store_word rfl rfl 31 (.tmp 18) (.tmp 119) rfl winfo wr.heap.size (wc 0) n ?_ ?_ ?_ ?_ ?_); (exact rfl); (exact rfl); (exact Cs.new _ _ _ _ rfl); (exact rfl); intro wX k28 h28; have K18 := Lib.hid k28; have HX28 := Lib.hid (((Ext.refl wr).alloc _).grown h28 (Nat.le_refl _)); clear k28 h28))
                              obtain ⟨g18, hg18⟩ : ∃ g, wr.heap.size = g := ⟨_, rfl⟩
                              rw [hg18] at K18 ⊢
                              clear hg18 XN
                              have HY := Lib.hid (HE3.out.trans HX28.out)
                              have HG9 := Lib.hid (Cs.ext HG9.out HY.out)
                              have HQ := Lib.hid (Ab.ext HQ.out HY.out)
                              have HLA := Lib.hid (fun W (h : Ext wX W) => show Calls _ _ _ W (fun e w' => e = .returned (wv (ldF q.store n)) ∧ Ext W w') by have := stateLoad_any _ l1 a n W (HA1.out.ext (HY.out.trans h)) HAL.out (by have := HL1.out; omega) HNL.out; rw [load_eq, HQQ.out] at this; exact this)
                              have HLB := Lib.hid (fun W (h : Ext wX W) => refLoad_any q u v n W HQK.out (HQP.out.2.ext (HY.out.trans h)) HNL.out)
                              have HLD := Lib.hid (ldF_lt q.store n HQP.out.2.words)
                              generalize ldF q.store n = ld at *
                              refine wp_named fun a0 ha0 => ?_
                              obtain ⟨fr, hfr⟩ : ∃ fr : (Nat → Value) → Act, ∀ V, fr V = ((((((((a0.put (some 122) (V 0)).put (some 123) (V 1)).put (some 124) (V 2)).put (some 125) (V 3)).put (some 126) (V 4)).put (some 127) (V 5)).put (some 128) (V 6)).put (some 129) (V 7)) := ⟨fun V => ((((((((a0.put (some 122) (V 0)).put (some 123) (V 1)).put (some 124) (V 2)).put (some 125) (V 3)).put (some 126) (V 4)).put (some 127) (V 5)).put (some 128) (V 6)).put (some 129) (V 7)), fun _ => rfl⟩
                              rw [ha0] at hfr
                              simp only [Act.put, List.setIfInBounds_toArray, List.set_cons_zero, List.set_cons_succ] at hfr
                              have HFR := Lib.hid hfr
                              clear hfr
                              refine wp_region_inv (by kernel_rfl) (by kernel_rfl) (fun L A W => ∃ V : Nat → Value, A = fr V ∧ Vals (fun j => ([some (.agg #[.slice A9 l1.length c9]), some (.int .u64 (a : Nat)), some (wv n), some (wv ld), some (.agg (acc q u v)), some (wv n), some (wv ld), some (.bool false)] : List (Option Value)).getD j none) L V ∧ (Ext wX W)) ?_ ⟨?_, ?_, ?_, ?_, ?_, ?_, ?_, ?_, trivial⟩ ?_
                              · refine ⟨fun j => a0.tmps.getD (([122, 123, 124, 125, 126, 127, 128, 129] : List Nat).getD j 0) undef, ?_, Vals.no _ _ _ (far_none _ _ rfl), (Ext.refl _).drew⟩
                                rw [HFR.out, ha0]
                                rfl
                              all_goals clear ha0
                              · rintro L A W K hL hC hW ⟨V, rfl, HV, s0⟩ hK
                                have hB := s0
                                have H := Lib.hid (show ∀ W', Ext W W' → K (fr (upd V 0 (.agg #[.slice A9 l1.length c9]))) W' from fun W' he => hK _ _ ⟨upd V 0 (.agg #[.slice A9 l1.length c9]), rfl, HV.up 0 _ (fun x hx => Option.some.inj hx), Ext.trans s0 he⟩)
                                clear hK hC hW hL HV s0
                                rw [HFR.out]
                                have hcl := (Cs.ext HG9.out hB).cell 0 _ rfl
                                clear hB
                                go_wp2_with fail
                                show K _ _
                                have := H.out _ (Ext.refl _)
                                rw [HFR.out] at this
                                exact this
                              · rintro L A W K hL hC hW ⟨V, rfl, HV, s0⟩ hK
                                have H := Lib.hid (show ∀ W', Ext W W' → K (fr (upd V 1 (.int .u64 (a : Nat)))) W' from fun W' he => hK _ _ ⟨upd V 1 (.int .u64 (a : Nat)), rfl, HV.up 1 _ (fun x hx => Option.some.inj hx), Ext.trans s0 he⟩)
                                clear hK hC hW hL HV s0
                                rw [HFR.out]
                                go_wp2_with fail
                                show K _ _
                                have := H.out _ (Ext.refl _)
                                rw [HFR.out] at this
                                exact this
                              · rintro L A W K hL hC hW ⟨V, rfl, HV, s0⟩ hK
                                have hB := s0
                                have H := Lib.hid (show ∀ W', Ext W W' → K (fr (upd V 2 (wv n))) W' from fun W' he => hK _ _ ⟨upd V 2 (wv n), rfl, HV.up 2 _ (fun x hx => Option.some.inj hx), Ext.trans s0 he⟩)
                                clear hK hC hW hL HV s0
                                rw [HFR.out]
                                have HCR := Lib.hid (Cs.range0' (Cs.ext K18.out hB))
                                clear hB
                                ((with_reducible refine wpList_load_wordIn ?_ (.tmp 18) ?_ g18 0 (n) ?_ ?_ ?_); (exact rfl); (exact rfl); (exact rfl); (exact HCR.out))
                                show K _ _
                                have := H.out _ (Ext.refl _)
                                rw [HFR.out] at this
                                exact this
                              · rintro L A W K hL hC hW ⟨V, rfl, HV, s0⟩ hK
                                have e0 : V 0 = .agg #[.slice A9 l1.length c9] := HV 0 _ rfl (hW 0 rfl)
                                have e1 : V 1 = .int .u64 (a : Nat) := HV 1 _ rfl (hW 1 rfl)
                                have e2 : V 2 = wv n := HV 2 _ rfl (hW 2 rfl)
                                have hB := s0
                                have H := Lib.hid (show ∀ W', Ext W W' → K (fr (upd V 3 (wv ld))) W' from fun W' he => hK _ _ ⟨upd V 3 (wv ld), rfl, HV.up 3 _ (fun x hx => Option.some.inj hx), Ext.trans s0 he⟩)
                                have HU := Lib.hid (show (upd V 3 (wv ld)) 0 = .agg #[.slice A9 l1.length c9] ∧ (upd V 3 (wv ld)) 1 = .int .u64 (a : Nat) ∧ (upd V 3 (wv ld)) 2 = wv n from ⟨e0, e1, e2⟩)
                                clear hK hC hW hL HV s0
                                rw [HFR.out]
                                rw [e0, e1, e2]
                                clear e0 e1 e2
                                have HB' := Lib.hid hB
                                clear hB
                                go_wp2_with fail
                                refine (HLA.out _ HB'.out).mono ?_
                                rintro e wx ⟨rfl, he⟩
                                have := H.out _ he
                                clear H
                                go_wp2_with fail
                                show K _ _
                                rw [HFR.out] at this
                                obtain ⟨u0, u1, u2⟩ := HU.out
                                rw [u0, u1, u2] at this
                                exact this
                              · rintro L A W K hL hC hW ⟨V, rfl, HV, s0⟩ hK
                                have hB := s0
                                have H := Lib.hid (show ∀ W', Ext W W' → K (fr (upd V 4 (.agg (acc q u v)))) W' from fun W' he => hK _ _ ⟨upd V 4 (.agg (acc q u v)), rfl, HV.up 4 _ (fun x hx => Option.some.inj hx), Ext.trans s0 he⟩)
                                clear hK hC hW hL HV s0
                                rw [HFR.out]
                                have HCR := Lib.hid (Ab.range (Ab.ext HQ.out hB))
                                clear hB
                                ((with_reducible refine wpList_load_ac ?_ (.tmp 16) ?_ g16 0 q u v ?_ ?_ ?_); (exact rfl); (exact rfl); (exact rfl); (exact HCR.out))
                                show K _ _
                                have := H.out _ (Ext.refl _)
                                rw [HFR.out] at this
                                exact this
                              · rintro L A W K hL hC hW ⟨V, rfl, HV, s0⟩ hK
                                have hB := s0
                                have H := Lib.hid (show ∀ W', Ext W W' → K (fr (upd V 5 (wv n))) W' from fun W' he => hK _ _ ⟨upd V 5 (wv n), rfl, HV.up 5 _ (fun x hx => Option.some.inj hx), Ext.trans s0 he⟩)
                                clear hK hC hW hL HV s0
                                rw [HFR.out]
                                have HCR := Lib.hid (Cs.range0' (Cs.ext K18.out hB))
                                clear hB
                                ((with_reducible refine wpList_load_wordIn ?_ (.tmp 18) ?_ g18 0 (n) ?_ ?_ ?_); (exact rfl); (exact rfl); (exact rfl); (exact HCR.out))
                                show K _ _
                                have := H.out _ (Ext.refl _)
                                rw [HFR.out] at this
                                exact this
                              · rintro L A W K hL hC hW ⟨V, rfl, HV, s0⟩ hK
                                have e4 : V 4 = .agg (acc q u v) := HV 4 _ rfl (hW 4 rfl)
                                have e5 : V 5 = wv n := HV 5 _ rfl (hW 5 rfl)
                                have hB := s0
                                have H := Lib.hid (show ∀ W', Ext W W' → K (fr (upd V 6 (wv ld))) W' from fun W' he => hK _ _ ⟨upd V 6 (wv ld), rfl, HV.up 6 _ (fun x hx => Option.some.inj hx), Ext.trans s0 he⟩)
                                have HU := Lib.hid (show (upd V 6 (wv ld)) 4 = .agg (acc q u v) ∧ (upd V 6 (wv ld)) 5 = wv n from ⟨e4, e5⟩)
                                clear hK hC hW hL HV s0
                                rw [HFR.out]
                                rw [e4, e5]
                                clear e4 e5
                                have HB' := Lib.hid hB
                                clear hB
                                go_wp2_with fail
                                refine (HLB.out _ HB'.out).mono ?_
                                rintro e wx ⟨rfl, he⟩
                                have := H.out _ he
                                clear H
                                go_wp2_with fail
                                show K _ _
                                rw [HFR.out] at this
                                obtain ⟨u4, u5⟩ := HU.out
                                rw [u4, u5] at this
                                exact this
                              · rintro L A W K hL hC hW ⟨V, rfl, HV, s0⟩ hK
                                have e3 : V 3 = wv ld := HV 3 _ rfl (hW 3 rfl)
                                have e6 : V 6 = wv ld := HV 6 _ rfl (hW 6 rfl)
                                have hB := s0
                                have H := Lib.hid (show ∀ W', Ext W W' → K (fr (upd V 7 (.bool false))) W' from fun W' he => hK _ _ ⟨upd V 7 (.bool false), rfl, HV.up 7 _ (fun x hx => Option.some.inj hx), Ext.trans s0 he⟩)
                                have HU := Lib.hid (show (upd V 7 (.bool false)) 3 = wv ld ∧ (upd V 7 (.bool false)) 6 = wv ld from ⟨e3, e6⟩)
                                clear hK hC hW hL HV s0
                                rw [HFR.out]
                                rw [e3, e6]
                                clear e3 e6
                                clear hB
                                ((with_reducible refine wpList_neq_same' ?_ (.tmp 125) (.tmp 128) ?_ ld HLD.out ?_ ?_ ?_); (exact rfl); (exact rfl); (exact rfl); (exact rfl))
                                show K _ _
                                have := H.out _ (Ext.refl _)
                                rw [HFR.out] at this
                                obtain ⟨u3, u6⟩ := HU.out
                                rw [u3, u6] at this
                                exact this
                              · rintro L A W hL ⟨V, rfl, HV, s0⟩
                                have e0 : V 0 = .agg #[.slice A9 l1.length c9] := HV 0 _ rfl (hL 0 (by simp))
                                have e1 : V 1 = .int .u64 (a : Nat) := HV 1 _ rfl (hL 1 (by simp))
                                have e2 : V 2 = wv n := HV 2 _ rfl (hL 2 (by simp))
                                have e3 : V 3 = wv ld := HV 3 _ rfl (hL 3 (by simp))
                                have e4 : V 4 = .agg (acc q u v) := HV 4 _ rfl (hL 4 (by simp))
                                have e5 : V 5 = wv n := HV 5 _ rfl (hL 5 (by simp))
                                have e6 : V 6 = wv ld := HV 6 _ rfl (hL 6 (by simp))
                                have e7 : V 7 = .bool false := HV 7 _ rfl (hL 7 (by simp))
                                have hA := s0
                                rw [HFR.out]
                                rw [e0, e1, e2, e3, e4, e5, e6, e7]
                                clear hL HV HFR e0 e1 e2 e3 e4 e5 e6 e7 s0

                                have HZ := Lib.hid hA
                                clear hA
                                go_wp2_with fail
                                exact ⟨⟨k3 + 1, by omega, by go_num, Lib.hid (HY.out.trans HZ.out)⟩, by simp [intOf]; omega⟩
                          · obtain rfl : k3 = ns.length := by omega
                            go_wp2_with fail
                            exact ⟨⟨k2 + 1, by omega, by go_num, Lib.hid (HX24.out.trans HE3.out)⟩, by simp [intOf]; omega⟩
                  · obtain rfl : k2 = ads.length := by omega
                    go_wp2_with fail
                    exact ⟨⟨k + 1, by omega, by go_num, Lib.hid (HE15.out.trans HE2.out)⟩, by simp [intOf]; omega⟩
          | false =>
            have HR := Lib.hid hr1
            clear hr1
            go_wp2_with fail
            refine (stateCheck_any _ l1 _ HA1.out (by have := HL1.out; omega)).mono ?_
            rintro e wX ⟨rfl, he⟩
            rw [show chkE l1 = 160 by unfold chkE; rw [HR.out]; rfl]
            replace HE7 := Lib.hid (HE7.out.trans he)
            replace HG8 := Lib.hid (Cs.ext HG8.out he)
            replace HG9 := Lib.hid (Cs.ext HG9.out he)
            replace HG10 := Lib.hid (Cs.ext HG10.out he)
            replace HA1 := Lib.hid (HA1.out.ext he)
            replace HA0 := Lib.hid (HA0.out.ext he)
            replace HA8 := Lib.hid (HA8.out.ext he)
            clear he
            have HSA := Lib.hid (fun W (h : Ext wX W) => stateSame_any _ _ l1 l0 W (HA1.out.ext h) (HA0.out.ext h))
            have HSB := Lib.hid (fun W (h : Ext wX W) => refSame_any _ _ l1 l0 W (HA1.out.ext h) (HA0.out.ext h))
            have HFW := Lib.hid (fun W (h : Ext wX W) => show Calls _ _ _ W (fun e w' => ∃ v', e = .returned (.agg #[v']) ∧ Acs w' v' l1 ∧ Ext W w') from (stateFew_any _ l8 W (HA8.out.ext h)).mono (fun e w' hh => by obtain ⟨v', e1, e2, e3⟩ := hh; exact ⟨v', e1, by rw [← HL8.out]; exact e2.acs, e3⟩))
            have HSC := Lib.hid (fun (x' : Value) W (h : Ext wX W) (hx : Acs W x' l1) => show Calls _ _ _ W (fun e w' => e = .returned (.bool true) ∧ Ext W w') by have := stateSame_any _ x' l1 l1 W (HA1.out.ext h) hx; rw [(eqL_iff l1 l1).2 rfl] at this; exact this)
            generalize eqL l1 l0 = bs at *
            go_upto_region 10 with fail
            refine wp_named fun a0 ha0 => ?_
            obtain ⟨fr, hfr⟩ : ∃ fr : (Nat → Value) → Act, ∀ V, fr V = ((((((((((((((((((((((((((((a0.put (some 40) (V 0)).put (some 41) (V 1)).put (some 42) (V 2)).put (some 43) (V 3)).put (some 44) (V 4)).put (some 45) (V 5)).put (some 46) (V 6)).put (some 47) (V 7)).put (some 48) (V 8)).put (some 49) (V 9)).put (some 50) (V 10)).put (some 51) (V 11)).put (some 52) (V 12)).put (some 53) (V 13)).put (some 54) (V 14)).put (some 55) (V 15)).put (some 56) (V 16)).put (some 57) (V 17)).put (some 58) (V 18)).put (some 59) (V 19)).put (some 60) (V 20)).put (some 61) (V 21)).put (some 62) (V 22)).put (some 63) (V 23)).put (some 64) (V 24)).put (some 65) (V 25)).put (some 66) (V 26)).put (some 67) (V 27)) := ⟨fun V => ((((((((((((((((((((((((((((a0.put (some 40) (V 0)).put (some 41) (V 1)).put (some 42) (V 2)).put (some 43) (V 3)).put (some 44) (V 4)).put (some 45) (V 5)).put (some 46) (V 6)).put (some 47) (V 7)).put (some 48) (V 8)).put (some 49) (V 9)).put (some 50) (V 10)).put (some 51) (V 11)).put (some 52) (V 12)).put (some 53) (V 13)).put (some 54) (V 14)).put (some 55) (V 15)).put (some 56) (V 16)).put (some 57) (V 17)).put (some 58) (V 18)).put (some 59) (V 19)).put (some 60) (V 20)).put (some 61) (V 21)).put (some 62) (V 22)).put (some 63) (V 23)).put (some 64) (V 24)).put (some 65) (V 25)).put (some 66) (V 26)).put (some 67) (V 27)), fun _ => rfl⟩
            rw [ha0] at hfr
            simp only [Act.put, List.setIfInBounds_toArray, List.set_cons_zero, List.set_cons_succ] at hfr
            have HFR := Lib.hid hfr
            clear hfr
            refine wp_region_inv (by kernel_rfl) (by kernel_rfl) (fun L A W => ∃ V : Nat → Value, A = fr V ∧ Vals (fun j => ([some (.int .i64 160), some (.bool false), some (.bool false), some (.bool false), some (.bool false), some (.bool false), some (.bool true), some (.bool true), some (.int .i64 160), some (.bool false), some (.bool false), some (.bool false), some (.bool false), some (.agg #[.slice A9 l1.length c9]), some (.agg #[.slice A0' l0.length c0']), some (.bool bs), some (.agg #[.slice A9 l1.length c9]), some (.agg #[.slice A0' l0.length c0']), some (.bool bs), some (.bool false), some (.bool false), some (.bool false), some (.agg #[.slice A9 l1.length c9]), some (.agg #[.slice A8 l8.length c8]), none, some (.bool true), some (.bool false), some (.bool false)] : List (Option Value)).getD j none) L V ∧ (Ext wX W) ∧ (L 24 = true → StA l1 W (V 24))) ?_ ⟨?_, ?_, ?_, ?_, ?_, ?_, ?_, ?_, ?_, ?_, ?_, ?_, ?_, ?_, ?_, ?_, ?_, ?_, ?_, ?_, ?_, ?_, ?_, ?_, ?_, ?_, ?_, ?_, trivial⟩ ?_
            · refine ⟨fun j => a0.tmps.getD (([40, 41, 42, 43, 44, 45, 46, 47, 48, 49, 50, 51, 52, 53, 54, 55, 56, 57, 58, 59, 60, 61, 62, 63, 64, 65, 66, 67] : List Nat).getD j 0) undef, ?_, Vals.no _ _ _ (far_none _ _ rfl), (Ext.refl _).drew, fun h0 => absurd h0 (by decide)⟩
              rw [HFR.out, ha0]
              rfl
            all_goals clear ha0
            · rintro L A W K hL hC hW ⟨V, rfl, HV, s0, f24⟩ hK
              have H := Lib.hid (show ∀ W', Ext W W' → K (fr (upd V 0 (.int .i64 160))) W' from fun W' he => hK _ _ ⟨upd V 0 (.int .i64 160), rfl, HV.up 0 _ (fun x hx => Option.some.inj hx), Ext.trans s0 he, fun h0 => StA.ext (f24 (more_ne h0 rfl)) he⟩)
              clear hK hC hW hL HV s0 f24
              rw [HFR.out]
              go_wp2_with fail
              show K _ _
              have := H.out _ (Ext.refl _)
              rw [HFR.out] at this
              exact this
            · rintro L A W K hL hC hW ⟨V, rfl, HV, s0, f24⟩ hK
              have e0 : V 0 = .int .i64 160 := HV 0 _ rfl (hW 0 rfl)
              have H := Lib.hid (show ∀ W', Ext W W' → K (fr (upd V 1 (.bool false))) W' from fun W' he => hK _ _ ⟨upd V 1 (.bool false), rfl, HV.up 1 _ (fun x hx => Option.some.inj hx), Ext.trans s0 he, fun h0 => StA.ext (f24 (more_ne h0 rfl)) he⟩)
              have HU := Lib.hid (show (upd V 1 (.bool false)) 0 = .int .i64 160 from e0)
              clear hK hC hW hL HV s0 f24
              rw [HFR.out]
              rw [e0]
              clear e0
              go_wp2_with fail
              show K _ _
              have := H.out _ (Ext.refl _)
              rw [HFR.out] at this
              obtain u0 := HU.out
              rw [u0] at this
              exact this
            · rintro L A W K hL hC hW ⟨V, rfl, HV, s0, f24⟩ hK
              have H := Lib.hid (show ∀ W', Ext W W' → K (fr (upd V 2 (.bool false))) W' from fun W' he => hK _ _ ⟨upd V 2 (.bool false), rfl, HV.up 2 _ (fun x hx => Option.some.inj hx), Ext.trans s0 he, fun h0 => absurd (more_ne h0 rfl) (by rw [(hC.no (hC.no (hC.no (hC.no (hC.no (hC.no (hC.no hL 3 _ rfl rfl) 4 _ rfl rfl) 11 _ rfl rfl) 12 _ rfl rfl) 20 _ rfl rfl) 21 _ rfl rfl) 24 _ rfl rfl)]; simp)⟩)
              clear hK hC hW hL HV s0 f24
              rw [HFR.out]
              go_wp2_with fail
              show K _ _
              have := H.out _ (Ext.refl _)
              rw [HFR.out] at this
              exact this
            · rintro L A W K hL hC hW ⟨V, rfl, HV, s0, f24⟩ hK
              have e1 : V 1 = .bool false := HV 1 _ rfl (hW 1 rfl)
              have e2 : V 2 = .bool false := HV 2 _ rfl (hW 2 rfl)
              have H := Lib.hid (show ∀ W', Ext W W' → K (fr (upd V 3 (.bool false))) W' from fun W' he => hK _ _ ⟨upd V 3 (.bool false), rfl, HV.up 3 _ (fun x hx => Option.some.inj hx), Ext.trans s0 he, fun h0 => StA.ext (f24 (more_ne h0 rfl)) he⟩)
              have HU := Lib.hid (show (upd V 3 (.bool false)) 1 = .bool false ∧ (upd V 3 (.bool false)) 2 = .bool false from ⟨e1, e2⟩)
              clear hK hC hW hL HV s0 f24
              rw [HFR.out]
              rw [e1, e2]
              clear e1 e2
              go_wp2_with fail
              show K _ _
              have := H.out _ (Ext.refl _)
              rw [HFR.out] at this
              obtain ⟨u1, u2⟩ := HU.out
              rw [u1, u2] at this
              exact this
            · rintro L A W K hL hC hW ⟨V, rfl, HV, s0, f24⟩ hK
              have e3 : V 3 = .bool false := HV 3 _ rfl (hW 3 rfl)
              have H := Lib.hid (show ∀ W', Ext W W' → K (fr (upd V 4 (.bool false))) W' from fun W' he => hK _ _ ⟨upd V 4 (.bool false), rfl, HV.up 4 _ (fun x hx => Option.some.inj hx), Ext.trans s0 he, fun h0 => StA.ext (f24 (more_ne h0 rfl)) he⟩)
              have HU := Lib.hid (show (upd V 4 (.bool false)) 3 = .bool false from e3)
              clear hK hC hW hL HV s0 f24
              rw [HFR.out]
              rw [e3]
              clear e3
              go_wp2_with fail
              show K _ _
              have := H.out _ (Ext.refl _)
              rw [HFR.out] at this
              obtain u3 := HU.out
              rw [u3] at this
              exact this
            · rintro L A W K hL hC hW ⟨V, rfl, HV, s0, f24⟩ hK
              have e4 : V 4 = .bool false := HV 4 _ rfl (hW 4 rfl)
              have H := Lib.hid (show ∀ W', Ext W W' → K (fr (upd V 5 (.bool false))) W' from fun W' he => hK _ _ ⟨upd V 5 (.bool false), rfl, HV.up 5 _ (fun x hx => Option.some.inj hx), Ext.trans s0 he, fun h0 => StA.ext (f24 (more_ne h0 rfl)) he⟩)
              have HU := Lib.hid (show (upd V 5 (.bool false)) 4 = .bool false from e4)
              clear hK hC hW hL HV s0 f24
              rw [HFR.out]
              rw [e4]
              clear e4
              go_wp2_with fail
              show K _ _
              have := H.out _ (Ext.refl _)
              rw [HFR.out] at this
              obtain u4 := HU.out
              rw [u4] at this
              exact this
            · rintro L A W K hL hC hW ⟨V, rfl, HV, s0, f24⟩ hK
              have e4 : V 4 = .bool false := HV 4 _ rfl (hW 4 rfl)
              have e5 : V 5 = .bool false := HV 5 _ rfl (hW 5 rfl)
              have H := Lib.hid (show ∀ W', Ext W W' → K (fr (upd V 6 (.bool true))) W' from fun W' he => hK _ _ ⟨upd V 6 (.bool true), rfl, HV.up 6 _ (fun x hx => Option.some.inj hx), Ext.trans s0 he, fun h0 => StA.ext (f24 (more_ne h0 rfl)) he⟩)
              have HU := Lib.hid (show (upd V 6 (.bool true)) 4 = .bool false ∧ (upd V 6 (.bool true)) 5 = .bool false from ⟨e4, e5⟩)
              clear hK hC hW hL HV s0 f24
              rw [HFR.out]
              rw [e4, e5]
              clear e4 e5
              go_wp2_with fail
              show K _ _
              have := H.out _ (Ext.refl _)
              rw [HFR.out] at this
              obtain ⟨u4, u5⟩ := HU.out
              rw [u4, u5] at this
              exact this
            · rintro L A W K hL hC hW ⟨V, rfl, HV, s0, f24⟩ hK
              have e4 : V 4 = .bool false := HV 4 _ rfl (hW 4 rfl)
              have e6 : V 6 = .bool true := HV 6 _ rfl (hW 6 rfl)
              have H := Lib.hid (show ∀ W', Ext W W' → K (fr (upd V 7 (.bool true))) W' from fun W' he => hK _ _ ⟨upd V 7 (.bool true), rfl, HV.up 7 _ (fun x hx => Option.some.inj hx), Ext.trans s0 he, fun h0 => StA.ext (f24 (more_ne h0 rfl)) he⟩)
              have HU := Lib.hid (show (upd V 7 (.bool true)) 4 = .bool false ∧ (upd V 7 (.bool true)) 6 = .bool true from ⟨e4, e6⟩)
              clear hK hC hW hL HV s0 f24
              rw [HFR.out]
              rw [e4, e6]
              clear e4 e6
              go_wp2_with fail
              show K _ _
              have := H.out _ (Ext.refl _)
              rw [HFR.out] at this
              obtain ⟨u4, u6⟩ := HU.out
              rw [u4, u6] at this
              exact this
            · rintro L A W K hL hC hW ⟨V, rfl, HV, s0, f24⟩ hK
              have e7 : V 7 = .bool true := HV 7 _ rfl (hW 7 rfl)
              have H := Lib.hid (show ∀ W', Ext W W' → K (fr (upd V 8 (.int .i64 160))) W' from fun W' he => hK _ _ ⟨upd V 8 (.int .i64 160), rfl, HV.up 8 _ (fun x hx => Option.some.inj hx), Ext.trans s0 he, fun h0 => StA.ext (f24 (more_ne h0 rfl)) he⟩)
              have HU := Lib.hid (show (upd V 8 (.int .i64 160)) 7 = .bool true from e7)
              clear hK hC hW hL HV s0 f24
              rw [HFR.out]
              rw [e7]
              clear e7
              go_wp2_with fail
              show K _ _
              have := H.out _ (Ext.refl _)
              rw [HFR.out] at this
              obtain u7 := HU.out
              rw [u7] at this
              exact this
            · rintro L A W K hL hC hW ⟨V, rfl, HV, s0, f24⟩ hK
              have e7 : V 7 = .bool true := HV 7 _ rfl (hW 7 rfl)
              have e8 : V 8 = .int .i64 160 := HV 8 _ rfl (hW 8 rfl)
              have H := Lib.hid (show ∀ W', Ext W W' → K (fr (upd V 9 (.bool false))) W' from fun W' he => hK _ _ ⟨upd V 9 (.bool false), rfl, HV.up 9 _ (fun x hx => Option.some.inj hx), Ext.trans s0 he, fun h0 => StA.ext (f24 (more_ne h0 rfl)) he⟩)
              have HU := Lib.hid (show (upd V 9 (.bool false)) 7 = .bool true ∧ (upd V 9 (.bool false)) 8 = .int .i64 160 from ⟨e7, e8⟩)
              clear hK hC hW hL HV s0 f24
              rw [HFR.out]
              rw [e7, e8]
              clear e7 e8
              go_wp2_with fail
              show K _ _
              have := H.out _ (Ext.refl _)
              rw [HFR.out] at this
              obtain ⟨u7, u8⟩ := HU.out
              rw [u7, u8] at this
              exact this
            · rintro L A W K hL hC hW ⟨V, rfl, HV, s0, f24⟩ hK
              have e4 : V 4 = .bool false := HV 4 _ rfl (hW 4 rfl)
              have e7 : V 7 = .bool true := HV 7 _ rfl (hW 7 rfl)
              have e9 : V 9 = .bool false := HV 9 _ rfl (hW 9 rfl)
              have H := Lib.hid (show ∀ W', Ext W W' → K (fr (upd V 10 (.bool false))) W' from fun W' he => hK _ _ ⟨upd V 10 (.bool false), rfl, HV.up 10 _ (fun x hx => Option.some.inj hx), Ext.trans s0 he, fun h0 => StA.ext (f24 (more_ne h0 rfl)) he⟩)
              have HU := Lib.hid (show (upd V 10 (.bool false)) 4 = .bool false ∧ (upd V 10 (.bool false)) 7 = .bool true ∧ (upd V 10 (.bool false)) 9 = .bool false from ⟨e4, e7, e9⟩)
              clear hK hC hW hL HV s0 f24
              rw [HFR.out]
              rw [e4, e7, e9]
              clear e4 e7 e9
              go_wp2_with fail
              show K _ _
              have := H.out _ (Ext.refl _)
              rw [HFR.out] at this
              obtain ⟨u4, u7, u9⟩ := HU.out
              rw [u4, u7, u9] at this
              exact this
            · rintro L A W K hL hC hW ⟨V, rfl, HV, s0, f24⟩ hK
              have e4 : V 4 = .bool false := HV 4 _ rfl (hW 4 rfl)
              have e10 : V 10 = .bool false := HV 10 _ rfl (hW 10 rfl)
              have H := Lib.hid (show ∀ W', Ext W W' → K (fr (upd V 11 (.bool false))) W' from fun W' he => hK _ _ ⟨upd V 11 (.bool false), rfl, HV.up 11 _ (fun x hx => Option.some.inj hx), Ext.trans s0 he, fun h0 => StA.ext (f24 (more_ne h0 rfl)) he⟩)
              have HU := Lib.hid (show (upd V 11 (.bool false)) 4 = .bool false ∧ (upd V 11 (.bool false)) 10 = .bool false from ⟨e4, e10⟩)
              clear hK hC hW hL HV s0 f24
              rw [HFR.out]
              rw [e4, e10]
              clear e4 e10
              go_wp2_with fail
              show K _ _
              have := H.out _ (Ext.refl _)
              rw [HFR.out] at this
              obtain ⟨u4, u10⟩ := HU.out
              rw [u4, u10] at this
              exact this
            · rintro L A W K hL hC hW ⟨V, rfl, HV, s0, f24⟩ hK
              have e11 : V 11 = .bool false := HV 11 _ rfl (hW 11 rfl)
              have H := Lib.hid (show ∀ W', Ext W W' → K (fr (upd V 12 (.bool false))) W' from fun W' he => hK _ _ ⟨upd V 12 (.bool false), rfl, HV.up 12 _ (fun x hx => Option.some.inj hx), Ext.trans s0 he, fun h0 => StA.ext (f24 (more_ne h0 rfl)) he⟩)
              have HU := Lib.hid (show (upd V 12 (.bool false)) 11 = .bool false from e11)
              clear hK hC hW hL HV s0 f24
              rw [HFR.out]
              rw [e11]
              clear e11
              go_wp2_with fail
              show K _ _
              have := H.out _ (Ext.refl _)
              rw [HFR.out] at this
              obtain u11 := HU.out
              rw [u11] at this
              exact this
            · rintro L A W K hL hC hW ⟨V, rfl, HV, s0, f24⟩ hK
              have e12 : V 12 = .bool false := HV 12 _ rfl (hW 12 rfl)
              have hB := s0
              have H := Lib.hid (show ∀ W', Ext W W' → K (fr (upd V 13 (.agg #[.slice A9 l1.length c9]))) W' from fun W' he => hK _ _ ⟨upd V 13 (.agg #[.slice A9 l1.length c9]), rfl, HV.up 13 _ (fun x hx => Option.some.inj hx), Ext.trans s0 he, fun h0 => StA.ext (f24 (more_ne h0 rfl)) he⟩)
              have HU := Lib.hid (show (upd V 13 (.agg #[.slice A9 l1.length c9])) 12 = .bool false from e12)
              clear hK hC hW hL HV s0 f24
              rw [HFR.out]
              rw [e12]
              clear e12
              have hcl := (Cs.ext HG9.out hB).cell 0 _ rfl
              clear hB
              go_wp2_with fail
              show K _ _
              have := H.out _ (Ext.refl _)
              rw [HFR.out] at this
              obtain u12 := HU.out
              rw [u12] at this
              exact this
            · rintro L A W K hL hC hW ⟨V, rfl, HV, s0, f24⟩ hK
              have e12 : V 12 = .bool false := HV 12 _ rfl (hW 12 rfl)
              have hB := s0
              have H := Lib.hid (show ∀ W', Ext W W' → K (fr (upd V 14 (.agg #[.slice A0' l0.length c0']))) W' from fun W' he => hK _ _ ⟨upd V 14 (.agg #[.slice A0' l0.length c0']), rfl, HV.up 14 _ (fun x hx => Option.some.inj hx), Ext.trans s0 he, fun h0 => StA.ext (f24 (more_ne h0 rfl)) he⟩)
              have HU := Lib.hid (show (upd V 14 (.agg #[.slice A0' l0.length c0'])) 12 = .bool false from e12)
              clear hK hC hW hL HV s0 f24
              rw [HFR.out]
              rw [e12]
              clear e12
              have hcl := (Cs.ext HG10.out hB).cell 0 _ rfl
              clear hB
              go_wp2_with fail
              show K _ _
              have := H.out _ (Ext.refl _)
              rw [HFR.out] at this
              obtain u12 := HU.out
              rw [u12] at this
              exact this
            · rintro L A W K hL hC hW ⟨V, rfl, HV, s0, f24⟩ hK
              have e12 : V 12 = .bool false := HV 12 _ rfl (hW 12 rfl)
              have e13 : V 13 = .agg #[.slice A9 l1.length c9] := HV 13 _ rfl (hW 13 rfl)
              have e14 : V 14 = .agg #[.slice A0' l0.length c0'] := HV 14 _ rfl (hW 14 rfl)
              have hB := s0
              have H := Lib.hid (show ∀ W', Ext W W' → K (fr (upd V 15 (.bool bs))) W' from fun W' he => hK _ _ ⟨upd V 15 (.bool bs), rfl, HV.up 15 _ (fun x hx => Option.some.inj hx), Ext.trans s0 he, fun h0 => StA.ext (f24 (more_ne h0 rfl)) he⟩)
              have HU := Lib.hid (show (upd V 15 (.bool bs)) 12 = .bool false ∧ (upd V 15 (.bool bs)) 13 = .agg #[.slice A9 l1.length c9] ∧ (upd V 15 (.bool bs)) 14 = .agg #[.slice A0' l0.length c0'] from ⟨e12, e13, e14⟩)
              clear hK hC hW hL HV s0 f24
              rw [HFR.out]
              rw [e12, e13, e14]
              clear e12 e13 e14
              have HB' := Lib.hid hB
              clear hB
              go_wp2_with fail
              refine (HSA.out _ HB'.out).mono ?_
              rintro e wx ⟨rfl, he⟩
              have := H.out _ he
              clear H
              go_wp2_with fail
              show K _ _
              rw [HFR.out] at this
              obtain ⟨u12, u13, u14⟩ := HU.out
              rw [u12, u13, u14] at this
              exact this
            · rintro L A W K hL hC hW ⟨V, rfl, HV, s0, f24⟩ hK
              have e12 : V 12 = .bool false := HV 12 _ rfl (hW 12 rfl)
              have hB := s0
              have H := Lib.hid (show ∀ W', Ext W W' → K (fr (upd V 16 (.agg #[.slice A9 l1.length c9]))) W' from fun W' he => hK _ _ ⟨upd V 16 (.agg #[.slice A9 l1.length c9]), rfl, HV.up 16 _ (fun x hx => Option.some.inj hx), Ext.trans s0 he, fun h0 => StA.ext (f24 (more_ne h0 rfl)) he⟩)
              have HU := Lib.hid (show (upd V 16 (.agg #[.slice A9 l1.length c9])) 12 = .bool false from e12)
              clear hK hC hW hL HV s0 f24
              rw [HFR.out]
              rw [e12]
              clear e12
              have hcl := (Cs.ext HG9.out hB).cell 0 _ rfl
              clear hB
              go_wp2_with fail
              show K _ _
              have := H.out _ (Ext.refl _)
              rw [HFR.out] at this
              obtain u12 := HU.out
              rw [u12] at this
              exact this
            · rintro L A W K hL hC hW ⟨V, rfl, HV, s0, f24⟩ hK
              have e12 : V 12 = .bool false := HV 12 _ rfl (hW 12 rfl)
              have hB := s0
              have H := Lib.hid (show ∀ W', Ext W W' → K (fr (upd V 17 (.agg #[.slice A0' l0.length c0']))) W' from fun W' he => hK _ _ ⟨upd V 17 (.agg #[.slice A0' l0.length c0']), rfl, HV.up 17 _ (fun x hx => Option.some.inj hx), Ext.trans s0 he, fun h0 => StA.ext (f24 (more_ne h0 rfl)) he⟩)
              have HU := Lib.hid (show (upd V 17 (.agg #[.slice A0' l0.length c0'])) 12 = .bool false from e12)
              clear hK hC hW hL HV s0 f24
              rw [HFR.out]
              rw [e12]
              clear e12
              have hcl := (Cs.ext HG10.out hB).cell 0 _ rfl
              clear hB
              go_wp2_with fail
              show K _ _
              have := H.out _ (Ext.refl _)
              rw [HFR.out] at this
              obtain u12 := HU.out
              rw [u12] at this
              exact this
            · rintro L A W K hL hC hW ⟨V, rfl, HV, s0, f24⟩ hK
              have e12 : V 12 = .bool false := HV 12 _ rfl (hW 12 rfl)
              have e16 : V 16 = .agg #[.slice A9 l1.length c9] := HV 16 _ rfl (hW 16 rfl)
              have e17 : V 17 = .agg #[.slice A0' l0.length c0'] := HV 17 _ rfl (hW 17 rfl)
              have hB := s0
              have H := Lib.hid (show ∀ W', Ext W W' → K (fr (upd V 18 (.bool bs))) W' from fun W' he => hK _ _ ⟨upd V 18 (.bool bs), rfl, HV.up 18 _ (fun x hx => Option.some.inj hx), Ext.trans s0 he, fun h0 => StA.ext (f24 (more_ne h0 rfl)) he⟩)
              have HU := Lib.hid (show (upd V 18 (.bool bs)) 12 = .bool false ∧ (upd V 18 (.bool bs)) 16 = .agg #[.slice A9 l1.length c9] ∧ (upd V 18 (.bool bs)) 17 = .agg #[.slice A0' l0.length c0'] from ⟨e12, e16, e17⟩)
              clear hK hC hW hL HV s0 f24
              rw [HFR.out]
              rw [e12, e16, e17]
              clear e12 e16 e17
              have HB' := Lib.hid hB
              clear hB
              go_wp2_with fail
              refine (HSB.out _ HB'.out).mono ?_
              rintro e wx ⟨rfl, he⟩
              have := H.out _ he
              clear H
              go_wp2_with fail
              show K _ _
              rw [HFR.out] at this
              obtain ⟨u12, u16, u17⟩ := HU.out
              rw [u12, u16, u17] at this
              exact this
            · rintro L A W K hL hC hW ⟨V, rfl, HV, s0, f24⟩ hK
              have e12 : V 12 = .bool false := HV 12 _ rfl (hW 12 rfl)
              have e15 : V 15 = .bool bs := HV 15 _ rfl (hW 15 rfl)
              have e18 : V 18 = .bool bs := HV 18 _ rfl (hW 18 rfl)
              have H := Lib.hid (show ∀ W', Ext W W' → K (fr (upd V 19 (.bool false))) W' from fun W' he => hK _ _ ⟨upd V 19 (.bool false), rfl, HV.up 19 _ (fun x hx => Option.some.inj hx), Ext.trans s0 he, fun h0 => StA.ext (f24 (more_ne h0 rfl)) he⟩)
              have HU := Lib.hid (show (upd V 19 (.bool false)) 12 = .bool false ∧ (upd V 19 (.bool false)) 15 = .bool bs ∧ (upd V 19 (.bool false)) 18 = .bool bs from ⟨e12, e15, e18⟩)
              clear hK hC hW hL HV s0 f24
              rw [HFR.out]
              rw [e12, e15, e18]
              clear e12 e15 e18
              go_wp2_with fail
              show K _ _
              have := H.out _ (Ext.refl _)
              rw [HFR.out] at this
              obtain ⟨u12, u15, u18⟩ := HU.out
              rw [u12, u15, u18] at this
              exact this
            · rintro L A W K hL hC hW ⟨V, rfl, HV, s0, f24⟩ hK
              have e12 : V 12 = .bool false := HV 12 _ rfl (hW 12 rfl)
              have e19 : V 19 = .bool false := HV 19 _ rfl (hW 19 rfl)
              have H := Lib.hid (show ∀ W', Ext W W' → K (fr (upd V 20 (.bool false))) W' from fun W' he => hK _ _ ⟨upd V 20 (.bool false), rfl, HV.up 20 _ (fun x hx => Option.some.inj hx), Ext.trans s0 he, fun h0 => StA.ext (f24 (more_ne h0 rfl)) he⟩)
              have HU := Lib.hid (show (upd V 20 (.bool false)) 12 = .bool false ∧ (upd V 20 (.bool false)) 19 = .bool false from ⟨e12, e19⟩)
              clear hK hC hW hL HV s0 f24
              rw [HFR.out]
              rw [e12, e19]
              clear e12 e19
              go_wp2_with fail
              show K _ _
              have := H.out _ (Ext.refl _)
              rw [HFR.out] at this
              obtain ⟨u12, u19⟩ := HU.out
              rw [u12, u19] at this
              exact this
            · rintro L A W K hL hC hW ⟨V, rfl, HV, s0, f24⟩ hK
              have e20 : V 20 = .bool false := HV 20 _ rfl (hW 20 rfl)
              have H := Lib.hid (show ∀ W', Ext W W' → K (fr (upd V 21 (.bool false))) W' from fun W' he => hK _ _ ⟨upd V 21 (.bool false), rfl, HV.up 21 _ (fun x hx => Option.some.inj hx), Ext.trans s0 he, fun h0 => StA.ext (f24 (more_ne h0 rfl)) he⟩)
              have HU := Lib.hid (show (upd V 21 (.bool false)) 20 = .bool false from e20)
              clear hK hC hW hL HV s0 f24
              rw [HFR.out]
              rw [e20]
              clear e20
              go_wp2_with fail
              show K _ _
              have := H.out _ (Ext.refl _)
              rw [HFR.out] at this
              obtain u20 := HU.out
              rw [u20] at this
              exact this
            · rintro L A W K hL hC hW ⟨V, rfl, HV, s0, f24⟩ hK
              have e21 : V 21 = .bool false := HV 21 _ rfl (hW 21 rfl)
              have hB := s0
              have H := Lib.hid (show ∀ W', Ext W W' → K (fr (upd V 22 (.agg #[.slice A9 l1.length c9]))) W' from fun W' he => hK _ _ ⟨upd V 22 (.agg #[.slice A9 l1.length c9]), rfl, HV.up 22 _ (fun x hx => Option.some.inj hx), Ext.trans s0 he, fun h0 => StA.ext (f24 (more_ne h0 rfl)) he⟩)
              have HU := Lib.hid (show (upd V 22 (.agg #[.slice A9 l1.length c9])) 21 = .bool false from e21)
              clear hK hC hW hL HV s0 f24
              rw [HFR.out]
              rw [e21]
              clear e21
              have hcl := (Cs.ext HG9.out hB).cell 0 _ rfl
              clear hB
              go_wp2_with fail
              show K _ _
              have := H.out _ (Ext.refl _)
              rw [HFR.out] at this
              obtain u21 := HU.out
              rw [u21] at this
              exact this
            · rintro L A W K hL hC hW ⟨V, rfl, HV, s0, f24⟩ hK
              have e21 : V 21 = .bool false := HV 21 _ rfl (hW 21 rfl)
              have hB := s0
              have H := Lib.hid (show ∀ W', Ext W W' → K (fr (upd V 23 (.agg #[.slice A8 l8.length c8]))) W' from fun W' he => hK _ _ ⟨upd V 23 (.agg #[.slice A8 l8.length c8]), rfl, HV.up 23 _ (fun x hx => Option.some.inj hx), Ext.trans s0 he, fun h0 => StA.ext (f24 (more_ne h0 rfl)) he⟩)
              have HU := Lib.hid (show (upd V 23 (.agg #[.slice A8 l8.length c8])) 21 = .bool false from e21)
              clear hK hC hW hL HV s0 f24
              rw [HFR.out]
              rw [e21]
              clear e21
              have hcl := (Cs.ext HG8.out hB).cell 0 _ rfl
              clear hB
              go_wp2_with fail
              show K _ _
              have := H.out _ (Ext.refl _)
              rw [HFR.out] at this
              obtain u21 := HU.out
              rw [u21] at this
              exact this
            · rintro L A W K hL hC hW ⟨V, rfl, HV, s0, f24⟩ hK
              have e21 : V 21 = .bool false := HV 21 _ rfl (hW 21 rfl)
              have e23 : V 23 = .agg #[.slice A8 l8.length c8] := HV 23 _ rfl (hW 23 rfl)
              have hB := s0
              have H := Lib.hid (show ∀ v W', Ext W W' → (StA l1 W' v) → K (fr (upd V 24 v)) W' from fun v W' he hp => hK _ _ ⟨upd V 24 v, rfl, HV.up 24 _ (fun x hx => absurd hx (by intro h; cases h)), Ext.trans s0 he, fun h0 => hp⟩)
              have HU := Lib.hid (show ∀ v, (upd V 24 v) 21 = .bool false ∧ (upd V 24 v) 23 = .agg #[.slice A8 l8.length c8] from fun v => ⟨e21, e23⟩)
              clear hK hC hW hL HV s0 f24
              rw [HFR.out]
              rw [e21, e23]
              clear e21 e23
              have HB' := Lib.hid hB
              clear hB
              go_wp2_with fail
              refine (HFW.out _ HB'.out).mono ?_
              rintro e wx ⟨v', rfl, hr', he⟩
              have := H.out _ _ he (⟨v', rfl, hr'⟩)
              clear H
              go_wp2_with fail
              show K _ _
              rw [HFR.out] at this
              obtain ⟨u21, u23⟩ := HU.out _
              rw [u21, u23] at this
              exact this
            · rintro L A W K hL hC hW ⟨V, rfl, HV, s0, f24⟩ hK
              have e21 : V 21 = .bool false := HV 21 _ rfl (hW 21 rfl)
              have e22 : V 22 = .agg #[.slice A9 l1.length c9] := HV 22 _ rfl (hW 22 rfl)
              have hB := s0
              have q24 := f24 (hW 24 rfl)
              obtain ⟨x24, e24, z24⟩ := q24
              have H := Lib.hid (show ∀ W', Ext W W' → K (fr (upd V 25 (.bool true))) W' from fun W' he => hK _ _ ⟨upd V 25 (.bool true), rfl, HV.up 25 _ (fun x hx => Option.some.inj hx), Ext.trans s0 he, fun h0 => StA.ext (f24 (more_ne h0 rfl)) he⟩)
              have HU := Lib.hid (show (upd V 25 (.bool true)) 21 = .bool false ∧ (upd V 25 (.bool true)) 22 = .agg #[.slice A9 l1.length c9] ∧ (upd V 25 (.bool true)) 24 = .agg #[x24] from ⟨e21, e22, e24⟩)
              clear hK hC hW hL HV s0 f24
              rw [HFR.out]
              rw [e21, e22, e24]
              clear e21 e22 e24
              have HB' := Lib.hid hB
              have Z24 := Lib.hid z24
              clear hB z24
              go_wp2_with fail
              refine (HSC.out _ _ HB'.out Z24.out).mono ?_
              rintro e wx ⟨rfl, he⟩
              have := H.out _ he
              clear H
              go_wp2_with fail
              show K _ _
              rw [HFR.out] at this
              obtain ⟨u21, u22, u24⟩ := HU.out
              rw [u21, u22, u24] at this
              exact this
            · rintro L A W K hL hC hW ⟨V, rfl, HV, s0, f24⟩ hK
              have e21 : V 21 = .bool false := HV 21 _ rfl (hW 21 rfl)
              have e25 : V 25 = .bool true := HV 25 _ rfl (hW 25 rfl)
              have H := Lib.hid (show ∀ W', Ext W W' → K (fr (upd V 26 (.bool false))) W' from fun W' he => hK _ _ ⟨upd V 26 (.bool false), rfl, HV.up 26 _ (fun x hx => Option.some.inj hx), Ext.trans s0 he, fun h0 => StA.ext (f24 (more_ne h0 rfl)) he⟩)
              have HU := Lib.hid (show (upd V 26 (.bool false)) 21 = .bool false ∧ (upd V 26 (.bool false)) 25 = .bool true from ⟨e21, e25⟩)
              clear hK hC hW hL HV s0 f24
              rw [HFR.out]
              rw [e21, e25]
              clear e21 e25
              go_wp2_with fail
              show K _ _
              have := H.out _ (Ext.refl _)
              rw [HFR.out] at this
              obtain ⟨u21, u25⟩ := HU.out
              rw [u21, u25] at this
              exact this
            · rintro L A W K hL hC hW ⟨V, rfl, HV, s0, f24⟩ hK
              have e21 : V 21 = .bool false := HV 21 _ rfl (hW 21 rfl)
              have e26 : V 26 = .bool false := HV 26 _ rfl (hW 26 rfl)
              have H := Lib.hid (show ∀ W', Ext W W' → K (fr (upd V 27 (.bool false))) W' from fun W' he => hK _ _ ⟨upd V 27 (.bool false), rfl, HV.up 27 _ (fun x hx => Option.some.inj hx), Ext.trans s0 he, fun h0 => StA.ext (f24 (more_ne h0 rfl)) he⟩)
              have HU := Lib.hid (show (upd V 27 (.bool false)) 21 = .bool false ∧ (upd V 27 (.bool false)) 26 = .bool false from ⟨e21, e26⟩)
              clear hK hC hW hL HV s0 f24
              rw [HFR.out]
              rw [e21, e26]
              clear e21 e26
              go_wp2_with fail
              show K _ _
              have := H.out _ (Ext.refl _)
              rw [HFR.out] at this
              obtain ⟨u21, u26⟩ := HU.out
              rw [u21, u26] at this
              exact this
            · rintro L A W10 hL ⟨V, rfl, HV, s0, f24⟩
              have e0 : V 0 = .int .i64 160 := HV 0 _ rfl (hL 0 (by simp))
              have e1 : V 1 = .bool false := HV 1 _ rfl (hL 1 (by simp))
              have e2 : V 2 = .bool false := HV 2 _ rfl (hL 2 (by simp))
              have e3 : V 3 = .bool false := HV 3 _ rfl (hL 3 (by simp))
              have e4 : V 4 = .bool false := HV 4 _ rfl (hL 4 (by simp))
              have e5 : V 5 = .bool false := HV 5 _ rfl (hL 5 (by simp))
              have e6 : V 6 = .bool true := HV 6 _ rfl (hL 6 (by simp))
              have e7 : V 7 = .bool true := HV 7 _ rfl (hL 7 (by simp))
              have e8 : V 8 = .int .i64 160 := HV 8 _ rfl (hL 8 (by simp))
              have e9 : V 9 = .bool false := HV 9 _ rfl (hL 9 (by simp))
              have e10 : V 10 = .bool false := HV 10 _ rfl (hL 10 (by simp))
              have e11 : V 11 = .bool false := HV 11 _ rfl (hL 11 (by simp))
              have e12 : V 12 = .bool false := HV 12 _ rfl (hL 12 (by simp))
              have e13 : V 13 = .agg #[.slice A9 l1.length c9] := HV 13 _ rfl (hL 13 (by simp))
              have e14 : V 14 = .agg #[.slice A0' l0.length c0'] := HV 14 _ rfl (hL 14 (by simp))
              have e15 : V 15 = .bool bs := HV 15 _ rfl (hL 15 (by simp))
              have e16 : V 16 = .agg #[.slice A9 l1.length c9] := HV 16 _ rfl (hL 16 (by simp))
              have e17 : V 17 = .agg #[.slice A0' l0.length c0'] := HV 17 _ rfl (hL 17 (by simp))
              have e18 : V 18 = .bool bs := HV 18 _ rfl (hL 18 (by simp))
              have e19 : V 19 = .bool false := HV 19 _ rfl (hL 19 (by simp))
              have e20 : V 20 = .bool false := HV 20 _ rfl (hL 20 (by simp))
              have e21 : V 21 = .bool false := HV 21 _ rfl (hL 21 (by simp))
              have e22 : V 22 = .agg #[.slice A9 l1.length c9] := HV 22 _ rfl (hL 22 (by simp))
              have e23 : V 23 = .agg #[.slice A8 l8.length c8] := HV 23 _ rfl (hL 23 (by simp))
              have e25 : V 25 = .bool true := HV 25 _ rfl (hL 25 (by simp))
              have e26 : V 26 = .bool false := HV 26 _ rfl (hL 26 (by simp))
              have e27 : V 27 = .bool false := HV 27 _ rfl (hL 27 (by simp))
              have hA := s0
              have p64 := f24 (hL 24 (by simp))
              rw [HFR.out]
              rw [e0, e1, e2, e3, e4, e5, e6, e7, e8, e9, e10, e11, e12, e13, e14, e15, e16, e17, e18, e19, e20, e21, e22, e23, e25, e26, e27]
              clear hL HV HFR e0 e1 e2 e3 e4 e5 e6 e7 e8 e9 e10 e11 e12 e13 e14 e15 e16 e17 e18 e19 e20 e21 e22 e23 e25 e26 e27 s0 f24
              have HZ := Lib.hid hA
              clear hA p64 HSA HSB HFW HSC
              replace HE7 := Lib.hid (HE7.out.trans HZ.out)
              replace HG9 := Lib.hid (Cs.ext HG9.out HZ.out)
              replace HA1 := Lib.hid (HA1.out.ext HZ.out)
              clear HZ HG8 HG10 HA0 HA8
              go_upto_region 13 with fail
              obtain ⟨w13, hw13⟩ : ∃ x, W10.alloc (.cells (wc 0) 31) = x := ⟨_, rfl⟩
              rw [show W10.alloc (.cells #[.int .u64 0, .int .u64 0, .int .u64 0, .int .u64 0] 31) = w13 from hw13]
              have HT0 : Hid (Cs w13 W10.heap.size 31 (wc 0)) := Lib.hid (by rw [← hw13]; exact Cs.new _ _ _ _ rfl)
              have HX13 : Hid (Ext W10 w13) := Lib.hid (by rw [← hw13]; exact (Ext.refl _).alloc _)
              have HZS := Lib.hid (Nat.le_refl W10.heap.size)
              clear hw13
              obtain ⟨g13, hg13⟩ : ∃ g, W10.heap.size = g := ⟨_, rfl⟩
              have HZS := Lib.hid (show W10.heap.size ≤ g13 by omega)
              rw [hg13] at HT0 ⊢
              clear hg13
              go_upto_region 15 with fail
              obtain ⟨tt, htt⟩ : ∃ x, (0 : Nat) = x := ⟨_, rfl⟩
              have HTN := Lib.hid (show totN l1 = tt by unfold totN; rw [HR.out, ← htt]; rfl)
              have HTL := Lib.hid (show tt < M256 by rw [← htt]; decide)
              have HT : Hid (Wd w13 g13 31 tt) := Lib.hid (by rw [← htt]; exact HT0.out)
              clear htt HT0
              obtain ⟨wX, hwX⟩ : ∃ x, w13 = x := ⟨_, rfl⟩
              rw [hwX] at HT HX13 ⊢
              have HXT := Lib.hid HX13.out
              clear hwX HX13
              replace HE7 := Lib.hid (HE7.out.trans HXT.out)
              replace HG9 := Lib.hid (Cs.ext HG9.out HXT.out)
              replace HA1 := Lib.hid (HA1.out.ext HXT.out)
              clear HXT HZS
              have HTT := Lib.hid (fun W (h : Ext wX W) => show Calls _ _ _ W (fun e w' => e = .returned (wv tt) ∧ Ext W w') by have := stateTotal_any _ l1 W (HA1.out.ext h) (by have := HL1.out; omega); rw [HTN.out] at this; exact this)
              refine wp_named fun a0 ha0 => ?_
              obtain ⟨fr, hfr⟩ : ∃ fr : (Nat → Value) → Act, ∀ V, fr V = ((((a0.put (some 76) (V 0)).put (some 77) (V 1)).put (some 78) (V 2)).put (some 79) (V 3)) := ⟨fun V => ((((a0.put (some 76) (V 0)).put (some 77) (V 1)).put (some 78) (V 2)).put (some 79) (V 3)), fun _ => rfl⟩
              rw [ha0] at hfr
              simp only [Act.put, List.setIfInBounds_toArray, List.set_cons_zero, List.set_cons_succ] at hfr
              have HFR := Lib.hid hfr
              clear hfr
              refine wp_region_inv (by kernel_rfl) (by kernel_rfl) (fun L A W => ∃ V : Nat → Value, A = fr V ∧ Vals (fun j => ([some (.agg #[.slice A9 l1.length c9]), some (wv tt), some (wv tt), some (.bool false)] : List (Option Value)).getD j none) L V ∧ (Ext wX W)) ?_ ⟨?_, ?_, ?_, ?_, trivial⟩ ?_
              · refine ⟨fun j => a0.tmps.getD (([76, 77, 78, 79] : List Nat).getD j 0) undef, ?_, Vals.no _ _ _ (far_none _ _ rfl), (Ext.refl _).drew⟩
                rw [HFR.out, ha0]
                rfl
              all_goals clear ha0
              · rintro L A W K hL hC hW ⟨V, rfl, HV, s0⟩ hK
                have hB := s0
                have H := Lib.hid (show ∀ W', Ext W W' → K (fr (upd V 0 (.agg #[.slice A9 l1.length c9]))) W' from fun W' he => hK _ _ ⟨upd V 0 (.agg #[.slice A9 l1.length c9]), rfl, HV.up 0 _ (fun x hx => Option.some.inj hx), Ext.trans s0 he⟩)
                clear hK hC hW hL HV s0
                rw [HFR.out]
                have hcl := (Cs.ext HG9.out hB).cell 0 _ rfl
                clear hB
                go_wp2_with fail
                show K _ _
                have := H.out _ (Ext.refl _)
                rw [HFR.out] at this
                exact this
              · rintro L A W K hL hC hW ⟨V, rfl, HV, s0⟩ hK
                have e0 : V 0 = .agg #[.slice A9 l1.length c9] := HV 0 _ rfl (hW 0 rfl)
                have hB := s0
                have H := Lib.hid (show ∀ W', Ext W W' → K (fr (upd V 1 (wv tt))) W' from fun W' he => hK _ _ ⟨upd V 1 (wv tt), rfl, HV.up 1 _ (fun x hx => Option.some.inj hx), Ext.trans s0 he⟩)
                have HU := Lib.hid (show (upd V 1 (wv tt)) 0 = .agg #[.slice A9 l1.length c9] from e0)
                clear hK hC hW hL HV s0
                rw [HFR.out]
                rw [e0]
                clear e0
                have HB' := Lib.hid hB
                clear hB
                go_wp2_with fail
                refine (HTT.out _ HB'.out).mono ?_
                rintro e wx ⟨rfl, he⟩
                have := H.out _ he
                clear H
                go_wp2_with fail
                show K _ _
                rw [HFR.out] at this
                obtain u0 := HU.out
                rw [u0] at this
                exact this
              · rintro L A W K hL hC hW ⟨V, rfl, HV, s0⟩ hK
                have hB := s0
                have H := Lib.hid (show ∀ W', Ext W W' → K (fr (upd V 2 (wv tt))) W' from fun W' he => hK _ _ ⟨upd V 2 (wv tt), rfl, HV.up 2 _ (fun x hx => Option.some.inj hx), Ext.trans s0 he⟩)
                clear hK hC hW hL HV s0
                rw [HFR.out]
                have HCR := Lib.hid (Cs.range0' (Cs.ext HT.out hB))
                clear hB
                ((with_reducible refine wpList_load_wordIn ?_ (.tmp 13) ?_ g13 0 (tt) ?_ ?_ ?_); (exact rfl); (exact rfl); (exact rfl); (exact HCR.out))
                show K _ _
                have := H.out _ (Ext.refl _)
                rw [HFR.out] at this
                exact this
              · rintro L A W K hL hC hW ⟨V, rfl, HV, s0⟩ hK
                have e1 : V 1 = wv tt := HV 1 _ rfl (hW 1 rfl)
                have e2 : V 2 = wv tt := HV 2 _ rfl (hW 2 rfl)
                have hB := s0
                have H := Lib.hid (show ∀ W', Ext W W' → K (fr (upd V 3 (.bool false))) W' from fun W' he => hK _ _ ⟨upd V 3 (.bool false), rfl, HV.up 3 _ (fun x hx => Option.some.inj hx), Ext.trans s0 he⟩)
                have HU := Lib.hid (show (upd V 3 (.bool false)) 1 = wv tt ∧ (upd V 3 (.bool false)) 2 = wv tt from ⟨e1, e2⟩)
                clear hK hC hW hL HV s0
                rw [HFR.out]
                rw [e1, e2]
                clear e1 e2
                clear hB
                ((with_reducible refine wpList_neq_same' ?_ (.tmp 77) (.tmp 78) ?_ tt HTL.out ?_ ?_ ?_); (exact rfl); (exact rfl); (exact rfl); (exact rfl))
                show K _ _
                have := H.out _ (Ext.refl _)
                rw [HFR.out] at this
                obtain ⟨u1, u2⟩ := HU.out
                rw [u1, u2] at this
                exact this
              · rintro L A w15 hL ⟨V, rfl, HV, s0⟩
                have e0 : V 0 = .agg #[.slice A9 l1.length c9] := HV 0 _ rfl (hL 0 (by simp))
                have e1 : V 1 = wv tt := HV 1 _ rfl (hL 1 (by simp))
                have e2 : V 2 = wv tt := HV 2 _ rfl (hL 2 (by simp))
                have e3 : V 3 = .bool false := HV 3 _ rfl (hL 3 (by simp))
                have hA := s0
                rw [HFR.out]
                rw [e0, e1, e2, e3]
                clear hL HV HFR e0 e1 e2 e3 s0

                have HZ := Lib.hid hA
                clear hA HTT HTN HTL
                have HE15 := Lib.hid (HE7.out.trans HZ.out)
                replace HG9 := Lib.hid (Cs.ext HG9.out HZ.out)
                replace HA1 := Lib.hid (HA1.out.ext HZ.out)
                clear HZ HE7 HT
                go_wp2_with fail
                go_loopw [82] (fun iv wr => ∃ k : Nat, k ≤ ads.length ∧ iv = .int .i64 k ∧ Hid (Ext w15 wr)) (fun iv _ => ads.length - (intOf iv).toNat)
                case atStart => exact ⟨0, by omega, rfl, Lib.hid (Ext.refl _)⟩
                case round =>
                  obtain ⟨k2, hk2, rfl, HE2⟩ := hrel
                  by_cases hlt2 : k2 < ads.length
                  · have hd2 : decide (k2 < ads.length) = true := decide_eq_true hlt2
                    obtain ⟨ba, oa, rfl, xa, ha⟩ := (HD.out.ext (HE15.out.trans HE2.out)).at k2 hlt2
                    have HAL := Lib.hid ha
                    generalize ads.getD k2 0 = a at *
                    by_cases h6 : k2 = 6
                    · have hd6 : ((k2 : Int) == 6) = true := by rw [beq_iff_eq]; omega
                      clear h6
                      go_wp2_with fail
                      exact ⟨⟨k + 1, by omega, by go_num, Lib.hid (HE15.out.trans HE2.out)⟩, by simp [intOf]; omega⟩
                    · have hd6 : ((k2 : Int) == 6) = false := by rw [beq_eq_false_iff_ne]; omega
                      clear h6
                      go_upto_region 22 with fail
                      have HLIT := acc_lit a
                      rw [show wr.alloc (.cells #[.int .u64 (a : Nat), .int .u64 0, .int .u64 0, .int .u64 0, .int .u64 0, .int .u64 0, .slice none 0 0, .slice none 0 0] 37) = wr.alloc (.cells (acc ⟨a, 0, 0, [], []⟩ (.slice none 0 0) (.slice none 0 0)) 37) by injection HLIT with h; rw [h]]
                      obtain ⟨w21, hw21⟩ : ∃ x, wr.alloc (.cells (acc ⟨a, 0, 0, [], []⟩ (.slice none 0 0) (.slice none 0 0)) 37) = x := ⟨_, rfl⟩
                      have HQ0 : Hid (Ab w21 wr.heap.size ⟨a, 0, 0, [], []⟩ (.slice none 0 0) (.slice none 0 0)) := Lib.hid (by rw [← hw21]; exact Cs.new _ _ _ _ rfl)
                      have HX21 : Hid (Ext wr w21) := Lib.hid (by rw [← hw21]; exact (Ext.refl _).alloc _)
                      rw [hw21]
                      clear hw21 HLIT xa
                      have HSZ := Lib.hid (show w15.heap.size ≤ wr.heap.size from HE2.out.size)
                      obtain ⟨g16, hg16⟩ : ∃ g, wr.heap.size = g := ⟨_, rfl⟩
                      rw [hg16] at HQ0 HSZ ⊢
                      clear hg16
                      go_upto_region 24 with fail
                      obtain ⟨u, hu⟩ : ∃ u, Value.slice none 0 0 = u := ⟨_, rfl⟩
                      obtain ⟨q, hq⟩ : ∃ q, (⟨a, 0, 0, [], []⟩ : Ac) = q := ⟨_, rfl⟩
                      have HQP : Hid (Bs w15 (.slice none 0 0) q.code ∧ Pks w15 (.slice none 0 0) q.store) := Lib.hid (by rw [← hq]; exact ⟨(own_nilB _ 0).bs, pks_nil _⟩)
                      have HQK : Hid q.ok := Lib.hid (by rw [← hq]; exact ⟨HAL.out, show 0 < M256 by decide, show 0 < 18446744073709551616 by decide⟩)
                      have HQQ : Hid (ofA l1 a = q) := Lib.hid (by unfold ofA; rw [HR.out, ← hq]; rfl)
                      have HQ : Hid (Ab w21 g16 q (.slice none 0 0) (.slice none 0 0)) := Lib.hid (by rw [← hq]; exact HQ0.out)
                      have HXX := Lib.hid (HE2.out.trans HX21.out)
                      clear hq hu HQ0 HX21
                      obtain ⟨wX, hwX⟩ : ∃ x, w21 = x := ⟨_, rfl⟩
                      rw [hwX] at HQ HXX ⊢
                      clear hwX
                      have HG9 := Lib.hid (Cs.ext HG9.out HXX.out)
                      have HA1 := Lib.hid (HA1.out.ext HXX.out)
                      have HQP := Lib.hid (And.intro (HQP.out.1.ext HXX.out) (HQP.out.2.ext HXX.out))
                      have HOF := Lib.hid (fun W (h : Ext wX W) => show Calls _ _ _ W (fun e w' => ∃ u v, e = .returned (.agg (acc q u v)) ∧ AcO W.heap.size w' q u v ∧ Ext W w') by have := stateOf_any _ l1 a W (HA1.out.ext h) HAL.out (by have := HL1.out; omega); rw [HQQ.out] at this; exact this)
                      have HSQ := Lib.hid (fun (u' v' : Value) W (h : Ext wX W) (hu : Bs W u' q.code) (hv : Pks W v' q.store) => show Calls _ _ _ W (fun e w' => e = .returned (.bool true) ∧ Ext W w') by have := refSameAccount_any q q u' v' (.slice none 0 0) (.slice none 0 0) W HQK.out HQK.out hu hv (HQP.out.1.ext h) (HQP.out.2.ext h); rw [(Ac.eqB_iff q q).2 rfl] at this; exact this)
                      have HRO := Lib.hid (fun W (h : Ext wX W) => show Calls _ _ _ W (fun e w' => e = .returned (.bool false) ∧ Ext W w') by have := stateRoom_any _ l1 a W (HA1.out.ext h) HAL.out (by have := HL1.out; omega); rw [show rmB l1 a = false by unfold rmB; rw [HR.out]; rfl] at this; exact this)
                      refine wp_named fun a0 ha0 => ?_
                      obtain ⟨fr, hfr⟩ : ∃ fr : (Nat → Value) → Act, ∀ V, fr V = ((((((((((((((((((a0.put (some 95) (V 0)).put (some 96) (V 1)).put (some 97) (V 2)).put (some 98) (V 3)).put (some 99) (V 4)).put (some 100) (V 5)).put (some 101) (V 6)).put (some 102) (V 7)).put (some 103) (V 8)).put (some 104) (V 9)).put (some 105) (V 10)).put (some 106) (V 11)).put (some 107) (V 12)).put (some 108) (V 13)).put (some 109) (V 14)).put (some 110) (V 15)).put (some 111) (V 16)).put (some 112) (V 17)) := ⟨fun V => ((((((((((((((((((a0.put (some 95) (V 0)).put (some 96) (V 1)).put (some 97) (V 2)).put (some 98) (V 3)).put (some 99) (V 4)).put (some 100) (V 5)).put (some 101) (V 6)).put (some 102) (V 7)).put (some 103) (V 8)).put (some 104) (V 9)).put (some 105) (V 10)).put (some 106) (V 11)).put (some 107) (V 12)).put (some 108) (V 13)).put (some 109) (V 14)).put (some 110) (V 15)).put (some 111) (V 16)).put (some 112) (V 17)), fun _ => rfl⟩
                      rw [ha0] at hfr
                      simp only [Act.put, List.setIfInBounds_toArray, List.set_cons_zero, List.set_cons_succ] at hfr
                      have HFR := Lib.hid hfr
                      clear hfr
                      refine wp_region_inv (by kernel_rfl) (by kernel_rfl) (fun L A W => ∃ V : Nat → Value, A = fr V ∧ Vals (fun j => ([some (.agg #[.slice A9 l1.length c9]), some (.int .u64 (a : Nat)), none, some (.agg (acc q (.slice none 0 0) (.slice none 0 0))), some (.bool true), some (.bool false), some (.bool false), some (.agg #[.slice A9 l1.length c9]), some (.int .u64 (a : Nat)), some (.bool false), some (.bool false), some (.bool false), some (undef), some (undef), some (undef), some (.bool false), some (.bool false), some (.bool false)] : List (Option Value)).getD j none) L V ∧ (Ext wX W) ∧ (L 2 = true → OfQ q W (V 2))) ?_ ⟨?_, ?_, ?_, ?_, ?_, ?_, ?_, ?_, ?_, ?_, ?_, ?_, ?_, ?_, ?_, ?_, ?_, ?_, trivial⟩ ?_
                      · refine ⟨fun j => a0.tmps.getD (([95, 96, 97, 98, 99, 100, 101, 102, 103, 104, 105, 106, 107, 108, 109, 110, 111, 112] : List Nat).getD j 0) undef, ?_, Vals.no _ _ _ (far_none _ _ rfl), (Ext.refl _).drew, fun h0 => absurd h0 (by decide)⟩
                        rw [HFR.out, ha0]
                        rfl
                      all_goals clear ha0
                      · rintro L A W K hL hC hW ⟨V, rfl, HV, s0, f2⟩ hK
                        have hB := s0
                        have H := Lib.hid (show ∀ W', Ext W W' → K (fr (upd V 0 (.agg #[.slice A9 l1.length c9]))) W' from fun W' he => hK _ _ ⟨upd V 0 (.agg #[.slice A9 l1.length c9]), rfl, HV.up 0 _ (fun x hx => Option.some.inj hx), Ext.trans s0 he, fun h0 => OfQ.ext (f2 (more_ne h0 rfl)) he⟩)
                        clear hK hC hW hL HV s0 f2
                        rw [HFR.out]
                        have hcl := (Cs.ext HG9.out hB).cell 0 _ rfl
                        clear hB
                        go_wp2_with fail
                        show K _ _
                        have := H.out _ (Ext.refl _)
                        rw [HFR.out] at this
                        exact this
                      · rintro L A W K hL hC hW ⟨V, rfl, HV, s0, f2⟩ hK
                        have H := Lib.hid (show ∀ W', Ext W W' → K (fr (upd V 1 (.int .u64 (a : Nat)))) W' from fun W' he => hK _ _ ⟨upd V 1 (.int .u64 (a : Nat)), rfl, HV.up 1 _ (fun x hx => Option.some.inj hx), Ext.trans s0 he, fun h0 => OfQ.ext (f2 (more_ne h0 rfl)) he⟩)
                        clear hK hC hW hL HV s0 f2
                        rw [HFR.out]
                        go_wp2_with fail
                        show K _ _
                        have := H.out _ (Ext.refl _)
                        rw [HFR.out] at this
                        exact this
                      · rintro L A W K hL hC hW ⟨V, rfl, HV, s0, f2⟩ hK
                        have e0 : V 0 = .agg #[.slice A9 l1.length c9] := HV 0 _ rfl (hW 0 rfl)
                        have e1 : V 1 = .int .u64 (a : Nat) := HV 1 _ rfl (hW 1 rfl)
                        have hB := s0
                        have H := Lib.hid (show ∀ v W', Ext W W' → (OfQ q W' v) → K (fr (upd V 2 v)) W' from fun v W' he hp => hK _ _ ⟨upd V 2 v, rfl, HV.up 2 _ (fun x hx => absurd hx (by intro h; cases h)), Ext.trans s0 he, fun h0 => hp⟩)
                        have HU := Lib.hid (show ∀ v, (upd V 2 v) 0 = .agg #[.slice A9 l1.length c9] ∧ (upd V 2 v) 1 = .int .u64 (a : Nat) from fun v => ⟨e0, e1⟩)
                        clear hK hC hW hL HV s0 f2
                        rw [HFR.out]
                        rw [e0, e1]
                        clear e0 e1
                        have HB' := Lib.hid hB
                        clear hB
                        go_wp2_with fail
                        refine (HOF.out _ HB'.out).mono ?_
                        rintro e wx ⟨u', v', rfl, ho, he⟩
                        have := H.out _ _ he (⟨u', v', rfl, ho.1.bs, ho.2.pks⟩)
                        clear H
                        go_wp2_with fail
                        show K _ _
                        rw [HFR.out] at this
                        obtain ⟨u0, u1⟩ := HU.out _
                        rw [u0, u1] at this
                        exact this
                      · rintro L A W K hL hC hW ⟨V, rfl, HV, s0, f2⟩ hK
                        have hB := s0
                        have H := Lib.hid (show ∀ W', Ext W W' → K (fr (upd V 3 (.agg (acc q (.slice none 0 0) (.slice none 0 0))))) W' from fun W' he => hK _ _ ⟨upd V 3 (.agg (acc q (.slice none 0 0) (.slice none 0 0))), rfl, HV.up 3 _ (fun x hx => Option.some.inj hx), Ext.trans s0 he, fun h0 => OfQ.ext (f2 (more_ne h0 rfl)) he⟩)
                        clear hK hC hW hL HV s0 f2
                        rw [HFR.out]
                        have HCR := Lib.hid (Ab.range (Ab.ext HQ.out hB))
                        clear hB
                        ((with_reducible refine wpList_load_ac ?_ (.tmp 16) ?_ g16 0 q (.slice none 0 0) (.slice none 0 0) ?_ ?_ ?_); (exact rfl); (exact rfl); (exact rfl); (exact HCR.out))
                        show K _ _
                        have := H.out _ (Ext.refl _)
                        rw [HFR.out] at this
                        exact this
                      · rintro L A W K hL hC hW ⟨V, rfl, HV, s0, f2⟩ hK
                        have e3 : V 3 = .agg (acc q (.slice none 0 0) (.slice none 0 0)) := HV 3 _ rfl (hW 3 rfl)
                        have hB := s0
                        have q2 := f2 (hW 2 rfl)
                        obtain ⟨u2, v2, e2, z2⟩ := q2
                        have H := Lib.hid (show ∀ W', Ext W W' → K (fr (upd V 4 (.bool true))) W' from fun W' he => hK _ _ ⟨upd V 4 (.bool true), rfl, HV.up 4 _ (fun x hx => Option.some.inj hx), Ext.trans s0 he, fun h0 => OfQ.ext (f2 (more_ne h0 rfl)) he⟩)
                        have HU := Lib.hid (show (upd V 4 (.bool true)) 2 = .agg (acc q u2 v2) ∧ (upd V 4 (.bool true)) 3 = .agg (acc q (.slice none 0 0) (.slice none 0 0)) from ⟨e2, e3⟩)
                        clear hK hC hW hL HV s0 f2
                        rw [HFR.out]
                        rw [e2, e3]
                        clear e2 e3
                        have HB' := Lib.hid hB
                        have Z2 := Lib.hid z2
                        clear hB z2
                        go_wp2_with fail
                        refine (HSQ.out _ _ _ HB'.out Z2.out.1 Z2.out.2).mono ?_
                        rintro e wx ⟨rfl, he⟩
                        have := H.out _ he
                        clear H
                        go_wp2_with fail
                        show K _ _
                        rw [HFR.out] at this
                        obtain ⟨u2, u3⟩ := HU.out
                        rw [u2, u3] at this
                        exact this
                      · rintro L A W K hL hC hW ⟨V, rfl, HV, s0, f2⟩ hK
                        have e4 : V 4 = .bool true := HV 4 _ rfl (hW 4 rfl)
                        have H := Lib.hid (show ∀ W', Ext W W' → K (fr (upd V 5 (.bool false))) W' from fun W' he => hK _ _ ⟨upd V 5 (.bool false), rfl, HV.up 5 _ (fun x hx => Option.some.inj hx), Ext.trans s0 he, fun h0 => OfQ.ext (f2 (more_ne h0 rfl)) he⟩)
                        have HU := Lib.hid (show (upd V 5 (.bool false)) 4 = .bool true from e4)
                        clear hK hC hW hL HV s0 f2
                        rw [HFR.out]
                        rw [e4]
                        clear e4
                        go_wp2_with fail
                        show K _ _
                        have := H.out _ (Ext.refl _)
                        rw [HFR.out] at this
                        obtain u4 := HU.out
                        rw [u4] at this
                        exact this
                      · rintro L A W K hL hC hW ⟨V, rfl, HV, s0, f2⟩ hK
                        have e5 : V 5 = .bool false := HV 5 _ rfl (hW 5 rfl)
                        have H := Lib.hid (show ∀ W', Ext W W' → K (fr (upd V 6 (.bool false))) W' from fun W' he => hK _ _ ⟨upd V 6 (.bool false), rfl, HV.up 6 _ (fun x hx => Option.some.inj hx), Ext.trans s0 he, fun h0 => OfQ.ext (f2 (more_ne h0 rfl)) he⟩)
                        have HU := Lib.hid (show (upd V 6 (.bool false)) 5 = .bool false from e5)
                        clear hK hC hW hL HV s0 f2
                        rw [HFR.out]
                        rw [e5]
                        clear e5
                        go_wp2_with fail
                        show K _ _
                        have := H.out _ (Ext.refl _)
                        rw [HFR.out] at this
                        obtain u5 := HU.out
                        rw [u5] at this
                        exact this
                      · rintro L A W K hL hC hW ⟨V, rfl, HV, s0, f2⟩ hK
                        have e6 : V 6 = .bool false := HV 6 _ rfl (hW 6 rfl)
                        have hB := s0
                        have H := Lib.hid (show ∀ W', Ext W W' → K (fr (upd V 7 (.agg #[.slice A9 l1.length c9]))) W' from fun W' he => hK _ _ ⟨upd V 7 (.agg #[.slice A9 l1.length c9]), rfl, HV.up 7 _ (fun x hx => Option.some.inj hx), Ext.trans s0 he, fun h0 => OfQ.ext (f2 (more_ne h0 rfl)) he⟩)
                        have HU := Lib.hid (show (upd V 7 (.agg #[.slice A9 l1.length c9])) 6 = .bool false from e6)
                        clear hK hC hW hL HV s0 f2
                        rw [HFR.out]
                        rw [e6]
                        clear e6
                        have hcl := (Cs.ext HG9.out hB).cell 0 _ rfl
                        clear hB
                        go_wp2_with fail
                        show K _ _
                        have := H.out _ (Ext.refl _)
                        rw [HFR.out] at this
                        obtain u6 := HU.out
                        rw [u6] at this
                        exact this
                      · rintro L A W K hL hC hW ⟨V, rfl, HV, s0, f2⟩ hK
                        have e6 : V 6 = .bool false := HV 6 _ rfl (hW 6 rfl)
                        have H := Lib.hid (show ∀ W', Ext W W' → K (fr (upd V 8 (.int .u64 (a : Nat)))) W' from fun W' he => hK _ _ ⟨upd V 8 (.int .u64 (a : Nat)), rfl, HV.up 8 _ (fun x hx => Option.some.inj hx), Ext.trans s0 he, fun h0 => OfQ.ext (f2 (more_ne h0 rfl)) he⟩)
                        have HU := Lib.hid (show (upd V 8 (.int .u64 (a : Nat))) 6 = .bool false from e6)
                        clear hK hC hW hL HV s0 f2
                        rw [HFR.out]
                        rw [e6]
                        clear e6
                        go_wp2_with fail
                        show K _ _
                        have := H.out _ (Ext.refl _)
                        rw [HFR.out] at this
                        obtain u6 := HU.out
                        rw [u6] at this
                        exact this
                      · rintro L A W K hL hC hW ⟨V, rfl, HV, s0, f2⟩ hK
                        have e6 : V 6 = .bool false := HV 6 _ rfl (hW 6 rfl)
                        have e7 : V 7 = .agg #[.slice A9 l1.length c9] := HV 7 _ rfl (hW 7 rfl)
                        have e8 : V 8 = .int .u64 (a : Nat) := HV 8 _ rfl (hW 8 rfl)
                        have hB := s0
                        have H := Lib.hid (show ∀ W', Ext W W' → K (fr (upd V 9 (.bool false))) W' from fun W' he => hK _ _ ⟨upd V 9 (.bool false), rfl, HV.up 9 _ (fun x hx => Option.some.inj hx), Ext.trans s0 he, fun h0 => OfQ.ext (f2 (more_ne h0 rfl)) he⟩)
                        have HU := Lib.hid (show (upd V 9 (.bool false)) 6 = .bool false ∧ (upd V 9 (.bool false)) 7 = .agg #[.slice A9 l1.length c9] ∧ (upd V 9 (.bool false)) 8 = .int .u64 (a : Nat) from ⟨e6, e7, e8⟩)
                        clear hK hC hW hL HV s0 f2
                        rw [HFR.out]
                        rw [e6, e7, e8]
                        clear e6 e7 e8
                        have HB' := Lib.hid hB
                        clear hB
                        go_wp2_with fail
                        refine (HRO.out _ HB'.out).mono ?_
                        rintro e wx ⟨rfl, he⟩
                        have := H.out _ he
                        clear H
                        go_wp2_with fail
                        show K _ _
                        rw [HFR.out] at this
                        obtain ⟨u6, u7, u8⟩ := HU.out
                        rw [u6, u7, u8] at this
                        exact this
                      · rintro L A W K hL hC hW ⟨V, rfl, HV, s0, f2⟩ hK
                        have e6 : V 6 = .bool false := HV 6 _ rfl (hW 6 rfl)
                        have H := Lib.hid (show ∀ W', Ext W W' → K (fr (upd V 10 (.bool false))) W' from fun W' he => hK _ _ ⟨upd V 10 (.bool false), rfl, HV.up 10 _ (fun x hx => Option.some.inj hx), Ext.trans s0 he, fun h0 => OfQ.ext (f2 (more_ne h0 rfl)) he⟩)
                        have HU := Lib.hid (show (upd V 10 (.bool false)) 6 = .bool false from e6)
                        clear hK hC hW hL HV s0 f2
                        rw [HFR.out]
                        rw [e6]
                        clear e6
                        go_wp2_with fail
                        show K _ _
                        have := H.out _ (Ext.refl _)
                        rw [HFR.out] at this
                        obtain u6 := HU.out
                        rw [u6] at this
                        exact this
                      · rintro L A W K hL hC hW ⟨V, rfl, HV, s0, f2⟩ hK
                        have e6 : V 6 = .bool false := HV 6 _ rfl (hW 6 rfl)
                        have e10 : V 10 = .bool false := HV 10 _ rfl (hW 10 rfl)
                        have H := Lib.hid (show ∀ W', Ext W W' → K (fr (upd V 11 (.bool false))) W' from fun W' he => hK _ _ ⟨upd V 11 (.bool false), rfl, HV.up 11 _ (fun x hx => Option.some.inj hx), Ext.trans s0 he, fun h0 => OfQ.ext (f2 (more_ne h0 rfl)) he⟩)
                        have HU := Lib.hid (show (upd V 11 (.bool false)) 6 = .bool false ∧ (upd V 11 (.bool false)) 10 = .bool false from ⟨e6, e10⟩)
                        clear hK hC hW hL HV s0 f2
                        rw [HFR.out]
                        rw [e6, e10]
                        clear e6 e10
                        go_wp2_with fail
                        show K _ _
                        have := H.out _ (Ext.refl _)
                        rw [HFR.out] at this
                        obtain ⟨u6, u10⟩ := HU.out
                        rw [u6, u10] at this
                        exact this
                      · rintro L A W K hL hC hW ⟨V, rfl, HV, s0, f2⟩ hK
                        have e11 : V 11 = .bool false := HV 11 _ rfl (hW 11 rfl)
                        have H := Lib.hid (show ∀ W', Ext W W' → K (fr (upd V 12 (undef))) W' from fun W' he => hK _ _ ⟨upd V 12 (undef), rfl, HV.up 12 _ (fun x hx => Option.some.inj hx), Ext.trans s0 he, fun h0 => OfQ.ext (f2 (more_ne h0 rfl)) he⟩)
                        have HU := Lib.hid (show (upd V 12 (undef)) 11 = .bool false from e11)
                        clear hK hC hW hL HV s0 f2
                        rw [HFR.out]
                        rw [e11]
                        clear e11
                        go_wp2_with fail
                        show K _ _
                        have := H.out _ (Ext.refl _)
                        rw [HFR.out] at this
                        obtain u11 := HU.out
                        rw [u11] at this
                        exact this
                      · rintro L A W K hL hC hW ⟨V, rfl, HV, s0, f2⟩ hK
                        have e11 : V 11 = .bool false := HV 11 _ rfl (hW 11 rfl)
                        have H := Lib.hid (show ∀ W', Ext W W' → K (fr (upd V 13 (undef))) W' from fun W' he => hK _ _ ⟨upd V 13 (undef), rfl, HV.up 13 _ (fun x hx => Option.some.inj hx), Ext.trans s0 he, fun h0 => OfQ.ext (f2 (more_ne h0 rfl)) he⟩)
                        have HU := Lib.hid (show (upd V 13 (undef)) 11 = .bool false from e11)
                        clear hK hC hW hL HV s0 f2
                        rw [HFR.out]
                        rw [e11]
                        clear e11
                        go_wp2_with fail
                        show K _ _
                        have := H.out _ (Ext.refl _)
                        rw [HFR.out] at this
                        obtain u11 := HU.out
                        rw [u11] at this
                        exact this
                      · rintro L A W K hL hC hW ⟨V, rfl, HV, s0, f2⟩ hK
                        have e11 : V 11 = .bool false := HV 11 _ rfl (hW 11 rfl)
                        have e12 : V 12 = undef := HV 12 _ rfl (hW 12 rfl)
                        have e13 : V 13 = undef := HV 13 _ rfl (hW 13 rfl)
                        have H := Lib.hid (show ∀ W', Ext W W' → K (fr (upd V 14 (undef))) W' from fun W' he => hK _ _ ⟨upd V 14 (undef), rfl, HV.up 14 _ (fun x hx => Option.some.inj hx), Ext.trans s0 he, fun h0 => OfQ.ext (f2 (more_ne h0 rfl)) he⟩)
                        have HU := Lib.hid (show (upd V 14 (undef)) 11 = .bool false ∧ (upd V 14 (undef)) 12 = undef ∧ (upd V 14 (undef)) 13 = undef from ⟨e11, e12, e13⟩)
                        clear hK hC hW hL HV s0 f2
                        rw [HFR.out]
                        rw [e11, e12, e13]
                        clear e11 e12 e13
                        go_wp2_with fail
                        show K _ _
                        have := H.out _ (Ext.refl _)
                        rw [HFR.out] at this
                        obtain ⟨u11, u12, u13⟩ := HU.out
                        rw [u11, u12, u13] at this
                        exact this
                      · rintro L A W K hL hC hW ⟨V, rfl, HV, s0, f2⟩ hK
                        have e6 : V 6 = .bool false := HV 6 _ rfl (hW 6 rfl)
                        have e11 : V 11 = .bool false := HV 11 _ rfl (hW 11 rfl)
                        have e14 : V 14 = undef := HV 14 _ rfl (hW 14 rfl)
                        have H := Lib.hid (show ∀ W', Ext W W' → K (fr (upd V 15 (.bool false))) W' from fun W' he => hK _ _ ⟨upd V 15 (.bool false), rfl, HV.up 15 _ (fun x hx => Option.some.inj hx), Ext.trans s0 he, fun h0 => OfQ.ext (f2 (more_ne h0 rfl)) he⟩)
                        have HU := Lib.hid (show (upd V 15 (.bool false)) 6 = .bool false ∧ (upd V 15 (.bool false)) 11 = .bool false ∧ (upd V 15 (.bool false)) 14 = undef from ⟨e6, e11, e14⟩)
                        clear hK hC hW hL HV s0 f2
                        rw [HFR.out]
                        rw [e6, e11, e14]
                        clear e6 e11 e14
                        go_wp2_with fail
                        show K _ _
                        have := H.out _ (Ext.refl _)
                        rw [HFR.out] at this
                        obtain ⟨u6, u11, u14⟩ := HU.out
                        rw [u6, u11, u14] at this
                        exact this
                      · rintro L A W K hL hC hW ⟨V, rfl, HV, s0, f2⟩ hK
                        have e6 : V 6 = .bool false := HV 6 _ rfl (hW 6 rfl)
                        have e9 : V 9 = .bool false := HV 9 _ rfl (hW 9 rfl)
                        have e15 : V 15 = .bool false := HV 15 _ rfl (hW 15 rfl)
                        have H := Lib.hid (show ∀ W', Ext W W' → K (fr (upd V 16 (.bool false))) W' from fun W' he => hK _ _ ⟨upd V 16 (.bool false), rfl, HV.up 16 _ (fun x hx => Option.some.inj hx), Ext.trans s0 he, fun h0 => OfQ.ext (f2 (more_ne h0 rfl)) he⟩)
                        have HU := Lib.hid (show (upd V 16 (.bool false)) 6 = .bool false ∧ (upd V 16 (.bool false)) 9 = .bool false ∧ (upd V 16 (.bool false)) 15 = .bool false from ⟨e6, e9, e15⟩)
                        clear hK hC hW hL HV s0 f2
                        rw [HFR.out]
                        rw [e6, e9, e15]
                        clear e6 e9 e15
                        go_wp2_with fail
                        show K _ _
                        have := H.out _ (Ext.refl _)
                        rw [HFR.out] at this
                        obtain ⟨u6, u9, u15⟩ := HU.out
                        rw [u6, u9, u15] at this
                        exact this
                      · rintro L A W K hL hC hW ⟨V, rfl, HV, s0, f2⟩ hK
                        have e6 : V 6 = .bool false := HV 6 _ rfl (hW 6 rfl)
                        have e16 : V 16 = .bool false := HV 16 _ rfl (hW 16 rfl)
                        have H := Lib.hid (show ∀ W', Ext W W' → K (fr (upd V 17 (.bool false))) W' from fun W' he => hK _ _ ⟨upd V 17 (.bool false), rfl, HV.up 17 _ (fun x hx => Option.some.inj hx), Ext.trans s0 he, fun h0 => OfQ.ext (f2 (more_ne h0 rfl)) he⟩)
                        have HU := Lib.hid (show (upd V 17 (.bool false)) 6 = .bool false ∧ (upd V 17 (.bool false)) 16 = .bool false from ⟨e6, e16⟩)
                        clear hK hC hW hL HV s0 f2
                        rw [HFR.out]
                        rw [e6, e16]
                        clear e6 e16
                        go_wp2_with fail
                        show K _ _
                        have := H.out _ (Ext.refl _)
                        rw [HFR.out] at this
                        obtain ⟨u6, u16⟩ := HU.out
                        rw [u6, u16] at this
                        exact this
                      · rintro L A w24 hL ⟨V, rfl, HV, s0, f2⟩
                        have e0 : V 0 = .agg #[.slice A9 l1.length c9] := HV 0 _ rfl (hL 0 (by simp))
                        have e1 : V 1 = .int .u64 (a : Nat) := HV 1 _ rfl (hL 1 (by simp))
                        have e3 : V 3 = .agg (acc q (.slice none 0 0) (.slice none 0 0)) := HV 3 _ rfl (hL 3 (by simp))
                        have e4 : V 4 = .bool true := HV 4 _ rfl (hL 4 (by simp))
                        have e5 : V 5 = .bool false := HV 5 _ rfl (hL 5 (by simp))
                        have e6 : V 6 = .bool false := HV 6 _ rfl (hL 6 (by simp))
                        have e7 : V 7 = .agg #[.slice A9 l1.length c9] := HV 7 _ rfl (hL 7 (by simp))
                        have e8 : V 8 = .int .u64 (a : Nat) := HV 8 _ rfl (hL 8 (by simp))
                        have e9 : V 9 = .bool false := HV 9 _ rfl (hL 9 (by simp))
                        have e10 : V 10 = .bool false := HV 10 _ rfl (hL 10 (by simp))
                        have e11 : V 11 = .bool false := HV 11 _ rfl (hL 11 (by simp))
                        have e12 : V 12 = undef := HV 12 _ rfl (hL 12 (by simp))
                        have e13 : V 13 = undef := HV 13 _ rfl (hL 13 (by simp))
                        have e14 : V 14 = undef := HV 14 _ rfl (hL 14 (by simp))
                        have e15 : V 15 = .bool false := HV 15 _ rfl (hL 15 (by simp))
                        have e16 : V 16 = .bool false := HV 16 _ rfl (hL 16 (by simp))
                        have e17 : V 17 = .bool false := HV 17 _ rfl (hL 17 (by simp))
                        have hA := s0
                        have p97 := f2 (hL 2 (by simp))
                        rw [HFR.out]
                        rw [e0, e1, e3, e4, e5, e6, e7, e8, e9, e10, e11, e12, e13, e14, e15, e16, e17]
                        clear hL HV HFR e0 e1 e3 e4 e5 e6 e7 e8 e9 e10 e11 e12 e13 e14 e15 e16 e17 s0 f2
                        have HZ := Lib.hid hA
                        clear hA p97 HOF HSQ HRO
                        have HX24 := Lib.hid (HXX.out.trans HZ.out)
                        have HE24 := Lib.hid (HE15.out.trans HX24.out)
                        replace HG9 := Lib.hid (Cs.ext HG9.out HZ.out)
                        replace HA1 := Lib.hid (HA1.out.ext HZ.out)
                        replace HQ := Lib.hid (Ab.ext HQ.out HZ.out)
                        replace HQP := Lib.hid (And.intro (HQP.out.1.ext HZ.out) (HQP.out.2.ext HZ.out))
                        clear HZ HXX
                        go_wp2_with fail
                        go_loopw [115] (fun iv wr => ∃ k : Nat, k ≤ ns.length ∧ iv = .int .i64 k ∧ Hid (Ext w24 wr)) (fun iv _ => ns.length - (intOf iv).toNat)
                        case atStart => exact ⟨0, by omega, rfl, Lib.hid (Ext.refl _)⟩
                        case round =>
                          obtain ⟨k3, hk3, rfl, HE3⟩ := hrel
                          by_cases hlt3 : k3 < ns.length
                          · have hd3 : decide (k3 < ns.length) = true := decide_eq_true hlt3
                            obtain ⟨bn, on, rfl, xn, hn⟩ := (HN.out.ext (HE24.out.trans HE3.out)).at k3 hlt3
                            have XN := Lib.hid xn
                            have HNL := Lib.hid hn
                            clear xn hn
                            generalize ns.getD k3 0 = n at *
                            by_cases h6 : k3 = 6
                            · have hd6 : ((k3 : Int) == 6) = true := by rw [beq_iff_eq]; omega
                              clear h6
                              go_wp2_with (first
                                | ((with_reducible refine wpList_load_wordIn ?_ (.tmp 118) ?_ bn (on + k3 * 4) (n) ?_ ?_ ?_); (exact rfl); (exact rfl); (exact rfl); (exact XN.out))
                                | ((with_reducible refine wpList_store_word rfl rfl 31 (.tmp 18) (.tmp 119) rfl winfo wr.heap.size (wc 0) n ?_ ?_ ?_ ?_ ?_); (exact rfl); (exact rfl); (exact Cs.new _ _ _ _ rfl); (exact rfl); intro w28 k28 h28; have HX28 := Lib.hid (((Ext.refl wr).alloc _).grown h28 (Nat.le_refl _)); clear k28 h28))
                              exact ⟨⟨k2 + 1, by omega, by go_num, Lib.hid (HX24.out.trans (HE3.out.trans HX28.out))⟩, by simp [intOf]; omega⟩
                            · have hd6 : ((k3 : Int) == 6) = false := by rw [beq_eq_false_iff_ne]; omega
                              clear h6
                              go_upto_region 30 with (first
                                | ((with_reducible refine wpList_load_wordIn ?_ (.tmp 118) ?_ bn (on + k3 * 4) (n) ?_ ?_ ?_); (exact rfl); (exact rfl); (exact rfl); (exact XN.out))
                                | ((with_reducible refine wpList_store_word rfl rfl 31 (.tmp 18) (.tmp 119) rfl winfo wr.heap.size (wc 0) n ?_ ?_ ?_ ?_ ?_); (exact rfl); (exact rfl); (exact Cs.new _ _ _ _ rfl); (exact rfl); intro wX k28 h28; have K18 := Lib.hid k28; have HX28 := Lib.hid (((Ext.refl wr).alloc _).grown h28 (Nat.le_refl _)); clear k28 h28))
                              obtain ⟨g18, hg18⟩ : ∃ g, wr.heap.size = g := ⟨_, rfl⟩
                              rw [hg18] at K18 ⊢
                              clear hg18 XN
                              have HY := Lib.hid (HE3.out.trans HX28.out)
                              have HG9 := Lib.hid (Cs.ext HG9.out HY.out)
                              have HQ := Lib.hid (Ab.ext HQ.out HY.out)
                              have HLA := Lib.hid (fun W (h : Ext wX W) => show Calls _ _ _ W (fun e w' => e = .returned (wv (ldF q.store n)) ∧ Ext W w') by have := stateLoad_any _ l1 a n W (HA1.out.ext (HY.out.trans h)) HAL.out (by have := HL1.out; omega) HNL.out; rw [load_eq, HQQ.out] at this; exact this)
                              have HLB := Lib.hid (fun W (h : Ext wX W) => refLoad_any q (.slice none 0 0) (.slice none 0 0) n W HQK.out (HQP.out.2.ext (HY.out.trans h)) HNL.out)
                              have HLD := Lib.hid (ldF_lt q.store n HQP.out.2.words)
                              generalize ldF q.store n = ld at *
                              refine wp_named fun a0 ha0 => ?_
                              obtain ⟨fr, hfr⟩ : ∃ fr : (Nat → Value) → Act, ∀ V, fr V = ((((((((a0.put (some 122) (V 0)).put (some 123) (V 1)).put (some 124) (V 2)).put (some 125) (V 3)).put (some 126) (V 4)).put (some 127) (V 5)).put (some 128) (V 6)).put (some 129) (V 7)) := ⟨fun V => ((((((((a0.put (some 122) (V 0)).put (some 123) (V 1)).put (some 124) (V 2)).put (some 125) (V 3)).put (some 126) (V 4)).put (some 127) (V 5)).put (some 128) (V 6)).put (some 129) (V 7)), fun _ => rfl⟩
                              rw [ha0] at hfr
                              simp only [Act.put, List.setIfInBounds_toArray, List.set_cons_zero, List.set_cons_succ] at hfr
                              have HFR := Lib.hid hfr
                              clear hfr
                              refine wp_region_inv (by kernel_rfl) (by kernel_rfl) (fun L A W => ∃ V : Nat → Value, A = fr V ∧ Vals (fun j => ([some (.agg #[.slice A9 l1.length c9]), some (.int .u64 (a : Nat)), some (wv n), some (wv ld), some (.agg (acc q (.slice none 0 0) (.slice none 0 0))), some (wv n), some (wv ld), some (.bool false)] : List (Option Value)).getD j none) L V ∧ (Ext wX W)) ?_ ⟨?_, ?_, ?_, ?_, ?_, ?_, ?_, ?_, trivial⟩ ?_
                              · refine ⟨fun j => a0.tmps.getD (([122, 123, 124, 125, 126, 127, 128, 129] : List Nat).getD j 0) undef, ?_, Vals.no _ _ _ (far_none _ _ rfl), (Ext.refl _).drew⟩
                                rw [HFR.out, ha0]
                                rfl
                              all_goals clear ha0
                              · rintro L A W K hL hC hW ⟨V, rfl, HV, s0⟩ hK
                                have hB := s0
                                have H := Lib.hid (show ∀ W', Ext W W' → K (fr (upd V 0 (.agg #[.slice A9 l1.length c9]))) W' from fun W' he => hK _ _ ⟨upd V 0 (.agg #[.slice A9 l1.length c9]), rfl, HV.up 0 _ (fun x hx => Option.some.inj hx), Ext.trans s0 he⟩)
                                clear hK hC hW hL HV s0
                                rw [HFR.out]
                                have hcl := (Cs.ext HG9.out hB).cell 0 _ rfl
                                clear hB
                                go_wp2_with fail
                                show K _ _
                                have := H.out _ (Ext.refl _)
                                rw [HFR.out] at this
                                exact this
                              · rintro L A W K hL hC hW ⟨V, rfl, HV, s0⟩ hK
                                have H := Lib.hid (show ∀ W', Ext W W' → K (fr (upd V 1 (.int .u64 (a : Nat)))) W' from fun W' he => hK _ _ ⟨upd V 1 (.int .u64 (a : Nat)), rfl, HV.up 1 _ (fun x hx => Option.some.inj hx), Ext.trans s0 he⟩)
                                clear hK hC hW hL HV s0
                                rw [HFR.out]
                                go_wp2_with fail
                                show K _ _
                                have := H.out _ (Ext.refl _)
                                rw [HFR.out] at this
                                exact this
                              · rintro L A W K hL hC hW ⟨V, rfl, HV, s0⟩ hK
                                have hB := s0
                                have H := Lib.hid (show ∀ W', Ext W W' → K (fr (upd V 2 (wv n))) W' from fun W' he => hK _ _ ⟨upd V 2 (wv n), rfl, HV.up 2 _ (fun x hx => Option.some.inj hx), Ext.trans s0 he⟩)
                                clear hK hC hW hL HV s0
                                rw [HFR.out]
                                have HCR := Lib.hid (Cs.range0' (Cs.ext K18.out hB))
                                clear hB
                                ((with_reducible refine wpList_load_wordIn ?_ (.tmp 18) ?_ g18 0 (n) ?_ ?_ ?_); (exact rfl); (exact rfl); (exact rfl); (exact HCR.out))
                                show K _ _
                                have := H.out _ (Ext.refl _)
                                rw [HFR.out] at this
                                exact this
                              · rintro L A W K hL hC hW ⟨V, rfl, HV, s0⟩ hK
                                have e0 : V 0 = .agg #[.slice A9 l1.length c9] := HV 0 _ rfl (hW 0 rfl)
                                have e1 : V 1 = .int .u64 (a : Nat) := HV 1 _ rfl (hW 1 rfl)
                                have e2 : V 2 = wv n := HV 2 _ rfl (hW 2 rfl)
                                have hB := s0
                                have H := Lib.hid (show ∀ W', Ext W W' → K (fr (upd V 3 (wv ld))) W' from fun W' he => hK _ _ ⟨upd V 3 (wv ld), rfl, HV.up 3 _ (fun x hx => Option.some.inj hx), Ext.trans s0 he⟩)
                                have HU := Lib.hid (show (upd V 3 (wv ld)) 0 = .agg #[.slice A9 l1.length c9] ∧ (upd V 3 (wv ld)) 1 = .int .u64 (a : Nat) ∧ (upd V 3 (wv ld)) 2 = wv n from ⟨e0, e1, e2⟩)
                                clear hK hC hW hL HV s0
                                rw [HFR.out]
                                rw [e0, e1, e2]
                                clear e0 e1 e2
                                have HB' := Lib.hid hB
                                clear hB
                                go_wp2_with fail
                                refine (HLA.out _ HB'.out).mono ?_
                                rintro e wx ⟨rfl, he⟩
                                have := H.out _ he
                                clear H
                                go_wp2_with fail
                                show K _ _
                                rw [HFR.out] at this
                                obtain ⟨u0, u1, u2⟩ := HU.out
                                rw [u0, u1, u2] at this
                                exact this
                              · rintro L A W K hL hC hW ⟨V, rfl, HV, s0⟩ hK
                                have hB := s0
                                have H := Lib.hid (show ∀ W', Ext W W' → K (fr (upd V 4 (.agg (acc q (.slice none 0 0) (.slice none 0 0))))) W' from fun W' he => hK _ _ ⟨upd V 4 (.agg (acc q (.slice none 0 0) (.slice none 0 0))), rfl, HV.up 4 _ (fun x hx => Option.some.inj hx), Ext.trans s0 he⟩)
                                clear hK hC hW hL HV s0
                                rw [HFR.out]
                                have HCR := Lib.hid (Ab.range (Ab.ext HQ.out hB))
                                clear hB
                                ((with_reducible refine wpList_load_ac ?_ (.tmp 16) ?_ g16 0 q (.slice none 0 0) (.slice none 0 0) ?_ ?_ ?_); (exact rfl); (exact rfl); (exact rfl); (exact HCR.out))
                                show K _ _
                                have := H.out _ (Ext.refl _)
                                rw [HFR.out] at this
                                exact this
                              · rintro L A W K hL hC hW ⟨V, rfl, HV, s0⟩ hK
                                have hB := s0
                                have H := Lib.hid (show ∀ W', Ext W W' → K (fr (upd V 5 (wv n))) W' from fun W' he => hK _ _ ⟨upd V 5 (wv n), rfl, HV.up 5 _ (fun x hx => Option.some.inj hx), Ext.trans s0 he⟩)
                                clear hK hC hW hL HV s0
                                rw [HFR.out]
                                have HCR := Lib.hid (Cs.range0' (Cs.ext K18.out hB))
                                clear hB
                                ((with_reducible refine wpList_load_wordIn ?_ (.tmp 18) ?_ g18 0 (n) ?_ ?_ ?_); (exact rfl); (exact rfl); (exact rfl); (exact HCR.out))
                                show K _ _
                                have := H.out _ (Ext.refl _)
                                rw [HFR.out] at this
                                exact this
                              · rintro L A W K hL hC hW ⟨V, rfl, HV, s0⟩ hK
                                have e4 : V 4 = .agg (acc q (.slice none 0 0) (.slice none 0 0)) := HV 4 _ rfl (hW 4 rfl)
                                have e5 : V 5 = wv n := HV 5 _ rfl (hW 5 rfl)
                                have hB := s0
                                have H := Lib.hid (show ∀ W', Ext W W' → K (fr (upd V 6 (wv ld))) W' from fun W' he => hK _ _ ⟨upd V 6 (wv ld), rfl, HV.up 6 _ (fun x hx => Option.some.inj hx), Ext.trans s0 he⟩)
                                have HU := Lib.hid (show (upd V 6 (wv ld)) 4 = .agg (acc q (.slice none 0 0) (.slice none 0 0)) ∧ (upd V 6 (wv ld)) 5 = wv n from ⟨e4, e5⟩)
                                clear hK hC hW hL HV s0
                                rw [HFR.out]
                                rw [e4, e5]
                                clear e4 e5
                                have HB' := Lib.hid hB
                                clear hB
                                go_wp2_with fail
                                refine (HLB.out _ HB'.out).mono ?_
                                rintro e wx ⟨rfl, he⟩
                                have := H.out _ he
                                clear H
                                go_wp2_with fail
                                show K _ _
                                rw [HFR.out] at this
                                obtain ⟨u4, u5⟩ := HU.out
                                rw [u4, u5] at this
                                exact this
                              · rintro L A W K hL hC hW ⟨V, rfl, HV, s0⟩ hK
                                have e3 : V 3 = wv ld := HV 3 _ rfl (hW 3 rfl)
                                have e6 : V 6 = wv ld := HV 6 _ rfl (hW 6 rfl)
                                have hB := s0
                                have H := Lib.hid (show ∀ W', Ext W W' → K (fr (upd V 7 (.bool false))) W' from fun W' he => hK _ _ ⟨upd V 7 (.bool false), rfl, HV.up 7 _ (fun x hx => Option.some.inj hx), Ext.trans s0 he⟩)
                                have HU := Lib.hid (show (upd V 7 (.bool false)) 3 = wv ld ∧ (upd V 7 (.bool false)) 6 = wv ld from ⟨e3, e6⟩)
                                clear hK hC hW hL HV s0
                                rw [HFR.out]
                                rw [e3, e6]
                                clear e3 e6
                                clear hB
                                ((with_reducible refine wpList_neq_same' ?_ (.tmp 125) (.tmp 128) ?_ ld HLD.out ?_ ?_ ?_); (exact rfl); (exact rfl); (exact rfl); (exact rfl))
                                show K _ _
                                have := H.out _ (Ext.refl _)
                                rw [HFR.out] at this
                                obtain ⟨u3, u6⟩ := HU.out
                                rw [u3, u6] at this
                                exact this
                              · rintro L A W hL ⟨V, rfl, HV, s0⟩
                                have e0 : V 0 = .agg #[.slice A9 l1.length c9] := HV 0 _ rfl (hL 0 (by simp))
                                have e1 : V 1 = .int .u64 (a : Nat) := HV 1 _ rfl (hL 1 (by simp))
                                have e2 : V 2 = wv n := HV 2 _ rfl (hL 2 (by simp))
                                have e3 : V 3 = wv ld := HV 3 _ rfl (hL 3 (by simp))
                                have e4 : V 4 = .agg (acc q (.slice none 0 0) (.slice none 0 0)) := HV 4 _ rfl (hL 4 (by simp))
                                have e5 : V 5 = wv n := HV 5 _ rfl (hL 5 (by simp))
                                have e6 : V 6 = wv ld := HV 6 _ rfl (hL 6 (by simp))
                                have e7 : V 7 = .bool false := HV 7 _ rfl (hL 7 (by simp))
                                have hA := s0
                                rw [HFR.out]
                                rw [e0, e1, e2, e3, e4, e5, e6, e7]
                                clear hL HV HFR e0 e1 e2 e3 e4 e5 e6 e7 s0

                                have HZ := Lib.hid hA
                                clear hA
                                go_wp2_with fail
                                exact ⟨⟨k3 + 1, by omega, by go_num, Lib.hid (HY.out.trans HZ.out)⟩, by simp [intOf]; omega⟩
                          · obtain rfl : k3 = ns.length := by omega
                            go_wp2_with fail
                            exact ⟨⟨k2 + 1, by omega, by go_num, Lib.hid (HX24.out.trans HE3.out)⟩, by simp [intOf]; omega⟩
                  · obtain rfl : k2 = ads.length := by omega
                    go_wp2_with fail
                    exact ⟨⟨k + 1, by omega, by go_num, Lib.hid (HE15.out.trans HE2.out)⟩, by simp [intOf]; omega⟩
    · obtain rfl : k = ls.length := by omega
      go_wp2_with fail
      go_ret
      exact ⟨rfl, HE.out⟩
set_option maxRecDepth 100000 in
theorem stateTells_told (W : World) (args : Array Value) (h : Told Try.f4 W args) : Calls Try.prog 4 args W (RetT W) := by
  obtain ⟨H, enc, base, ds, p, hval, hA⟩ := h
  rw [Try.params4] at hA hval
  obtain ⟨v0, v1, v2, d0, d1, d2, p0, p1, p2, rfl, rfl, rfl, h0, h1, h2⟩ := trodAll_three hA
  obtain ⟨ls, hls⟩ := sts_came (hval 0 _ v0 rfl rfl) h0
  obtain ⟨ads, has⟩ := ads_came (hval 1 _ v1 rfl rfl) h1
  obtain ⟨ns, hns⟩ := ws_came (hval 2 _ v2 rfl rfl) h2
  exact stateTells_any v0 v1 v2 ls ads ns W hls has hns

set_option maxRecDepth 100000 in
theorem stateTells_spec (H : Type) : ∀ ds : List (DataW H), ds.length = Try.f4.params.toList.length → Rows.stateTellsSpec.fn H ds = { results := [.lit (.bool true)], args := ds }
  | [_, _, _], _ => rfl
  | [], h | [_], h | [_, _], h | _ :: _ :: _ :: _ :: _, h => by rw [Try.params4] at h; simp at h

set_option maxRecDepth 100000 in
theorem stateTells_holds : Rows.StateTellsSaid :=
  OpenClaim.holds_of_wide 4 Try.f4 rfl rfl rfl rfl rfl rfl rfl ⟨rfl, rfl, rfl, rfl, rfl⟩ rfl rfl rfl rfl rfl (by kernel_rfl) Try.func4 (by kernel_rfl)
    (of_decide_eq_true (by kernel_rfl)) (by unfold Func.isWrapper; first | (rw [if_pos (by decide +kernel)]; kernel_rfl) | (rw [if_neg (by decide +kernel)]; exact ⟨rfl, rfl⟩))
    (fun os started H enc _ => law_lifted started (by kernel_rfl) Try.func4 rfl rfl (stateTells_spec H) (of_decide_eq_true (by kernel_rfl))
      (ChangeSpec.witness6 (enc := enc) (C := Try.checked) false ⟨#[], #[.slice none 0 0, .slice none 0 0, .slice none 0 0], []⟩ 8 (by kernel_rfl) (by kernel_rfl) (by kernel_rfl) (by kernel_rfl)) stateTells_told)
end Go.Proofs.Ytmojbekihbmdfaa
