/- GasTogether: what is spent one by one is spent together. No condition: whatever number, whatever row of costs, whatever place. -/
import Derived.Test.YtjefbfabigkeiaaDoorGgl
namespace Go.Proofs.YtjefbfabigkeiaaDoor
open Go.ChangeShapes Go.WideShapes Go.ChangeAt Go.RowKit Go.Shelf

/-- A sum lies there. -/
def TgS (w : World) (g s : Nat) (W : World) : Prop := Wd W g 36 s ∧ Ext w W
set_option maxRecDepth 100000 in
theorem TgS.ext {w : World} {g s : Nat} {W W' : World} (h : TgS w g s W) (he : Ext W W') : TgS w g s W' := ⟨h.1.ext he, h.2.trans he⟩
set_option maxRecDepth 100000 in
theorem at_place (x : Int) (n : Nat) (hn : n ≤ 30) : ∃ k : Nat, k ≤ n ∧ wrap64 ((IntKind.u64.wrap x).tmod ((n : Int) + 1)) = (k : Int) := by
  have e3 : (IntKind.u64.wrap x).tmod ((n : Int) + 1) = x % 18446744073709551616 % ((n : Int) + 1) := by
    rw [IntKind.wrap_u64, Int.tmod_eq_emod_of_nonneg (Int.emod_nonneg _ (by decide))]
  have h1 := Int.emod_nonneg (x % 18446744073709551616) (show ((n : Int) + 1) ≠ 0 by omega)
  have h2 := Int.emod_lt_of_pos (x % 18446744073709551616) (show 0 < ((n : Int) + 1) by omega)
  rw [e3]
  refine ⟨(x % 18446744073709551616 % ((n : Int) + 1)).toNat, by omega, ?_⟩
  unfold wrap64
  omega
set_option maxRecDepth 100000 in
theorem Gs.zero {W : World} {A : Option Addr} {c : Nat} (hc : c ≤ maxLen) : Gs W (.slice A 0 c) [] := ⟨A, c, rfl, Nat.zero_le _, hc, fun h => absurd h (by simp)⟩
set_option maxRecDepth 100000 in
theorem Gs.el {W : World} {A : Option Addr} {n c : Nat} {l : List Nat} (h : Gs W (.slice A n c) l) (i : Nat) (hi : i < l.length) : ∃ b o, A = some ⟨b, o, none⟩ ∧ W.cell? ⟨b, o + i, none⟩ = some (.int .u64 (l.getD i 0 : Nat)) ∧ l.getD i 0 < 18446744073709551616 := by
  obtain ⟨A', c', e, _, _, h3⟩ := h
  injection e with e1 e2 e3
  obtain ⟨b, o, hA, hc⟩ := h3 (by omega)
  exact ⟨b, o, e1.trans hA, hc i hi⟩
set_option maxRecDepth 100000 in
theorem sum_step (l : List Nat) (i : Nat) (hi : i < l.length) : (l.take (i + 1)).sum = (l.take i).sum + l.getD i 0 := by
  rw [List.take_succ_eq_append_getElem hi, List.sum_append]
  simp [List.getD, List.getElem?_eq_getElem hi]
set_option maxRecDepth 100000 in
theorem sum_few (l : List Nat) (h : ∀ i, i < l.length → l.getD i 0 < 18446744073709551616) : ∀ i, i ≤ l.length → (l.take i).sum ≤ i * 18446744073709551616
  | 0, _ => by simp
  | i + 1, hi => by
    have ih := sum_few l h i (by omega)
    have := h i (by omega)
    rw [sum_step l i (by omega)]
    omega
set_option maxRecDepth 100000 in
set_option maxHeartbeats 1000000 in
theorem together_any (left : Nat) (v : Value) (l0 : List Nat) (at_ : Int) (w : World) (hT : Tb w) (hl : left < 18446744073709551616) (hv : Gs w v l0) : Calls Tryd.prog 9 #[.int .u64 (left : Nat), v, .int .i64 at_] w (RetT w) := by
  obtain ⟨A, c, rfl, hlc, hcm, _⟩ := id hv
  have hlen : l0.length ≤ 9223372036854775807 := by unfold maxLen at hcm; omega
  have HV := Lib.hid hv
  have HL := Lib.hid hl
  have HLM := Lib.hid (show left < M256 by unfold M256; omega)
  have HCM := Lib.hid hcm
  clear hv hcm
  go_enter Tryd.func9, Tryd.ntmps9
  go_wp2_with fail
  refine (wakes_G w hT).mono ?_
  rintro e w1 ⟨rfl, hE1⟩
  have HE1 := Lib.hid hE1
  have HV1 := Lib.hid (HV.out.ext hE1)
  clear hE1 hT
  go_upto_region 4 with fail
  rw [show (min (l0.length : Int) 30).toNat = min l0.length 30 by omega]
  have HC0 := Lib.hid (HV.out.cut (min l0.length 30) (Nat.min_le_left _ _))
  have HC := Lib.hid (HV1.out.cut (min l0.length 30) (Nat.min_le_left _ _))
  obtain ⟨l, hll⟩ : ∃ l, l0.take (min l0.length 30) = l := ⟨_, rfl⟩
  rw [hll] at HC HC0
  have hln : min l0.length 30 = l.length := by rw [← hll, List.length_take]; omega
  rw [hln] at HC HC0 ⊢
  have hl30 : l.length ≤ 30 := by omega
  have hlc2 : l.length ≤ c := by omega
  clear HV1 HV hll hln hlen hlc
  go_wp2_with fail
  refine (spendG_any left _ l w1 HC.out hl).mono ?_
  rintro e w1 ⟨rfl, rfl⟩
  obtain ⟨k, hk, hkw⟩ := at_place at_ l.length hl30
  go_upto_region 6 with fail
  rw [hkw]
  clear hkw
  have hkc : k ≤ c := by omega
  go_wp2_with fail
  refine (spendG_any left _ (l.take k) w1 (HC.out.cut k hk) hl).mono ?_
  rintro e w1 ⟨rfl, rfl⟩
  cases hs : spendG left (l.take k) with
  | none =>
    have hn := spend_none left k l hs
    rw [show leftG left l = 0 by unfold leftG; rw [hn]; rfl, show okG left l = false by unfold okG; rw [hn]; rfl, show leftG left (l.take k) = 0 by unfold leftG; rw [hs]; rfl, show okG left (l.take k) = false by unfold okG; rw [hs]; rfl]
    clear hs hn
    go_wp2
    go_ret
    exact ⟨rfl, HE1.out⟩
  | some m =>
    have HJ := Lib.hid (show spendG left l = spendG m (l.drop k) by
      conv => lhs; rw [← List.take_append_drop k l]
      rw [spendG_append, hs]
      rfl)
    have hmle : m ≤ left := by
      have h := spendG_of (l.take k) left
      rw [hs] at h
      split at h
      · injection h with h
        omega
      · cases h
    have HQ : Hid (leftG m (l.drop k) = leftG left l ∧ okG m (l.drop k) = okG left l) := by
      unfold leftG okG
      rw [HJ.out]
      exact ⟨rfl, rfl⟩
    have HP := Lib.hid (spendG_of l left)
    rw [show leftG left (l.take k) = m by unfold leftG; rw [hs]; rfl, show okG left (l.take k) = true by unfold okG; rw [hs]; rfl]
    clear hs HJ
    have hm : m < 18446744073709551616 := by omega
    have hle : leftG left l ≤ left := by
      unfold leftG
      rw [HP.out]
      split
      · exact Nat.sub_le _ _
      · exact Nat.zero_le _
    go_upto_region 9 with fail
    have key : ∀ X : Value, Gs w1 X (l.drop k) → Calls Tryd.prog 36 #[.int .u64 (m : Nat), X] w1 fun e w' => e = .returned (.tuple #[.int .u64 (leftG left l : Nat), .bool (okG left l)]) ∧ w' = w1 := fun X hX =>
      (spendG_any m X _ w1 hX hm).mono fun _ _ h => by rw [HQ.out.1, HQ.out.2] at h; exact h
    have hgo : k = 0 ∨ (0 < l.length ∧ c = k) ∨ (0 < l.length ∧ c ≠ k) := by omega
    rcases hgo with h0 | ⟨h0, hck⟩ | ⟨h0, hck⟩
    · subst h0
      go_wp2_with fail
      have hcl := key (.slice A l.length c) HC.out
      refine hcl.mono ?_
      clear hcl
      rintro e w1 ⟨rfl, rfl⟩
      clear key HQ
      have d1 : decide (left < leftG left l) = false := decide_eq_false (by omega)
      obtain ⟨all, hall⟩ : ∃ all, leftG left l = all := ⟨_, rfl⟩
      obtain ⟨ok, hok⟩ : ∃ ok, okG left l = ok := ⟨_, rfl⟩
      rw [hall] at d1 hle ⊢
      rw [hok]
      have hall6 : all < 18446744073709551616 := by omega
      have d2 : (ok != ok) = false := by simp
      have d3 : (all != all) = false := by simp
      have d4 : ((all : Int) != (all : Int)) = false := by simp
      go_upto_region 12 with fail
      clear d1 d2 d3 d4
      go_wp2_with fail
      refine (of_any all _ rfl w1 hall6).mono ?_
      rintro e w2 ⟨rfl, hE2⟩
      have HE2 := Lib.hid (HE1.out.trans hE2)
      clear hE2 HC HE1
      have hcs : Cs (w2.alloc (.cells #[.int .u64 0, .int .u64 0, .int .u64 0, .int .u64 0] 36)) w2.heap.size 36 (wc 0) := Cs.new _ _ _ _ rfl
      have HX7 := Lib.hid ((Ext.refl w2).alloc (.cells #[.int .u64 0, .int .u64 0, .int .u64 0, .int .u64 0] 36))
      have HSZ := Lib.hid (Nat.le_refl w2.heap.size)
      go_upto_region 13 with (refine wpList_store_word rfl rfl 36 (.tmp 14) (.tmp 80) rfl winfo w2.heap.size (wc 0) all rfl rfl hcs rfl ?_; intro w3 hw3 hg3; have HS3 := Lib.hid (show TgS w w2.heap.size all w3 from ⟨hw3, HE2.out.trans (HX7.out.grown hg3 (Nat.le_refl _))⟩); clear hw3 hg3 hcs HX7)
      have HGG := Lib.hid HE2.out.size
      obtain ⟨g, hg⟩ : ∃ g, w2.heap.size = g := ⟨_, rfl⟩
      rw [hg] at HS3 HGG ⊢
      clear hg HSZ HE2
      have HF := Lib.hid (sum_few l (fun i hi => by obtain ⟨_, _, _, _, h⟩ := HC0.out.el i hi; exact h))
      have hlen9 : l.length ≤ 9223372036854775807 := by omega
      go_wp2_with fail
      go_loopw [83] (fun iv wr => ∃ i : Nat, i ≤ l.length ∧ iv = .int .i64 i ∧ Hid (Ext w3 wr ∨ True) ∧ Hid (TgS w g (all + (l.take i).sum) wr) ) (fun iv _ => l.length - (intOf iv).toNat)
      case atStart => exact ⟨0, Nat.zero_le _, rfl, Lib.hid (.inr trivial), by simpa using HS3⟩
      case round =>
        clear HS3
        obtain ⟨i, hi, rfl, _, HS⟩ := hrel
        have HSM := Lib.hid (show all + (l.take i).sum < M256 by have := HF.out i hi; unfold M256; omega)
        by_cases hlt : i < l.length
        · obtain ⟨b2, o2, e2, hck, hxl⟩ := HC0.out.el i hlt
          replace hck := HS.out.2.cell hck
          subst e2
          have hd : decide (i < l.length) = true := decide_eq_true hlt
          have HN := Lib.hid (show all + (l.take (i + 1)).sum = (all + (l.take i).sum + l.getD i 0) % M256 by
            have h1 := HF.out (i + 1) (by omega)
            have h2 := sum_step l i hlt
            rw [Nat.mod_eq_of_lt (by unfold M256; omega)]
            omega)
          generalize l.getD i 0 = x at *
          generalize all + (l.take i).sum = s at *
          have HX6 := Lib.hid hxl
          have HXM := Lib.hid (show x < M256 by unfold M256; omega)
          clear hxl
          go_upto_region 16 with fail
          clear hck hd
          refine wp_named fun a0 ha0 => ?_
          obtain ⟨fr, hfr⟩ : ∃ fr : (Nat → Value) → Act, ∀ V, fr V = (((((((a0.put (some 88) (V 0)).put (some 89) (V 1)).put (some 90) (V 2)).put (some 91) (V 3)).put (some 87) (V 4)).put (some 92) (V 5)).put (some 93) (V 6)) := ⟨fun V => (((((((a0.put (some 88) (V 0)).put (some 89) (V 1)).put (some 90) (V 2)).put (some 91) (V 3)).put (some 87) (V 4)).put (some 92) (V 5)).put (some 93) (V 6)), fun _ => rfl⟩
          rw [ha0] at hfr
          simp only [Act.put, List.setIfInBounds_toArray, List.set_cons_zero, List.set_cons_succ] at hfr
          have HFR := Lib.hid hfr
          clear hfr
          refine wp_region_inv (by kernel_rfl) (by kernel_rfl) (fun L A W => ∃ V : Nat → Value, A = fr V ∧ Vals (fun j => ([some (wv s), some (.int .u64 (x : Nat)), some (wv x), some (.tuple #[wv ((s + x) % M256), .bool (ovr s x)]), some (.tuple #[wv ((s + x) % M256), .bool (ovr s x)]), some (wv ((s + x) % M256)), some (.bool (ovr s x)), none] : List (Option Value)).getD j none) L V ∧ (L 7 = false → TgS w g s W) ∧ (L 7 = true → TgS w g ((s + x) % M256) W)) ?_ ⟨?_, ?_, ?_, ?_, ?_, ?_, ?_, ?_, trivial⟩ ?_
          · refine ⟨fun j => a0.tmps.getD (([88, 89, 90, 91, 87, 92, 93, 0] : List Nat).getD j 0) undef, ?_, Vals.no _ _ _ (far_none _ _ rfl), fun _ => HS.out.ext ((Ext.refl _).drew), fun h0 => absurd h0 (by decide)⟩
            rw [HFR.out, ha0]
            rfl
          all_goals clear ha0
          · rintro L A W K hL hC hW ⟨V, rfl, HV, s0, s1⟩ hK
            have hB := s0 (hC.no (hC.no (hC.no (hC.no hL 3 _ rfl rfl) 4 _ rfl rfl) 5 _ rfl rfl) 7 _ rfl rfl)
            have H := Lib.hid (show ∀ W', Ext W W' → K (fr (upd V 0 (wv s))) W' from fun W' he => hK _ _ ⟨upd V 0 (wv s), rfl, HV.up 0 _ (fun x hx => Option.some.inj hx), fun h0 => TgS.ext (s0 (by unfold More at h0; rwa [if_neg (by decide)] at h0)) he, fun h0 => TgS.ext (s1 (more_ne h0 rfl)) he⟩)
            clear hK hC hW hL HV s0 s1
            rw [HFR.out]
            have k1 := hB.1
            clear hB
            go_wp2_with ((with_reducible refine wpList_load_wordG ?_ 36 24 (.tmp 14) rfl Tryd.underlying36 winfo g s ?_ ?_ ?_); (exact rfl); (exact rfl); (exact k1))
            show K _ _
            have := H.out _ (Ext.refl _)
            rw [HFR.out] at this
            exact this
          · rintro L A W K hL hC hW ⟨V, rfl, HV, s0, s1⟩ hK
            have H := Lib.hid (show ∀ W', Ext W W' → K (fr (upd V 1 (.int .u64 (x : Nat)))) W' from fun W' he => hK _ _ ⟨upd V 1 (.int .u64 (x : Nat)), rfl, HV.up 1 _ (fun x hx => Option.some.inj hx), fun h0 => TgS.ext (s0 (by unfold More at h0; rwa [if_neg (by decide)] at h0)) he, fun h0 => TgS.ext (s1 (more_ne h0 rfl)) he⟩)
            clear hK hC hW hL HV s0 s1
            rw [HFR.out]
            go_wp2_with fail
            show K _ _
            have := H.out _ (Ext.refl _)
            rw [HFR.out] at this
            exact this
          · rintro L A W K hL hC hW ⟨V, rfl, HV, s0, s1⟩ hK
            have e1 : V 1 = .int .u64 (x : Nat) := HV 1 _ rfl (hW 1 rfl)
            have hB := s0 (hC.no (hC.no (hC.no (hC.no hL 3 _ rfl rfl) 4 _ rfl rfl) 5 _ rfl rfl) 7 _ rfl rfl)
            have H := Lib.hid (show ∀ W', Ext W W' → K (fr (upd V 2 (wv x))) W' from fun W' he => hK _ _ ⟨upd V 2 (wv x), rfl, HV.up 2 _ (fun x hx => Option.some.inj hx), fun h0 => TgS.ext (s0 (by unfold More at h0; rwa [if_neg (by decide)] at h0)) he, fun h0 => TgS.ext (s1 (more_ne h0 rfl)) he⟩)
            have HU := Lib.hid (show (upd V 2 (wv x)) 1 = .int .u64 (x : Nat) from e1)
            clear hK hC hW hL HV s0 s1
            rw [HFR.out]
            rw [e1]
            clear e1
            clear hB
            go_wp2_with fail
            refine (of_any x _ rfl _ HX6.out).mono ?_
            rintro e wx ⟨rfl, he⟩
            have := H.out _ he
            clear H
            go_wp2_with fail
            show K _ _
            rw [HFR.out] at this
            obtain u1 := HU.out
            rw [u1] at this
            exact this
          · rintro L A W K hL hC hW ⟨V, rfl, HV, s0, s1⟩ hK
            have e0 : V 0 = wv s := HV 0 _ rfl (hW 0 rfl)
            have e2 : V 2 = wv x := HV 2 _ rfl (hW 2 rfl)
            have hB := s0 (hC.no (hC.no (hC.no hL 4 _ rfl rfl) 5 _ rfl rfl) 7 _ rfl rfl)
            have H := Lib.hid (show ∀ W', Ext W W' → K (fr (upd V 3 (.tuple #[wv ((s + x) % M256), .bool (ovr s x)]))) W' from fun W' he => hK _ _ ⟨upd V 3 (.tuple #[wv ((s + x) % M256), .bool (ovr s x)]), rfl, HV.up 3 _ (fun x hx => Option.some.inj hx), fun h0 => TgS.ext (s0 (by unfold More at h0; rwa [if_neg (by decide)] at h0)) he, fun h0 => TgS.ext (s1 (more_ne h0 rfl)) he⟩)
            have HU := Lib.hid (show (upd V 3 (.tuple #[wv ((s + x) % M256), .bool (ovr s x)])) 0 = wv s ∧ (upd V 3 (.tuple #[wv ((s + x) % M256), .bool (ovr s x)])) 2 = wv x from ⟨e0, e2⟩)
            clear hK hC hW hL HV s0 s1
            rw [HFR.out]
            rw [e0, e2]
            clear e0 e2
            clear hB
            go_wp2_with fail
            refine (add_any s x _ HSM.out HXM.out).mono ?_
            rintro e wx ⟨rfl, he⟩
            have := H.out _ he
            clear H
            go_wp2_with fail
            show K _ _
            rw [HFR.out] at this
            obtain ⟨u0, u2⟩ := HU.out
            rw [u0, u2] at this
            exact this
          · rintro L A W K hL hC hW ⟨V, rfl, HV, s0, s1⟩ hK
            have e3 : V 3 = .tuple #[wv ((s + x) % M256), .bool (ovr s x)] := HV 3 _ rfl (hW 3 rfl)
            have H := Lib.hid (show ∀ W', Ext W W' → K (fr (upd V 4 (.tuple #[wv ((s + x) % M256), .bool (ovr s x)]))) W' from fun W' he => hK _ _ ⟨upd V 4 (.tuple #[wv ((s + x) % M256), .bool (ovr s x)]), rfl, HV.up 4 _ (fun x hx => Option.some.inj hx), fun h0 => TgS.ext (s0 (by unfold More at h0; rwa [if_neg (by decide)] at h0)) he, fun h0 => TgS.ext (s1 (more_ne h0 rfl)) he⟩)
            have HU := Lib.hid (show (upd V 4 (.tuple #[wv ((s + x) % M256), .bool (ovr s x)])) 3 = .tuple #[wv ((s + x) % M256), .bool (ovr s x)] from e3)
            clear hK hC hW hL HV s0 s1
            rw [HFR.out]
            rw [e3]
            clear e3
            go_wp2_with fail
            show K _ _
            have := H.out _ (Ext.refl _)
            rw [HFR.out] at this
            obtain u3 := HU.out
            rw [u3] at this
            exact this
          · rintro L A W K hL hC hW ⟨V, rfl, HV, s0, s1⟩ hK
            have e4 : V 4 = .tuple #[wv ((s + x) % M256), .bool (ovr s x)] := HV 4 _ rfl (hW 4 rfl)
            have H := Lib.hid (show ∀ W', Ext W W' → K (fr (upd V 5 (wv ((s + x) % M256)))) W' from fun W' he => hK _ _ ⟨upd V 5 (wv ((s + x) % M256)), rfl, HV.up 5 _ (fun x hx => Option.some.inj hx), fun h0 => TgS.ext (s0 (by unfold More at h0; rwa [if_neg (by decide)] at h0)) he, fun h0 => TgS.ext (s1 (more_ne h0 rfl)) he⟩)
            have HU := Lib.hid (show (upd V 5 (wv ((s + x) % M256))) 4 = .tuple #[wv ((s + x) % M256), .bool (ovr s x)] from e4)
            clear hK hC hW hL HV s0 s1
            rw [HFR.out]
            rw [e4]
            clear e4
            go_wp2_with fail
            show K _ _
            have := H.out _ (Ext.refl _)
            rw [HFR.out] at this
            obtain u4 := HU.out
            rw [u4] at this
            exact this
          · rintro L A W K hL hC hW ⟨V, rfl, HV, s0, s1⟩ hK
            have e4 : V 4 = .tuple #[wv ((s + x) % M256), .bool (ovr s x)] := HV 4 _ rfl (hW 4 rfl)
            have H := Lib.hid (show ∀ W', Ext W W' → K (fr (upd V 6 (.bool (ovr s x)))) W' from fun W' he => hK _ _ ⟨upd V 6 (.bool (ovr s x)), rfl, HV.up 6 _ (fun x hx => Option.some.inj hx), fun h0 => TgS.ext (s0 (by unfold More at h0; rwa [if_neg (by decide)] at h0)) he, fun h0 => TgS.ext (s1 (more_ne h0 rfl)) he⟩)
            have HU := Lib.hid (show (upd V 6 (.bool (ovr s x))) 4 = .tuple #[wv ((s + x) % M256), .bool (ovr s x)] from e4)
            clear hK hC hW hL HV s0 s1
            rw [HFR.out]
            rw [e4]
            clear e4
            go_wp2_with fail
            show K _ _
            have := H.out _ (Ext.refl _)
            rw [HFR.out] at this
            obtain u4 := HU.out
            rw [u4] at this
            exact this
          · rintro L A W K hL hC hW ⟨V, rfl, HV, s0, s1⟩ hK
            have e5 : V 5 = wv ((s + x) % M256) := HV 5 _ rfl (hW 5 rfl)
            have hB := s0 hL
            have H := Lib.hid (show ∀ W', (TgS w g ((s + x) % M256) W') → K (fr (V)) W' from fun W' hA => hK _ _ ⟨V, rfl, HV.st 7 rfl, fun h0 => absurd h0 (by unfold More; rw [if_pos rfl]; simp), fun h0 => hA⟩)
            have HU := Lib.hid (show (V) 5 = wv ((s + x) % M256) from e5)
            clear hK hC hW hL HV s0 s1
            rw [HFR.out]
            rw [e5]
            clear e5
            have HB := Lib.hid hB
            clear hB
            refine wpList_store_word rfl rfl 36 (.tmp 14) (.tmp 92) rfl winfo g (wc s) ((s + x) % M256) rfl rfl HB.out.1 rfl ?_
            intro w' kk gg
            have HA := Lib.hid (show TgS w g ((s + x) % M256) w' from ⟨kk, HB.out.2.grown gg HGG.out⟩)
            clear kk gg
            show K _ _
            have := H.out _ HA.out
            rw [HFR.out] at this
            obtain u5 := HU.out
            rw [u5] at this
            exact this
          · rintro L A W hL ⟨V, rfl, HV, s0, s1⟩
            have e0 : V 0 = wv s := HV 0 _ rfl (hL 0 (by simp))
            have e1 : V 1 = .int .u64 (x : Nat) := HV 1 _ rfl (hL 1 (by simp))
            have e2 : V 2 = wv x := HV 2 _ rfl (hL 2 (by simp))
            have e3 : V 3 = .tuple #[wv ((s + x) % M256), .bool (ovr s x)] := HV 3 _ rfl (hL 3 (by simp))
            have e4 : V 4 = .tuple #[wv ((s + x) % M256), .bool (ovr s x)] := HV 4 _ rfl (hL 4 (by simp))
            have e5 : V 5 = wv ((s + x) % M256) := HV 5 _ rfl (hL 5 (by simp))
            have e6 : V 6 = .bool (ovr s x) := HV 6 _ rfl (hL 6 (by simp))
            have hA := s1 (hL 7 (by simp))
            rw [HFR.out]
            rw [e0, e1, e2, e3, e4, e5, e6]
            clear hL HV HFR e0 e1 e2 e3 e4 e5 e6 s0 s1
            go_wp2
            exact ⟨⟨i + 1, by omega, rfl, Lib.hid (.inr trivial), by rw [Hid, HN.out]; exact hA⟩, by simp [intOf]; omega⟩
        · have hil : i = l.length := by omega
          subst hil
          rw [List.take_length] at HS HSM
          rcases Bool.eq_false_or_eq_true ok with hb | hb
          · have HEQ := Lib.hid (show (all + l.sum == left) = true by
              have h1 := HP.out
              unfold leftG at hall
              unfold okG at hok
              rw [hb] at hok
              rw [h1] at hall hok
              split at hall
              · have h2 : left - l.sum = all := hall
                simp
                omega
              · rename_i hno
                rw [if_neg hno] at hok
                cases hok)
            rw [hb]
            clear hok hb HP hall
            generalize all + l.sum = s at *
            go_upto_region 18 with fail
            refine wp_named fun a0 ha0 => ?_
            obtain ⟨fr, hfr⟩ : ∃ fr : (Nat → Value) → Act, ∀ V, fr V = (((((((((a0.put (some 95) (V 0)).put (some 96) (V 1)).put (some 97) (V 2)).put (some 98) (V 3)).put (some 99) (V 4)).put (some 100) (V 5)).put (some 101) (V 6)).put (some 102) (V 7)).put (some 6) (V 8)) := ⟨fun V => (((((((((a0.put (some 95) (V 0)).put (some 96) (V 1)).put (some 97) (V 2)).put (some 98) (V 3)).put (some 99) (V 4)).put (some 100) (V 5)).put (some 101) (V 6)).put (some 102) (V 7)).put (some 6) (V 8)), fun _ => rfl⟩
            rw [ha0] at hfr
            simp only [Act.put, List.setIfInBounds_toArray, List.set_cons_zero, List.set_cons_succ] at hfr
            have HFR := Lib.hid hfr
            clear hfr
            refine wp_region_inv (by kernel_rfl) (by kernel_rfl) (fun L A W => ∃ V : Nat → Value, A = fr V ∧ Vals (fun j => ([some (.bool true), some (.bool false), some (.bool false), some (wv s), some (.int .u64 (left : Nat)), some (wv left), some (.bool true), some (.bool true), some (.bool true)] : List (Option Value)).getD j none) L V ∧ (TgS w g s W)) ?_ ⟨?_, ?_, ?_, ?_, ?_, ?_, ?_, ?_, ?_, trivial⟩ ?_
            · refine ⟨fun j => a0.tmps.getD (([95, 96, 97, 98, 99, 100, 101, 102, 6] : List Nat).getD j 0) undef, ?_, Vals.no _ _ _ (far_none _ _ rfl), HS.out.ext ((Ext.refl _).drew)⟩
              rw [HFR.out, ha0]
              rfl
            all_goals clear ha0
            · rintro L A W K hL hC hW ⟨V, rfl, HV, s0⟩ hK
              have H := Lib.hid (show ∀ W', Ext W W' → K (fr (upd V 0 (.bool true))) W' from fun W' he => hK _ _ ⟨upd V 0 (.bool true), rfl, HV.up 0 _ (fun x hx => Option.some.inj hx), TgS.ext s0 he⟩)
              clear hK hC hW hL HV s0
              rw [HFR.out]
              go_wp2_with fail
              show K _ _
              have := H.out _ (Ext.refl _)
              rw [HFR.out] at this
              exact this
            · rintro L A W K hL hC hW ⟨V, rfl, HV, s0⟩ hK
              have e0 : V 0 = .bool true := HV 0 _ rfl (hW 0 rfl)
              have H := Lib.hid (show ∀ W', Ext W W' → K (fr (upd V 1 (.bool false))) W' from fun W' he => hK _ _ ⟨upd V 1 (.bool false), rfl, HV.up 1 _ (fun x hx => Option.some.inj hx), TgS.ext s0 he⟩)
              have HU := Lib.hid (show (upd V 1 (.bool false)) 0 = .bool true from e0)
              clear hK hC hW hL HV s0
              rw [HFR.out]
              rw [e0]
              clear e0
              go_wp2_with fail
              show K _ _
              have := H.out _ (Ext.refl _)
              rw [HFR.out] at this
              obtain u0 := HU.out
              rw [u0] at this
              exact this
            · rintro L A W K hL hC hW ⟨V, rfl, HV, s0⟩ hK
              have e1 : V 1 = .bool false := HV 1 _ rfl (hW 1 rfl)
              have H := Lib.hid (show ∀ W', Ext W W' → K (fr (upd V 2 (.bool false))) W' from fun W' he => hK _ _ ⟨upd V 2 (.bool false), rfl, HV.up 2 _ (fun x hx => Option.some.inj hx), TgS.ext s0 he⟩)
              have HU := Lib.hid (show (upd V 2 (.bool false)) 1 = .bool false from e1)
              clear hK hC hW hL HV s0
              rw [HFR.out]
              rw [e1]
              clear e1
              go_wp2_with fail
              show K _ _
              have := H.out _ (Ext.refl _)
              rw [HFR.out] at this
              obtain u1 := HU.out
              rw [u1] at this
              exact this
            · rintro L A W K hL hC hW ⟨V, rfl, HV, s0⟩ hK
              have e2 : V 2 = .bool false := HV 2 _ rfl (hW 2 rfl)
              have hB := s0
              have H := Lib.hid (show ∀ W', Ext W W' → K (fr (upd V 3 (wv s))) W' from fun W' he => hK _ _ ⟨upd V 3 (wv s), rfl, HV.up 3 _ (fun x hx => Option.some.inj hx), TgS.ext s0 he⟩)
              have HU := Lib.hid (show (upd V 3 (wv s)) 2 = .bool false from e2)
              clear hK hC hW hL HV s0
              rw [HFR.out]
              rw [e2]
              clear e2
              have k1 := hB.1
              clear hB
              go_wp2_with ((with_reducible refine wpList_load_wordG ?_ 36 24 (.tmp 14) rfl Tryd.underlying36 winfo g s ?_ ?_ ?_); (exact rfl); (exact rfl); (exact k1))
              show K _ _
              have := H.out _ (Ext.refl _)
              rw [HFR.out] at this
              obtain u2 := HU.out
              rw [u2] at this
              exact this
            · rintro L A W K hL hC hW ⟨V, rfl, HV, s0⟩ hK
              have e2 : V 2 = .bool false := HV 2 _ rfl (hW 2 rfl)
              have H := Lib.hid (show ∀ W', Ext W W' → K (fr (upd V 4 (.int .u64 (left : Nat)))) W' from fun W' he => hK _ _ ⟨upd V 4 (.int .u64 (left : Nat)), rfl, HV.up 4 _ (fun x hx => Option.some.inj hx), TgS.ext s0 he⟩)
              have HU := Lib.hid (show (upd V 4 (.int .u64 (left : Nat))) 2 = .bool false from e2)
              clear hK hC hW hL HV s0
              rw [HFR.out]
              rw [e2]
              clear e2
              go_wp2_with fail
              show K _ _
              have := H.out _ (Ext.refl _)
              rw [HFR.out] at this
              obtain u2 := HU.out
              rw [u2] at this
              exact this
            · rintro L A W K hL hC hW ⟨V, rfl, HV, s0⟩ hK
              have e2 : V 2 = .bool false := HV 2 _ rfl (hW 2 rfl)
              have e4 : V 4 = .int .u64 (left : Nat) := HV 4 _ rfl (hW 4 rfl)
              have hB := s0
              have H := Lib.hid (show ∀ W', Ext W W' → K (fr (upd V 5 (wv left))) W' from fun W' he => hK _ _ ⟨upd V 5 (wv left), rfl, HV.up 5 _ (fun x hx => Option.some.inj hx), TgS.ext s0 he⟩)
              have HU := Lib.hid (show (upd V 5 (wv left)) 2 = .bool false ∧ (upd V 5 (wv left)) 4 = .int .u64 (left : Nat) from ⟨e2, e4⟩)
              clear hK hC hW hL HV s0
              rw [HFR.out]
              rw [e2, e4]
              clear e2 e4
              clear hB
              go_wp2_with fail
              refine (of_any left _ rfl _ HL.out).mono ?_
              rintro e wx ⟨rfl, he⟩
              have := H.out _ he
              clear H
              go_wp2_with fail
              show K _ _
              rw [HFR.out] at this
              obtain ⟨u2, u4⟩ := HU.out
              rw [u2, u4] at this
              exact this
            · rintro L A W K hL hC hW ⟨V, rfl, HV, s0⟩ hK
              have e2 : V 2 = .bool false := HV 2 _ rfl (hW 2 rfl)
              have e3 : V 3 = wv s := HV 3 _ rfl (hW 3 rfl)
              have e5 : V 5 = wv left := HV 5 _ rfl (hW 5 rfl)
              have hB := s0
              have H := Lib.hid (show ∀ W', Ext W W' → K (fr (upd V 6 (.bool true))) W' from fun W' he => hK _ _ ⟨upd V 6 (.bool true), rfl, HV.up 6 _ (fun x hx => Option.some.inj hx), TgS.ext s0 he⟩)
              have HU := Lib.hid (show (upd V 6 (.bool true)) 2 = .bool false ∧ (upd V 6 (.bool true)) 3 = wv s ∧ (upd V 6 (.bool true)) 5 = wv left from ⟨e2, e3, e5⟩)
              clear hK hC hW hL HV s0
              rw [HFR.out]
              rw [e2, e3, e5]
              clear e2 e3 e5
              clear hB
              go_wp2_with ((with_reducible refine wpList_eql_word ?_ (.tmp 98) (.tmp 100) ?_ s left HSM.out HLM.out ?_ ?_ ?_); (exact rfl); (exact rfl); (exact rfl); (exact rfl))
              rw [HEQ.out]
              show K _ _
              have := H.out _ (Ext.refl _)
              rw [HFR.out] at this
              obtain ⟨u2, u3, u5⟩ := HU.out
              rw [u2, u3, u5] at this
              exact this
            · rintro L A W K hL hC hW ⟨V, rfl, HV, s0⟩ hK
              have e2 : V 2 = .bool false := HV 2 _ rfl (hW 2 rfl)
              have e6 : V 6 = .bool true := HV 6 _ rfl (hW 6 rfl)
              have H := Lib.hid (show ∀ W', Ext W W' → K (fr (upd V 7 (.bool true))) W' from fun W' he => hK _ _ ⟨upd V 7 (.bool true), rfl, HV.up 7 _ (fun x hx => Option.some.inj hx), TgS.ext s0 he⟩)
              have HU := Lib.hid (show (upd V 7 (.bool true)) 2 = .bool false ∧ (upd V 7 (.bool true)) 6 = .bool true from ⟨e2, e6⟩)
              clear hK hC hW hL HV s0
              rw [HFR.out]
              rw [e2, e6]
              clear e2 e6
              go_wp2_with fail
              show K _ _
              have := H.out _ (Ext.refl _)
              rw [HFR.out] at this
              obtain ⟨u2, u6⟩ := HU.out
              rw [u2, u6] at this
              exact this
            · rintro L A W K hL hC hW ⟨V, rfl, HV, s0⟩ hK
              have e7 : V 7 = .bool true := HV 7 _ rfl (hW 7 rfl)
              have H := Lib.hid (show ∀ W', Ext W W' → K (fr (upd V 8 (.bool true))) W' from fun W' he => hK _ _ ⟨upd V 8 (.bool true), rfl, HV.up 8 _ (fun x hx => Option.some.inj hx), TgS.ext s0 he⟩)
              have HU := Lib.hid (show (upd V 8 (.bool true)) 7 = .bool true from e7)
              clear hK hC hW hL HV s0
              rw [HFR.out]
              rw [e7]
              clear e7
              go_wp2_with fail
              show K _ _
              have := H.out _ (Ext.refl _)
              rw [HFR.out] at this
              obtain u7 := HU.out
              rw [u7] at this
              exact this
            · rintro L A W hL ⟨V, rfl, HV, s0⟩
              have e0 : V 0 = .bool true := HV 0 _ rfl (hL 0 (by simp))
              have e1 : V 1 = .bool false := HV 1 _ rfl (hL 1 (by simp))
              have e2 : V 2 = .bool false := HV 2 _ rfl (hL 2 (by simp))
              have e3 : V 3 = wv s := HV 3 _ rfl (hL 3 (by simp))
              have e4 : V 4 = .int .u64 (left : Nat) := HV 4 _ rfl (hL 4 (by simp))
              have e5 : V 5 = wv left := HV 5 _ rfl (hL 5 (by simp))
              have e6 : V 6 = .bool true := HV 6 _ rfl (hL 6 (by simp))
              have e7 : V 7 = .bool true := HV 7 _ rfl (hL 7 (by simp))
              have e8 : V 8 = .bool true := HV 8 _ rfl (hL 8 (by simp))
              have hA := s0
              rw [HFR.out]
              rw [e0, e1, e2, e3, e4, e5, e6, e7, e8]
              clear hL HV HFR e0 e1 e2 e3 e4 e5 e6 e7 e8 s0
              go_wp2
              go_ret
              exact ⟨rfl, hA.2⟩
          · rw [hb]
            clear hok hb HP hall
            generalize all + l.sum = s at *
            go_upto_region 18 with fail
            refine wp_named fun a0 ha0 => ?_
            obtain ⟨fr, hfr⟩ : ∃ fr : (Nat → Value) → Act, ∀ V, fr V = (((((((((a0.put (some 95) (V 0)).put (some 96) (V 1)).put (some 97) (V 2)).put (some 98) (V 3)).put (some 99) (V 4)).put (some 100) (V 5)).put (some 101) (V 6)).put (some 102) (V 7)).put (some 6) (V 8)) := ⟨fun V => (((((((((a0.put (some 95) (V 0)).put (some 96) (V 1)).put (some 97) (V 2)).put (some 98) (V 3)).put (some 99) (V 4)).put (some 100) (V 5)).put (some 101) (V 6)).put (some 102) (V 7)).put (some 6) (V 8)), fun _ => rfl⟩
            rw [ha0] at hfr
            simp only [Act.put, List.setIfInBounds_toArray, List.set_cons_zero, List.set_cons_succ] at hfr
            have HFR := Lib.hid hfr
            clear hfr
            refine wp_region_inv (by kernel_rfl) (by kernel_rfl) (fun L A W => ∃ V : Nat → Value, A = fr V ∧ Vals (fun j => ([some (.bool false), some (.bool true), some (.bool true), some (undef), some (undef), some (undef), some (undef), some (.bool true), some (.bool true)] : List (Option Value)).getD j none) L V ∧ (TgS w g s W)) ?_ ⟨?_, ?_, ?_, ?_, ?_, ?_, ?_, ?_, ?_, trivial⟩ ?_
            · refine ⟨fun j => a0.tmps.getD (([95, 96, 97, 98, 99, 100, 101, 102, 6] : List Nat).getD j 0) undef, ?_, Vals.no _ _ _ (far_none _ _ rfl), HS.out.ext ((Ext.refl _).drew)⟩
              rw [HFR.out, ha0]
              rfl
            all_goals clear ha0
            · rintro L A W K hL hC hW ⟨V, rfl, HV, s0⟩ hK
              have H := Lib.hid (show ∀ W', Ext W W' → K (fr (upd V 0 (.bool false))) W' from fun W' he => hK _ _ ⟨upd V 0 (.bool false), rfl, HV.up 0 _ (fun x hx => Option.some.inj hx), TgS.ext s0 he⟩)
              clear hK hC hW hL HV s0
              rw [HFR.out]
              go_wp2_with fail
              show K _ _
              have := H.out _ (Ext.refl _)
              rw [HFR.out] at this
              exact this
            · rintro L A W K hL hC hW ⟨V, rfl, HV, s0⟩ hK
              have e0 : V 0 = .bool false := HV 0 _ rfl (hW 0 rfl)
              have H := Lib.hid (show ∀ W', Ext W W' → K (fr (upd V 1 (.bool true))) W' from fun W' he => hK _ _ ⟨upd V 1 (.bool true), rfl, HV.up 1 _ (fun x hx => Option.some.inj hx), TgS.ext s0 he⟩)
              have HU := Lib.hid (show (upd V 1 (.bool true)) 0 = .bool false from e0)
              clear hK hC hW hL HV s0
              rw [HFR.out]
              rw [e0]
              clear e0
              go_wp2_with fail
              show K _ _
              have := H.out _ (Ext.refl _)
              rw [HFR.out] at this
              obtain u0 := HU.out
              rw [u0] at this
              exact this
            · rintro L A W K hL hC hW ⟨V, rfl, HV, s0⟩ hK
              have e1 : V 1 = .bool true := HV 1 _ rfl (hW 1 rfl)
              have H := Lib.hid (show ∀ W', Ext W W' → K (fr (upd V 2 (.bool true))) W' from fun W' he => hK _ _ ⟨upd V 2 (.bool true), rfl, HV.up 2 _ (fun x hx => Option.some.inj hx), TgS.ext s0 he⟩)
              have HU := Lib.hid (show (upd V 2 (.bool true)) 1 = .bool true from e1)
              clear hK hC hW hL HV s0
              rw [HFR.out]
              rw [e1]
              clear e1
              go_wp2_with fail
              show K _ _
              have := H.out _ (Ext.refl _)
              rw [HFR.out] at this
              obtain u1 := HU.out
              rw [u1] at this
              exact this
            · rintro L A W K hL hC hW ⟨V, rfl, HV, s0⟩ hK
              have e2 : V 2 = .bool true := HV 2 _ rfl (hW 2 rfl)
              have H := Lib.hid (show ∀ W', Ext W W' → K (fr (upd V 3 (undef))) W' from fun W' he => hK _ _ ⟨upd V 3 (undef), rfl, HV.up 3 _ (fun x hx => Option.some.inj hx), TgS.ext s0 he⟩)
              have HU := Lib.hid (show (upd V 3 (undef)) 2 = .bool true from e2)
              clear hK hC hW hL HV s0
              rw [HFR.out]
              rw [e2]
              clear e2
              go_wp2_with fail
              show K _ _
              have := H.out _ (Ext.refl _)
              rw [HFR.out] at this
              obtain u2 := HU.out
              rw [u2] at this
              exact this
            · rintro L A W K hL hC hW ⟨V, rfl, HV, s0⟩ hK
              have e2 : V 2 = .bool true := HV 2 _ rfl (hW 2 rfl)
              have H := Lib.hid (show ∀ W', Ext W W' → K (fr (upd V 4 (undef))) W' from fun W' he => hK _ _ ⟨upd V 4 (undef), rfl, HV.up 4 _ (fun x hx => Option.some.inj hx), TgS.ext s0 he⟩)
              have HU := Lib.hid (show (upd V 4 (undef)) 2 = .bool true from e2)
              clear hK hC hW hL HV s0
              rw [HFR.out]
              rw [e2]
              clear e2
              go_wp2_with fail
              show K _ _
              have := H.out _ (Ext.refl _)
              rw [HFR.out] at this
              obtain u2 := HU.out
              rw [u2] at this
              exact this
            · rintro L A W K hL hC hW ⟨V, rfl, HV, s0⟩ hK
              have e2 : V 2 = .bool true := HV 2 _ rfl (hW 2 rfl)
              have e4 : V 4 = undef := HV 4 _ rfl (hW 4 rfl)
              have H := Lib.hid (show ∀ W', Ext W W' → K (fr (upd V 5 (undef))) W' from fun W' he => hK _ _ ⟨upd V 5 (undef), rfl, HV.up 5 _ (fun x hx => Option.some.inj hx), TgS.ext s0 he⟩)
              have HU := Lib.hid (show (upd V 5 (undef)) 2 = .bool true ∧ (upd V 5 (undef)) 4 = undef from ⟨e2, e4⟩)
              clear hK hC hW hL HV s0
              rw [HFR.out]
              rw [e2, e4]
              clear e2 e4
              go_wp2_with fail
              show K _ _
              have := H.out _ (Ext.refl _)
              rw [HFR.out] at this
              obtain ⟨u2, u4⟩ := HU.out
              rw [u2, u4] at this
              exact this
            · rintro L A W K hL hC hW ⟨V, rfl, HV, s0⟩ hK
              have e2 : V 2 = .bool true := HV 2 _ rfl (hW 2 rfl)
              have e3 : V 3 = undef := HV 3 _ rfl (hW 3 rfl)
              have e5 : V 5 = undef := HV 5 _ rfl (hW 5 rfl)
              have H := Lib.hid (show ∀ W', Ext W W' → K (fr (upd V 6 (undef))) W' from fun W' he => hK _ _ ⟨upd V 6 (undef), rfl, HV.up 6 _ (fun x hx => Option.some.inj hx), TgS.ext s0 he⟩)
              have HU := Lib.hid (show (upd V 6 (undef)) 2 = .bool true ∧ (upd V 6 (undef)) 3 = undef ∧ (upd V 6 (undef)) 5 = undef from ⟨e2, e3, e5⟩)
              clear hK hC hW hL HV s0
              rw [HFR.out]
              rw [e2, e3, e5]
              clear e2 e3 e5
              go_wp2_with fail
              show K _ _
              have := H.out _ (Ext.refl _)
              rw [HFR.out] at this
              obtain ⟨u2, u3, u5⟩ := HU.out
              rw [u2, u3, u5] at this
              exact this
            · rintro L A W K hL hC hW ⟨V, rfl, HV, s0⟩ hK
              have e2 : V 2 = .bool true := HV 2 _ rfl (hW 2 rfl)
              have e6 : V 6 = undef := HV 6 _ rfl (hW 6 rfl)
              have H := Lib.hid (show ∀ W', Ext W W' → K (fr (upd V 7 (.bool true))) W' from fun W' he => hK _ _ ⟨upd V 7 (.bool true), rfl, HV.up 7 _ (fun x hx => Option.some.inj hx), TgS.ext s0 he⟩)
              have HU := Lib.hid (show (upd V 7 (.bool true)) 2 = .bool true ∧ (upd V 7 (.bool true)) 6 = undef from ⟨e2, e6⟩)
              clear hK hC hW hL HV s0
              rw [HFR.out]
              rw [e2, e6]
              clear e2 e6
              go_wp2_with fail
              show K _ _
              have := H.out _ (Ext.refl _)
              rw [HFR.out] at this
              obtain ⟨u2, u6⟩ := HU.out
              rw [u2, u6] at this
              exact this
            · rintro L A W K hL hC hW ⟨V, rfl, HV, s0⟩ hK
              have e7 : V 7 = .bool true := HV 7 _ rfl (hW 7 rfl)
              have H := Lib.hid (show ∀ W', Ext W W' → K (fr (upd V 8 (.bool true))) W' from fun W' he => hK _ _ ⟨upd V 8 (.bool true), rfl, HV.up 8 _ (fun x hx => Option.some.inj hx), TgS.ext s0 he⟩)
              have HU := Lib.hid (show (upd V 8 (.bool true)) 7 = .bool true from e7)
              clear hK hC hW hL HV s0
              rw [HFR.out]
              rw [e7]
              clear e7
              go_wp2_with fail
              show K _ _
              have := H.out _ (Ext.refl _)
              rw [HFR.out] at this
              obtain u7 := HU.out
              rw [u7] at this
              exact this
            · rintro L A W hL ⟨V, rfl, HV, s0⟩
              have e0 : V 0 = .bool false := HV 0 _ rfl (hL 0 (by simp))
              have e1 : V 1 = .bool true := HV 1 _ rfl (hL 1 (by simp))
              have e2 : V 2 = .bool true := HV 2 _ rfl (hL 2 (by simp))
              have e3 : V 3 = undef := HV 3 _ rfl (hL 3 (by simp))
              have e4 : V 4 = undef := HV 4 _ rfl (hL 4 (by simp))
              have e5 : V 5 = undef := HV 5 _ rfl (hL 5 (by simp))
              have e6 : V 6 = undef := HV 6 _ rfl (hL 6 (by simp))
              have e7 : V 7 = .bool true := HV 7 _ rfl (hL 7 (by simp))
              have e8 : V 8 = .bool true := HV 8 _ rfl (hL 8 (by simp))
              have hA := s0
              rw [HFR.out]
              rw [e0, e1, e2, e3, e4, e5, e6, e7, e8]
              clear hL HV HFR e0 e1 e2 e3 e4 e5 e6 e7 e8 s0
              go_wp2
              go_ret
              exact ⟨rfl, hA.2⟩

    · obtain ⟨b, o, rfl, _⟩ : ∃ b o, A = some ⟨b, o, none⟩ ∧ True := by
        obtain ⟨A', c', e, _, _, h3⟩ := HC.out
        injection e with e1 e2 e3
        obtain ⟨b, o, hA, _⟩ := h3 h0
        exact ⟨b, o, e1.trans hA, trivial⟩
      subst hck
      go_wp2_with fail
      have hcl := key (.slice (some ⟨b, o, none⟩) 0 0) (by rw [List.drop_of_length_le (by omega)]; exact Gs.zero (Nat.zero_le _))
      refine hcl.mono ?_
      clear hcl
      rintro e w1 ⟨rfl, rfl⟩
      clear key HQ
      have d1 : decide (left < leftG left l) = false := decide_eq_false (by omega)
      obtain ⟨all, hall⟩ : ∃ all, leftG left l = all := ⟨_, rfl⟩
      obtain ⟨ok, hok⟩ : ∃ ok, okG left l = ok := ⟨_, rfl⟩
      rw [hall] at d1 hle ⊢
      rw [hok]
      have hall6 : all < 18446744073709551616 := by omega
      have d2 : (ok != ok) = false := by simp
      have d3 : (all != all) = false := by simp
      have d4 : ((all : Int) != (all : Int)) = false := by simp
      go_upto_region 12 with fail
      clear d1 d2 d3 d4
      go_wp2_with fail
      refine (of_any all _ rfl w1 hall6).mono ?_
      rintro e w2 ⟨rfl, hE2⟩
      have HE2 := Lib.hid (HE1.out.trans hE2)
      clear hE2 HC HE1
      have hcs : Cs (w2.alloc (.cells #[.int .u64 0, .int .u64 0, .int .u64 0, .int .u64 0] 36)) w2.heap.size 36 (wc 0) := Cs.new _ _ _ _ rfl
      have HX7 := Lib.hid ((Ext.refl w2).alloc (.cells #[.int .u64 0, .int .u64 0, .int .u64 0, .int .u64 0] 36))
      have HSZ := Lib.hid (Nat.le_refl w2.heap.size)
      go_upto_region 13 with (refine wpList_store_word rfl rfl 36 (.tmp 14) (.tmp 80) rfl winfo w2.heap.size (wc 0) all rfl rfl hcs rfl ?_; intro w3 hw3 hg3; have HS3 := Lib.hid (show TgS w w2.heap.size all w3 from ⟨hw3, HE2.out.trans (HX7.out.grown hg3 (Nat.le_refl _))⟩); clear hw3 hg3 hcs HX7)
      have HGG := Lib.hid HE2.out.size
      obtain ⟨g, hg⟩ : ∃ g, w2.heap.size = g := ⟨_, rfl⟩
      rw [hg] at HS3 HGG ⊢
      clear hg HSZ HE2
      have HF := Lib.hid (sum_few l (fun i hi => by obtain ⟨_, _, _, _, h⟩ := HC0.out.el i hi; exact h))
      have hlen9 : l.length ≤ 9223372036854775807 := by omega
      go_wp2_with fail
      go_loopw [83] (fun iv wr => ∃ i : Nat, i ≤ l.length ∧ iv = .int .i64 i ∧ Hid (Ext w3 wr ∨ True) ∧ Hid (TgS w g (all + (l.take i).sum) wr) ) (fun iv _ => l.length - (intOf iv).toNat)
      case atStart => exact ⟨0, Nat.zero_le _, rfl, Lib.hid (.inr trivial), by simpa using HS3⟩
      case round =>
        clear HS3
        obtain ⟨i, hi, rfl, _, HS⟩ := hrel
        have HSM := Lib.hid (show all + (l.take i).sum < M256 by have := HF.out i hi; unfold M256; omega)
        by_cases hlt : i < l.length
        · obtain ⟨b2, o2, e2, hck, hxl⟩ := HC0.out.el i hlt
          replace hck := HS.out.2.cell hck
          cases e2
          have hd : decide (i < l.length) = true := decide_eq_true hlt
          have HN := Lib.hid (show all + (l.take (i + 1)).sum = (all + (l.take i).sum + l.getD i 0) % M256 by
            have h1 := HF.out (i + 1) (by omega)
            have h2 := sum_step l i hlt
            rw [Nat.mod_eq_of_lt (by unfold M256; omega)]
            omega)
          generalize l.getD i 0 = x at *
          generalize all + (l.take i).sum = s at *
          have HX6 := Lib.hid hxl
          have HXM := Lib.hid (show x < M256 by unfold M256; omega)
          clear hxl
          go_upto_region 16 with fail
          clear hck hd
          refine wp_named fun a0 ha0 => ?_
          obtain ⟨fr, hfr⟩ : ∃ fr : (Nat → Value) → Act, ∀ V, fr V = (((((((a0.put (some 88) (V 0)).put (some 89) (V 1)).put (some 90) (V 2)).put (some 91) (V 3)).put (some 87) (V 4)).put (some 92) (V 5)).put (some 93) (V 6)) := ⟨fun V => (((((((a0.put (some 88) (V 0)).put (some 89) (V 1)).put (some 90) (V 2)).put (some 91) (V 3)).put (some 87) (V 4)).put (some 92) (V 5)).put (some 93) (V 6)), fun _ => rfl⟩
          rw [ha0] at hfr
          simp only [Act.put, List.setIfInBounds_toArray, List.set_cons_zero, List.set_cons_succ] at hfr
          have HFR := Lib.hid hfr
          clear hfr
          refine wp_region_inv (by kernel_rfl) (by kernel_rfl) (fun L A W => ∃ V : Nat → Value, A = fr V ∧ Vals (fun j => ([some (wv s), some (.int .u64 (x : Nat)), some (wv x), some (.tuple #[wv ((s + x) % M256), .bool (ovr s x)]), some (.tuple #[wv ((s + x) % M256), .bool (ovr s x)]), some (wv ((s + x) % M256)), some (.bool (ovr s x)), none] : List (Option Value)).getD j none) L V ∧ (L 7 = false → TgS w g s W) ∧ (L 7 = true → TgS w g ((s + x) % M256) W)) ?_ ⟨?_, ?_, ?_, ?_, ?_, ?_, ?_, ?_, trivial⟩ ?_
          · refine ⟨fun j => a0.tmps.getD (([88, 89, 90, 91, 87, 92, 93, 0] : List Nat).getD j 0) undef, ?_, Vals.no _ _ _ (far_none _ _ rfl), fun _ => HS.out.ext ((Ext.refl _).drew), fun h0 => absurd h0 (by decide)⟩
            rw [HFR.out, ha0]
            rfl
          all_goals clear ha0
          · rintro L A W K hL hC hW ⟨V, rfl, HV, s0, s1⟩ hK
            have hB := s0 (hC.no (hC.no (hC.no (hC.no hL 3 _ rfl rfl) 4 _ rfl rfl) 5 _ rfl rfl) 7 _ rfl rfl)
            have H := Lib.hid (show ∀ W', Ext W W' → K (fr (upd V 0 (wv s))) W' from fun W' he => hK _ _ ⟨upd V 0 (wv s), rfl, HV.up 0 _ (fun x hx => Option.some.inj hx), fun h0 => TgS.ext (s0 (by unfold More at h0; rwa [if_neg (by decide)] at h0)) he, fun h0 => TgS.ext (s1 (more_ne h0 rfl)) he⟩)
            clear hK hC hW hL HV s0 s1
            rw [HFR.out]
            have k1 := hB.1
            clear hB
            go_wp2_with ((with_reducible refine wpList_load_wordG ?_ 36 24 (.tmp 14) rfl Tryd.underlying36 winfo g s ?_ ?_ ?_); (exact rfl); (exact rfl); (exact k1))
            show K _ _
            have := H.out _ (Ext.refl _)
            rw [HFR.out] at this
            exact this
          · rintro L A W K hL hC hW ⟨V, rfl, HV, s0, s1⟩ hK
            have H := Lib.hid (show ∀ W', Ext W W' → K (fr (upd V 1 (.int .u64 (x : Nat)))) W' from fun W' he => hK _ _ ⟨upd V 1 (.int .u64 (x : Nat)), rfl, HV.up 1 _ (fun x hx => Option.some.inj hx), fun h0 => TgS.ext (s0 (by unfold More at h0; rwa [if_neg (by decide)] at h0)) he, fun h0 => TgS.ext (s1 (more_ne h0 rfl)) he⟩)
            clear hK hC hW hL HV s0 s1
            rw [HFR.out]
            go_wp2_with fail
            show K _ _
            have := H.out _ (Ext.refl _)
            rw [HFR.out] at this
            exact this
          · rintro L A W K hL hC hW ⟨V, rfl, HV, s0, s1⟩ hK
            have e1 : V 1 = .int .u64 (x : Nat) := HV 1 _ rfl (hW 1 rfl)
            have hB := s0 (hC.no (hC.no (hC.no (hC.no hL 3 _ rfl rfl) 4 _ rfl rfl) 5 _ rfl rfl) 7 _ rfl rfl)
            have H := Lib.hid (show ∀ W', Ext W W' → K (fr (upd V 2 (wv x))) W' from fun W' he => hK _ _ ⟨upd V 2 (wv x), rfl, HV.up 2 _ (fun x hx => Option.some.inj hx), fun h0 => TgS.ext (s0 (by unfold More at h0; rwa [if_neg (by decide)] at h0)) he, fun h0 => TgS.ext (s1 (more_ne h0 rfl)) he⟩)
            have HU := Lib.hid (show (upd V 2 (wv x)) 1 = .int .u64 (x : Nat) from e1)
            clear hK hC hW hL HV s0 s1
            rw [HFR.out]
            rw [e1]
            clear e1
            clear hB
            go_wp2_with fail
            refine (of_any x _ rfl _ HX6.out).mono ?_
            rintro e wx ⟨rfl, he⟩
            have := H.out _ he
            clear H
            go_wp2_with fail
            show K _ _
            rw [HFR.out] at this
            obtain u1 := HU.out
            rw [u1] at this
            exact this
          · rintro L A W K hL hC hW ⟨V, rfl, HV, s0, s1⟩ hK
            have e0 : V 0 = wv s := HV 0 _ rfl (hW 0 rfl)
            have e2 : V 2 = wv x := HV 2 _ rfl (hW 2 rfl)
            have hB := s0 (hC.no (hC.no (hC.no hL 4 _ rfl rfl) 5 _ rfl rfl) 7 _ rfl rfl)
            have H := Lib.hid (show ∀ W', Ext W W' → K (fr (upd V 3 (.tuple #[wv ((s + x) % M256), .bool (ovr s x)]))) W' from fun W' he => hK _ _ ⟨upd V 3 (.tuple #[wv ((s + x) % M256), .bool (ovr s x)]), rfl, HV.up 3 _ (fun x hx => Option.some.inj hx), fun h0 => TgS.ext (s0 (by unfold More at h0; rwa [if_neg (by decide)] at h0)) he, fun h0 => TgS.ext (s1 (more_ne h0 rfl)) he⟩)
            have HU := Lib.hid (show (upd V 3 (.tuple #[wv ((s + x) % M256), .bool (ovr s x)])) 0 = wv s ∧ (upd V 3 (.tuple #[wv ((s + x) % M256), .bool (ovr s x)])) 2 = wv x from ⟨e0, e2⟩)
            clear hK hC hW hL HV s0 s1
            rw [HFR.out]
            rw [e0, e2]
            clear e0 e2
            clear hB
            go_wp2_with fail
            refine (add_any s x _ HSM.out HXM.out).mono ?_
            rintro e wx ⟨rfl, he⟩
            have := H.out _ he
            clear H
            go_wp2_with fail
            show K _ _
            rw [HFR.out] at this
            obtain ⟨u0, u2⟩ := HU.out
            rw [u0, u2] at this
            exact this
          · rintro L A W K hL hC hW ⟨V, rfl, HV, s0, s1⟩ hK
            have e3 : V 3 = .tuple #[wv ((s + x) % M256), .bool (ovr s x)] := HV 3 _ rfl (hW 3 rfl)
            have H := Lib.hid (show ∀ W', Ext W W' → K (fr (upd V 4 (.tuple #[wv ((s + x) % M256), .bool (ovr s x)]))) W' from fun W' he => hK _ _ ⟨upd V 4 (.tuple #[wv ((s + x) % M256), .bool (ovr s x)]), rfl, HV.up 4 _ (fun x hx => Option.some.inj hx), fun h0 => TgS.ext (s0 (by unfold More at h0; rwa [if_neg (by decide)] at h0)) he, fun h0 => TgS.ext (s1 (more_ne h0 rfl)) he⟩)
            have HU := Lib.hid (show (upd V 4 (.tuple #[wv ((s + x) % M256), .bool (ovr s x)])) 3 = .tuple #[wv ((s + x) % M256), .bool (ovr s x)] from e3)
            clear hK hC hW hL HV s0 s1
            rw [HFR.out]
            rw [e3]
            clear e3
            go_wp2_with fail
            show K _ _
            have := H.out _ (Ext.refl _)
            rw [HFR.out] at this
            obtain u3 := HU.out
            rw [u3] at this
            exact this
          · rintro L A W K hL hC hW ⟨V, rfl, HV, s0, s1⟩ hK
            have e4 : V 4 = .tuple #[wv ((s + x) % M256), .bool (ovr s x)] := HV 4 _ rfl (hW 4 rfl)
            have H := Lib.hid (show ∀ W', Ext W W' → K (fr (upd V 5 (wv ((s + x) % M256)))) W' from fun W' he => hK _ _ ⟨upd V 5 (wv ((s + x) % M256)), rfl, HV.up 5 _ (fun x hx => Option.some.inj hx), fun h0 => TgS.ext (s0 (by unfold More at h0; rwa [if_neg (by decide)] at h0)) he, fun h0 => TgS.ext (s1 (more_ne h0 rfl)) he⟩)
            have HU := Lib.hid (show (upd V 5 (wv ((s + x) % M256))) 4 = .tuple #[wv ((s + x) % M256), .bool (ovr s x)] from e4)
            clear hK hC hW hL HV s0 s1
            rw [HFR.out]
            rw [e4]
            clear e4
            go_wp2_with fail
            show K _ _
            have := H.out _ (Ext.refl _)
            rw [HFR.out] at this
            obtain u4 := HU.out
            rw [u4] at this
            exact this
          · rintro L A W K hL hC hW ⟨V, rfl, HV, s0, s1⟩ hK
            have e4 : V 4 = .tuple #[wv ((s + x) % M256), .bool (ovr s x)] := HV 4 _ rfl (hW 4 rfl)
            have H := Lib.hid (show ∀ W', Ext W W' → K (fr (upd V 6 (.bool (ovr s x)))) W' from fun W' he => hK _ _ ⟨upd V 6 (.bool (ovr s x)), rfl, HV.up 6 _ (fun x hx => Option.some.inj hx), fun h0 => TgS.ext (s0 (by unfold More at h0; rwa [if_neg (by decide)] at h0)) he, fun h0 => TgS.ext (s1 (more_ne h0 rfl)) he⟩)
            have HU := Lib.hid (show (upd V 6 (.bool (ovr s x))) 4 = .tuple #[wv ((s + x) % M256), .bool (ovr s x)] from e4)
            clear hK hC hW hL HV s0 s1
            rw [HFR.out]
            rw [e4]
            clear e4
            go_wp2_with fail
            show K _ _
            have := H.out _ (Ext.refl _)
            rw [HFR.out] at this
            obtain u4 := HU.out
            rw [u4] at this
            exact this
          · rintro L A W K hL hC hW ⟨V, rfl, HV, s0, s1⟩ hK
            have e5 : V 5 = wv ((s + x) % M256) := HV 5 _ rfl (hW 5 rfl)
            have hB := s0 hL
            have H := Lib.hid (show ∀ W', (TgS w g ((s + x) % M256) W') → K (fr (V)) W' from fun W' hA => hK _ _ ⟨V, rfl, HV.st 7 rfl, fun h0 => absurd h0 (by unfold More; rw [if_pos rfl]; simp), fun h0 => hA⟩)
            have HU := Lib.hid (show (V) 5 = wv ((s + x) % M256) from e5)
            clear hK hC hW hL HV s0 s1
            rw [HFR.out]
            rw [e5]
            clear e5
            have HB := Lib.hid hB
            clear hB
            refine wpList_store_word rfl rfl 36 (.tmp 14) (.tmp 92) rfl winfo g (wc s) ((s + x) % M256) rfl rfl HB.out.1 rfl ?_
            intro w' kk gg
            have HA := Lib.hid (show TgS w g ((s + x) % M256) w' from ⟨kk, HB.out.2.grown gg HGG.out⟩)
            clear kk gg
            show K _ _
            have := H.out _ HA.out
            rw [HFR.out] at this
            obtain u5 := HU.out
            rw [u5] at this
            exact this
          · rintro L A W hL ⟨V, rfl, HV, s0, s1⟩
            have e0 : V 0 = wv s := HV 0 _ rfl (hL 0 (by simp))
            have e1 : V 1 = .int .u64 (x : Nat) := HV 1 _ rfl (hL 1 (by simp))
            have e2 : V 2 = wv x := HV 2 _ rfl (hL 2 (by simp))
            have e3 : V 3 = .tuple #[wv ((s + x) % M256), .bool (ovr s x)] := HV 3 _ rfl (hL 3 (by simp))
            have e4 : V 4 = .tuple #[wv ((s + x) % M256), .bool (ovr s x)] := HV 4 _ rfl (hL 4 (by simp))
            have e5 : V 5 = wv ((s + x) % M256) := HV 5 _ rfl (hL 5 (by simp))
            have e6 : V 6 = .bool (ovr s x) := HV 6 _ rfl (hL 6 (by simp))
            have hA := s1 (hL 7 (by simp))
            rw [HFR.out]
            rw [e0, e1, e2, e3, e4, e5, e6]
            clear hL HV HFR e0 e1 e2 e3 e4 e5 e6 s0 s1
            go_wp2
            exact ⟨⟨i + 1, by omega, rfl, Lib.hid (.inr trivial), by rw [Hid, HN.out]; exact hA⟩, by simp [intOf]; omega⟩
        · have hil : i = l.length := by omega
          subst hil
          rw [List.take_length] at HS HSM
          rcases Bool.eq_false_or_eq_true ok with hb | hb
          · have HEQ := Lib.hid (show (all + l.sum == left) = true by
              have h1 := HP.out
              unfold leftG at hall
              unfold okG at hok
              rw [hb] at hok
              rw [h1] at hall hok
              split at hall
              · have h2 : left - l.sum = all := hall
                simp
                omega
              · rename_i hno
                rw [if_neg hno] at hok
                cases hok)
            rw [hb]
            clear hok hb HP hall
            generalize all + l.sum = s at *
            go_upto_region 18 with fail
            refine wp_named fun a0 ha0 => ?_
            obtain ⟨fr, hfr⟩ : ∃ fr : (Nat → Value) → Act, ∀ V, fr V = (((((((((a0.put (some 95) (V 0)).put (some 96) (V 1)).put (some 97) (V 2)).put (some 98) (V 3)).put (some 99) (V 4)).put (some 100) (V 5)).put (some 101) (V 6)).put (some 102) (V 7)).put (some 6) (V 8)) := ⟨fun V => (((((((((a0.put (some 95) (V 0)).put (some 96) (V 1)).put (some 97) (V 2)).put (some 98) (V 3)).put (some 99) (V 4)).put (some 100) (V 5)).put (some 101) (V 6)).put (some 102) (V 7)).put (some 6) (V 8)), fun _ => rfl⟩
            rw [ha0] at hfr
            simp only [Act.put, List.setIfInBounds_toArray, List.set_cons_zero, List.set_cons_succ] at hfr
            have HFR := Lib.hid hfr
            clear hfr
            refine wp_region_inv (by kernel_rfl) (by kernel_rfl) (fun L A W => ∃ V : Nat → Value, A = fr V ∧ Vals (fun j => ([some (.bool true), some (.bool false), some (.bool false), some (wv s), some (.int .u64 (left : Nat)), some (wv left), some (.bool true), some (.bool true), some (.bool true)] : List (Option Value)).getD j none) L V ∧ (TgS w g s W)) ?_ ⟨?_, ?_, ?_, ?_, ?_, ?_, ?_, ?_, ?_, trivial⟩ ?_
            · refine ⟨fun j => a0.tmps.getD (([95, 96, 97, 98, 99, 100, 101, 102, 6] : List Nat).getD j 0) undef, ?_, Vals.no _ _ _ (far_none _ _ rfl), HS.out.ext ((Ext.refl _).drew)⟩
              rw [HFR.out, ha0]
              rfl
            all_goals clear ha0
            · rintro L A W K hL hC hW ⟨V, rfl, HV, s0⟩ hK
              have H := Lib.hid (show ∀ W', Ext W W' → K (fr (upd V 0 (.bool true))) W' from fun W' he => hK _ _ ⟨upd V 0 (.bool true), rfl, HV.up 0 _ (fun x hx => Option.some.inj hx), TgS.ext s0 he⟩)
              clear hK hC hW hL HV s0
              rw [HFR.out]
              go_wp2_with fail
              show K _ _
              have := H.out _ (Ext.refl _)
              rw [HFR.out] at this
              exact this
            · rintro L A W K hL hC hW ⟨V, rfl, HV, s0⟩ hK
              have e0 : V 0 = .bool true := HV 0 _ rfl (hW 0 rfl)
              have H := Lib.hid (show ∀ W', Ext W W' → K (fr (upd V 1 (.bool false))) W' from fun W' he => hK _ _ ⟨upd V 1 (.bool false), rfl, HV.up 1 _ (fun x hx => Option.some.inj hx), TgS.ext s0 he⟩)
              have HU := Lib.hid (show (upd V 1 (.bool false)) 0 = .bool true from e0)
              clear hK hC hW hL HV s0
              rw [HFR.out]
              rw [e0]
              clear e0
              go_wp2_with fail
              show K _ _
              have := H.out _ (Ext.refl _)
              rw [HFR.out] at this
              obtain u0 := HU.out
              rw [u0] at this
              exact this
            · rintro L A W K hL hC hW ⟨V, rfl, HV, s0⟩ hK
              have e1 : V 1 = .bool false := HV 1 _ rfl (hW 1 rfl)
              have H := Lib.hid (show ∀ W', Ext W W' → K (fr (upd V 2 (.bool false))) W' from fun W' he => hK _ _ ⟨upd V 2 (.bool false), rfl, HV.up 2 _ (fun x hx => Option.some.inj hx), TgS.ext s0 he⟩)
              have HU := Lib.hid (show (upd V 2 (.bool false)) 1 = .bool false from e1)
              clear hK hC hW hL HV s0
              rw [HFR.out]
              rw [e1]
              clear e1
              go_wp2_with fail
              show K _ _
              have := H.out _ (Ext.refl _)
              rw [HFR.out] at this
              obtain u1 := HU.out
              rw [u1] at this
              exact this
            · rintro L A W K hL hC hW ⟨V, rfl, HV, s0⟩ hK
              have e2 : V 2 = .bool false := HV 2 _ rfl (hW 2 rfl)
              have hB := s0
              have H := Lib.hid (show ∀ W', Ext W W' → K (fr (upd V 3 (wv s))) W' from fun W' he => hK _ _ ⟨upd V 3 (wv s), rfl, HV.up 3 _ (fun x hx => Option.some.inj hx), TgS.ext s0 he⟩)
              have HU := Lib.hid (show (upd V 3 (wv s)) 2 = .bool false from e2)
              clear hK hC hW hL HV s0
              rw [HFR.out]
              rw [e2]
              clear e2
              have k1 := hB.1
              clear hB
              go_wp2_with ((with_reducible refine wpList_load_wordG ?_ 36 24 (.tmp 14) rfl Tryd.underlying36 winfo g s ?_ ?_ ?_); (exact rfl); (exact rfl); (exact k1))
              show K _ _
              have := H.out _ (Ext.refl _)
              rw [HFR.out] at this
              obtain u2 := HU.out
              rw [u2] at this
              exact this
            · rintro L A W K hL hC hW ⟨V, rfl, HV, s0⟩ hK
              have e2 : V 2 = .bool false := HV 2 _ rfl (hW 2 rfl)
              have H := Lib.hid (show ∀ W', Ext W W' → K (fr (upd V 4 (.int .u64 (left : Nat)))) W' from fun W' he => hK _ _ ⟨upd V 4 (.int .u64 (left : Nat)), rfl, HV.up 4 _ (fun x hx => Option.some.inj hx), TgS.ext s0 he⟩)
              have HU := Lib.hid (show (upd V 4 (.int .u64 (left : Nat))) 2 = .bool false from e2)
              clear hK hC hW hL HV s0
              rw [HFR.out]
              rw [e2]
              clear e2
              go_wp2_with fail
              show K _ _
              have := H.out _ (Ext.refl _)
              rw [HFR.out] at this
              obtain u2 := HU.out
              rw [u2] at this
              exact this
            · rintro L A W K hL hC hW ⟨V, rfl, HV, s0⟩ hK
              have e2 : V 2 = .bool false := HV 2 _ rfl (hW 2 rfl)
              have e4 : V 4 = .int .u64 (left : Nat) := HV 4 _ rfl (hW 4 rfl)
              have hB := s0
              have H := Lib.hid (show ∀ W', Ext W W' → K (fr (upd V 5 (wv left))) W' from fun W' he => hK _ _ ⟨upd V 5 (wv left), rfl, HV.up 5 _ (fun x hx => Option.some.inj hx), TgS.ext s0 he⟩)
              have HU := Lib.hid (show (upd V 5 (wv left)) 2 = .bool false ∧ (upd V 5 (wv left)) 4 = .int .u64 (left : Nat) from ⟨e2, e4⟩)
              clear hK hC hW hL HV s0
              rw [HFR.out]
              rw [e2, e4]
              clear e2 e4
              clear hB
              go_wp2_with fail
              refine (of_any left _ rfl _ HL.out).mono ?_
              rintro e wx ⟨rfl, he⟩
              have := H.out _ he
              clear H
              go_wp2_with fail
              show K _ _
              rw [HFR.out] at this
              obtain ⟨u2, u4⟩ := HU.out
              rw [u2, u4] at this
              exact this
            · rintro L A W K hL hC hW ⟨V, rfl, HV, s0⟩ hK
              have e2 : V 2 = .bool false := HV 2 _ rfl (hW 2 rfl)
              have e3 : V 3 = wv s := HV 3 _ rfl (hW 3 rfl)
              have e5 : V 5 = wv left := HV 5 _ rfl (hW 5 rfl)
              have hB := s0
              have H := Lib.hid (show ∀ W', Ext W W' → K (fr (upd V 6 (.bool true))) W' from fun W' he => hK _ _ ⟨upd V 6 (.bool true), rfl, HV.up 6 _ (fun x hx => Option.some.inj hx), TgS.ext s0 he⟩)
              have HU := Lib.hid (show (upd V 6 (.bool true)) 2 = .bool false ∧ (upd V 6 (.bool true)) 3 = wv s ∧ (upd V 6 (.bool true)) 5 = wv left from ⟨e2, e3, e5⟩)
              clear hK hC hW hL HV s0
              rw [HFR.out]
              rw [e2, e3, e5]
              clear e2 e3 e5
              clear hB
              go_wp2_with ((with_reducible refine wpList_eql_word ?_ (.tmp 98) (.tmp 100) ?_ s left HSM.out HLM.out ?_ ?_ ?_); (exact rfl); (exact rfl); (exact rfl); (exact rfl))
              rw [HEQ.out]
              show K _ _
              have := H.out _ (Ext.refl _)
              rw [HFR.out] at this
              obtain ⟨u2, u3, u5⟩ := HU.out
              rw [u2, u3, u5] at this
              exact this
            · rintro L A W K hL hC hW ⟨V, rfl, HV, s0⟩ hK
              have e2 : V 2 = .bool false := HV 2 _ rfl (hW 2 rfl)
              have e6 : V 6 = .bool true := HV 6 _ rfl (hW 6 rfl)
              have H := Lib.hid (show ∀ W', Ext W W' → K (fr (upd V 7 (.bool true))) W' from fun W' he => hK _ _ ⟨upd V 7 (.bool true), rfl, HV.up 7 _ (fun x hx => Option.some.inj hx), TgS.ext s0 he⟩)
              have HU := Lib.hid (show (upd V 7 (.bool true)) 2 = .bool false ∧ (upd V 7 (.bool true)) 6 = .bool true from ⟨e2, e6⟩)
              clear hK hC hW hL HV s0
              rw [HFR.out]
              rw [e2, e6]
              clear e2 e6
              go_wp2_with fail
              show K _ _
              have := H.out _ (Ext.refl _)
              rw [HFR.out] at this
              obtain ⟨u2, u6⟩ := HU.out
              rw [u2, u6] at this
              exact this
            · rintro L A W K hL hC hW ⟨V, rfl, HV, s0⟩ hK
              have e7 : V 7 = .bool true := HV 7 _ rfl (hW 7 rfl)
              have H := Lib.hid (show ∀ W', Ext W W' → K (fr (upd V 8 (.bool true))) W' from fun W' he => hK _ _ ⟨upd V 8 (.bool true), rfl, HV.up 8 _ (fun x hx => Option.some.inj hx), TgS.ext s0 he⟩)
              have HU := Lib.hid (show (upd V 8 (.bool true)) 7 = .bool true from e7)
              clear hK hC hW hL HV s0
              rw [HFR.out]
              rw [e7]
              clear e7
              go_wp2_with fail
              show K _ _
              have := H.out _ (Ext.refl _)
              rw [HFR.out] at this
              obtain u7 := HU.out
              rw [u7] at this
              exact this
            · rintro L A W hL ⟨V, rfl, HV, s0⟩
              have e0 : V 0 = .bool true := HV 0 _ rfl (hL 0 (by simp))
              have e1 : V 1 = .bool false := HV 1 _ rfl (hL 1 (by simp))
              have e2 : V 2 = .bool false := HV 2 _ rfl (hL 2 (by simp))
              have e3 : V 3 = wv s := HV 3 _ rfl (hL 3 (by simp))
              have e4 : V 4 = .int .u64 (left : Nat) := HV 4 _ rfl (hL 4 (by simp))
              have e5 : V 5 = wv left := HV 5 _ rfl (hL 5 (by simp))
              have e6 : V 6 = .bool true := HV 6 _ rfl (hL 6 (by simp))
              have e7 : V 7 = .bool true := HV 7 _ rfl (hL 7 (by simp))
              have e8 : V 8 = .bool true := HV 8 _ rfl (hL 8 (by simp))
              have hA := s0
              rw [HFR.out]
              rw [e0, e1, e2, e3, e4, e5, e6, e7, e8]
              clear hL HV HFR e0 e1 e2 e3 e4 e5 e6 e7 e8 s0
              go_wp2
              go_ret
              exact ⟨rfl, hA.2⟩
          · rw [hb]
            clear hok hb HP hall
            generalize all + l.sum = s at *
            go_upto_region 18 with fail
            refine wp_named fun a0 ha0 => ?_
            obtain ⟨fr, hfr⟩ : ∃ fr : (Nat → Value) → Act, ∀ V, fr V = (((((((((a0.put (some 95) (V 0)).put (some 96) (V 1)).put (some 97) (V 2)).put (some 98) (V 3)).put (some 99) (V 4)).put (some 100) (V 5)).put (some 101) (V 6)).put (some 102) (V 7)).put (some 6) (V 8)) := ⟨fun V => (((((((((a0.put (some 95) (V 0)).put (some 96) (V 1)).put (some 97) (V 2)).put (some 98) (V 3)).put (some 99) (V 4)).put (some 100) (V 5)).put (some 101) (V 6)).put (some 102) (V 7)).put (some 6) (V 8)), fun _ => rfl⟩
            rw [ha0] at hfr
            simp only [Act.put, List.setIfInBounds_toArray, List.set_cons_zero, List.set_cons_succ] at hfr
            have HFR := Lib.hid hfr
            clear hfr
            refine wp_region_inv (by kernel_rfl) (by kernel_rfl) (fun L A W => ∃ V : Nat → Value, A = fr V ∧ Vals (fun j => ([some (.bool false), some (.bool true), some (.bool true), some (undef), some (undef), some (undef), some (undef), some (.bool true), some (.bool true)] : List (Option Value)).getD j none) L V ∧ (TgS w g s W)) ?_ ⟨?_, ?_, ?_, ?_, ?_, ?_, ?_, ?_, ?_, trivial⟩ ?_
            · refine ⟨fun j => a0.tmps.getD (([95, 96, 97, 98, 99, 100, 101, 102, 6] : List Nat).getD j 0) undef, ?_, Vals.no _ _ _ (far_none _ _ rfl), HS.out.ext ((Ext.refl _).drew)⟩
              rw [HFR.out, ha0]
              rfl
            all_goals clear ha0
            · rintro L A W K hL hC hW ⟨V, rfl, HV, s0⟩ hK
              have H := Lib.hid (show ∀ W', Ext W W' → K (fr (upd V 0 (.bool false))) W' from fun W' he => hK _ _ ⟨upd V 0 (.bool false), rfl, HV.up 0 _ (fun x hx => Option.some.inj hx), TgS.ext s0 he⟩)
              clear hK hC hW hL HV s0
              rw [HFR.out]
              go_wp2_with fail
              show K _ _
              have := H.out _ (Ext.refl _)
              rw [HFR.out] at this
              exact this
            · rintro L A W K hL hC hW ⟨V, rfl, HV, s0⟩ hK
              have e0 : V 0 = .bool false := HV 0 _ rfl (hW 0 rfl)
              have H := Lib.hid (show ∀ W', Ext W W' → K (fr (upd V 1 (.bool true))) W' from fun W' he => hK _ _ ⟨upd V 1 (.bool true), rfl, HV.up 1 _ (fun x hx => Option.some.inj hx), TgS.ext s0 he⟩)
              have HU := Lib.hid (show (upd V 1 (.bool true)) 0 = .bool false from e0)
              clear hK hC hW hL HV s0
              rw [HFR.out]
              rw [e0]
              clear e0
              go_wp2_with fail
              show K _ _
              have := H.out _ (Ext.refl _)
              rw [HFR.out] at this
              obtain u0 := HU.out
              rw [u0] at this
              exact this
            · rintro L A W K hL hC hW ⟨V, rfl, HV, s0⟩ hK
              have e1 : V 1 = .bool true := HV 1 _ rfl (hW 1 rfl)
              have H := Lib.hid (show ∀ W', Ext W W' → K (fr (upd V 2 (.bool true))) W' from fun W' he => hK _ _ ⟨upd V 2 (.bool true), rfl, HV.up 2 _ (fun x hx => Option.some.inj hx), TgS.ext s0 he⟩)
              have HU := Lib.hid (show (upd V 2 (.bool true)) 1 = .bool true from e1)
              clear hK hC hW hL HV s0
              rw [HFR.out]
              rw [e1]
              clear e1
              go_wp2_with fail
              show K _ _
              have := H.out _ (Ext.refl _)
              rw [HFR.out] at this
              obtain u1 := HU.out
              rw [u1] at this
              exact this
            · rintro L A W K hL hC hW ⟨V, rfl, HV, s0⟩ hK
              have e2 : V 2 = .bool true := HV 2 _ rfl (hW 2 rfl)
              have H := Lib.hid (show ∀ W', Ext W W' → K (fr (upd V 3 (undef))) W' from fun W' he => hK _ _ ⟨upd V 3 (undef), rfl, HV.up 3 _ (fun x hx => Option.some.inj hx), TgS.ext s0 he⟩)
              have HU := Lib.hid (show (upd V 3 (undef)) 2 = .bool true from e2)
              clear hK hC hW hL HV s0
              rw [HFR.out]
              rw [e2]
              clear e2
              go_wp2_with fail
              show K _ _
              have := H.out _ (Ext.refl _)
              rw [HFR.out] at this
              obtain u2 := HU.out
              rw [u2] at this
              exact this
            · rintro L A W K hL hC hW ⟨V, rfl, HV, s0⟩ hK
              have e2 : V 2 = .bool true := HV 2 _ rfl (hW 2 rfl)
              have H := Lib.hid (show ∀ W', Ext W W' → K (fr (upd V 4 (undef))) W' from fun W' he => hK _ _ ⟨upd V 4 (undef), rfl, HV.up 4 _ (fun x hx => Option.some.inj hx), TgS.ext s0 he⟩)
              have HU := Lib.hid (show (upd V 4 (undef)) 2 = .bool true from e2)
              clear hK hC hW hL HV s0
              rw [HFR.out]
              rw [e2]
              clear e2
              go_wp2_with fail
              show K _ _
              have := H.out _ (Ext.refl _)
              rw [HFR.out] at this
              obtain u2 := HU.out
              rw [u2] at this
              exact this
            · rintro L A W K hL hC hW ⟨V, rfl, HV, s0⟩ hK
              have e2 : V 2 = .bool true := HV 2 _ rfl (hW 2 rfl)
              have e4 : V 4 = undef := HV 4 _ rfl (hW 4 rfl)
              have H := Lib.hid (show ∀ W', Ext W W' → K (fr (upd V 5 (undef))) W' from fun W' he => hK _ _ ⟨upd V 5 (undef), rfl, HV.up 5 _ (fun x hx => Option.some.inj hx), TgS.ext s0 he⟩)
              have HU := Lib.hid (show (upd V 5 (undef)) 2 = .bool true ∧ (upd V 5 (undef)) 4 = undef from ⟨e2, e4⟩)
              clear hK hC hW hL HV s0
              rw [HFR.out]
              rw [e2, e4]
              clear e2 e4
              go_wp2_with fail
              show K _ _
              have := H.out _ (Ext.refl _)
              rw [HFR.out] at this
              obtain ⟨u2, u4⟩ := HU.out
              rw [u2, u4] at this
              exact this
            · rintro L A W K hL hC hW ⟨V, rfl, HV, s0⟩ hK
              have e2 : V 2 = .bool true := HV 2 _ rfl (hW 2 rfl)
              have e3 : V 3 = undef := HV 3 _ rfl (hW 3 rfl)
              have e5 : V 5 = undef := HV 5 _ rfl (hW 5 rfl)
              have H := Lib.hid (show ∀ W', Ext W W' → K (fr (upd V 6 (undef))) W' from fun W' he => hK _ _ ⟨upd V 6 (undef), rfl, HV.up 6 _ (fun x hx => Option.some.inj hx), TgS.ext s0 he⟩)
              have HU := Lib.hid (show (upd V 6 (undef)) 2 = .bool true ∧ (upd V 6 (undef)) 3 = undef ∧ (upd V 6 (undef)) 5 = undef from ⟨e2, e3, e5⟩)
              clear hK hC hW hL HV s0
              rw [HFR.out]
              rw [e2, e3, e5]
              clear e2 e3 e5
              go_wp2_with fail
              show K _ _
              have := H.out _ (Ext.refl _)
              rw [HFR.out] at this
              obtain ⟨u2, u3, u5⟩ := HU.out
              rw [u2, u3, u5] at this
              exact this
            · rintro L A W K hL hC hW ⟨V, rfl, HV, s0⟩ hK
              have e2 : V 2 = .bool true := HV 2 _ rfl (hW 2 rfl)
              have e6 : V 6 = undef := HV 6 _ rfl (hW 6 rfl)
              have H := Lib.hid (show ∀ W', Ext W W' → K (fr (upd V 7 (.bool true))) W' from fun W' he => hK _ _ ⟨upd V 7 (.bool true), rfl, HV.up 7 _ (fun x hx => Option.some.inj hx), TgS.ext s0 he⟩)
              have HU := Lib.hid (show (upd V 7 (.bool true)) 2 = .bool true ∧ (upd V 7 (.bool true)) 6 = undef from ⟨e2, e6⟩)
              clear hK hC hW hL HV s0
              rw [HFR.out]
              rw [e2, e6]
              clear e2 e6
              go_wp2_with fail
              show K _ _
              have := H.out _ (Ext.refl _)
              rw [HFR.out] at this
              obtain ⟨u2, u6⟩ := HU.out
              rw [u2, u6] at this
              exact this
            · rintro L A W K hL hC hW ⟨V, rfl, HV, s0⟩ hK
              have e7 : V 7 = .bool true := HV 7 _ rfl (hW 7 rfl)
              have H := Lib.hid (show ∀ W', Ext W W' → K (fr (upd V 8 (.bool true))) W' from fun W' he => hK _ _ ⟨upd V 8 (.bool true), rfl, HV.up 8 _ (fun x hx => Option.some.inj hx), TgS.ext s0 he⟩)
              have HU := Lib.hid (show (upd V 8 (.bool true)) 7 = .bool true from e7)
              clear hK hC hW hL HV s0
              rw [HFR.out]
              rw [e7]
              clear e7
              go_wp2_with fail
              show K _ _
              have := H.out _ (Ext.refl _)
              rw [HFR.out] at this
              obtain u7 := HU.out
              rw [u7] at this
              exact this
            · rintro L A W hL ⟨V, rfl, HV, s0⟩
              have e0 : V 0 = .bool false := HV 0 _ rfl (hL 0 (by simp))
              have e1 : V 1 = .bool true := HV 1 _ rfl (hL 1 (by simp))
              have e2 : V 2 = .bool true := HV 2 _ rfl (hL 2 (by simp))
              have e3 : V 3 = undef := HV 3 _ rfl (hL 3 (by simp))
              have e4 : V 4 = undef := HV 4 _ rfl (hL 4 (by simp))
              have e5 : V 5 = undef := HV 5 _ rfl (hL 5 (by simp))
              have e6 : V 6 = undef := HV 6 _ rfl (hL 6 (by simp))
              have e7 : V 7 = .bool true := HV 7 _ rfl (hL 7 (by simp))
              have e8 : V 8 = .bool true := HV 8 _ rfl (hL 8 (by simp))
              have hA := s0
              rw [HFR.out]
              rw [e0, e1, e2, e3, e4, e5, e6, e7, e8]
              clear hL HV HFR e0 e1 e2 e3 e4 e5 e6 e7 e8 s0
              go_wp2
              go_ret
              exact ⟨rfl, hA.2⟩

    · obtain ⟨b, o, rfl, _⟩ : ∃ b o, A = some ⟨b, o, none⟩ ∧ True := by
        obtain ⟨A', c', e, _, _, h3⟩ := HC.out
        injection e with e1 e2 e3
        obtain ⟨b, o, hA, _⟩ := h3 h0
        exact ⟨b, o, e1.trans hA, trivial⟩
      have hck2 : ¬ c ≤ k := by omega
      have hck3 : 0 < c - k := by omega
      go_wp2_with fail
      have hcl := key _ (HC.out.drop k hk)
      refine hcl.mono ?_
      clear hcl
      rintro e w1 ⟨rfl, rfl⟩
      clear key HQ
      have d1 : decide (left < leftG left l) = false := decide_eq_false (by omega)
      obtain ⟨all, hall⟩ : ∃ all, leftG left l = all := ⟨_, rfl⟩
      obtain ⟨ok, hok⟩ : ∃ ok, okG left l = ok := ⟨_, rfl⟩
      rw [hall] at d1 hle ⊢
      rw [hok]
      have hall6 : all < 18446744073709551616 := by omega
      have d2 : (ok != ok) = false := by simp
      have d3 : (all != all) = false := by simp
      have d4 : ((all : Int) != (all : Int)) = false := by simp
      go_upto_region 12 with fail
      clear d1 d2 d3 d4
      go_wp2_with fail
      refine (of_any all _ rfl w1 hall6).mono ?_
      rintro e w2 ⟨rfl, hE2⟩
      have HE2 := Lib.hid (HE1.out.trans hE2)
      clear hE2 HC HE1
      have hcs : Cs (w2.alloc (.cells #[.int .u64 0, .int .u64 0, .int .u64 0, .int .u64 0] 36)) w2.heap.size 36 (wc 0) := Cs.new _ _ _ _ rfl
      have HX7 := Lib.hid ((Ext.refl w2).alloc (.cells #[.int .u64 0, .int .u64 0, .int .u64 0, .int .u64 0] 36))
      have HSZ := Lib.hid (Nat.le_refl w2.heap.size)
      go_upto_region 13 with (refine wpList_store_word rfl rfl 36 (.tmp 14) (.tmp 80) rfl winfo w2.heap.size (wc 0) all rfl rfl hcs rfl ?_; intro w3 hw3 hg3; have HS3 := Lib.hid (show TgS w w2.heap.size all w3 from ⟨hw3, HE2.out.trans (HX7.out.grown hg3 (Nat.le_refl _))⟩); clear hw3 hg3 hcs HX7)
      have HGG := Lib.hid HE2.out.size
      obtain ⟨g, hg⟩ : ∃ g, w2.heap.size = g := ⟨_, rfl⟩
      rw [hg] at HS3 HGG ⊢
      clear hg HSZ HE2
      have HF := Lib.hid (sum_few l (fun i hi => by obtain ⟨_, _, _, _, h⟩ := HC0.out.el i hi; exact h))
      have hlen9 : l.length ≤ 9223372036854775807 := by omega
      go_wp2_with fail
      go_loopw [83] (fun iv wr => ∃ i : Nat, i ≤ l.length ∧ iv = .int .i64 i ∧ Hid (Ext w3 wr ∨ True) ∧ Hid (TgS w g (all + (l.take i).sum) wr) ) (fun iv _ => l.length - (intOf iv).toNat)
      case atStart => exact ⟨0, Nat.zero_le _, rfl, Lib.hid (.inr trivial), by simpa using HS3⟩
      case round =>
        clear HS3
        obtain ⟨i, hi, rfl, _, HS⟩ := hrel
        have HSM := Lib.hid (show all + (l.take i).sum < M256 by have := HF.out i hi; unfold M256; omega)
        by_cases hlt : i < l.length
        · obtain ⟨b2, o2, e2, hck, hxl⟩ := HC0.out.el i hlt
          replace hck := HS.out.2.cell hck
          cases e2
          have hd : decide (i < l.length) = true := decide_eq_true hlt
          have HN := Lib.hid (show all + (l.take (i + 1)).sum = (all + (l.take i).sum + l.getD i 0) % M256 by
            have h1 := HF.out (i + 1) (by omega)
            have h2 := sum_step l i hlt
            rw [Nat.mod_eq_of_lt (by unfold M256; omega)]
            omega)
          generalize l.getD i 0 = x at *
          generalize all + (l.take i).sum = s at *
          have HX6 := Lib.hid hxl
          have HXM := Lib.hid (show x < M256 by unfold M256; omega)
          clear hxl
          go_upto_region 16 with fail
          clear hck hd
          refine wp_named fun a0 ha0 => ?_
          obtain ⟨fr, hfr⟩ : ∃ fr : (Nat → Value) → Act, ∀ V, fr V = (((((((a0.put (some 88) (V 0)).put (some 89) (V 1)).put (some 90) (V 2)).put (some 91) (V 3)).put (some 87) (V 4)).put (some 92) (V 5)).put (some 93) (V 6)) := ⟨fun V => (((((((a0.put (some 88) (V 0)).put (some 89) (V 1)).put (some 90) (V 2)).put (some 91) (V 3)).put (some 87) (V 4)).put (some 92) (V 5)).put (some 93) (V 6)), fun _ => rfl⟩
          rw [ha0] at hfr
          simp only [Act.put, List.setIfInBounds_toArray, List.set_cons_zero, List.set_cons_succ] at hfr
          have HFR := Lib.hid hfr
          clear hfr
          refine wp_region_inv (by kernel_rfl) (by kernel_rfl) (fun L A W => ∃ V : Nat → Value, A = fr V ∧ Vals (fun j => ([some (wv s), some (.int .u64 (x : Nat)), some (wv x), some (.tuple #[wv ((s + x) % M256), .bool (ovr s x)]), some (.tuple #[wv ((s + x) % M256), .bool (ovr s x)]), some (wv ((s + x) % M256)), some (.bool (ovr s x)), none] : List (Option Value)).getD j none) L V ∧ (L 7 = false → TgS w g s W) ∧ (L 7 = true → TgS w g ((s + x) % M256) W)) ?_ ⟨?_, ?_, ?_, ?_, ?_, ?_, ?_, ?_, trivial⟩ ?_
          · refine ⟨fun j => a0.tmps.getD (([88, 89, 90, 91, 87, 92, 93, 0] : List Nat).getD j 0) undef, ?_, Vals.no _ _ _ (far_none _ _ rfl), fun _ => HS.out.ext ((Ext.refl _).drew), fun h0 => absurd h0 (by decide)⟩
            rw [HFR.out, ha0]
            rfl
          all_goals clear ha0
          · rintro L A W K hL hC hW ⟨V, rfl, HV, s0, s1⟩ hK
            have hB := s0 (hC.no (hC.no (hC.no (hC.no hL 3 _ rfl rfl) 4 _ rfl rfl) 5 _ rfl rfl) 7 _ rfl rfl)
            have H := Lib.hid (show ∀ W', Ext W W' → K (fr (upd V 0 (wv s))) W' from fun W' he => hK _ _ ⟨upd V 0 (wv s), rfl, HV.up 0 _ (fun x hx => Option.some.inj hx), fun h0 => TgS.ext (s0 (by unfold More at h0; rwa [if_neg (by decide)] at h0)) he, fun h0 => TgS.ext (s1 (more_ne h0 rfl)) he⟩)
            clear hK hC hW hL HV s0 s1
            rw [HFR.out]
            have k1 := hB.1
            clear hB
            go_wp2_with ((with_reducible refine wpList_load_wordG ?_ 36 24 (.tmp 14) rfl Tryd.underlying36 winfo g s ?_ ?_ ?_); (exact rfl); (exact rfl); (exact k1))
            show K _ _
            have := H.out _ (Ext.refl _)
            rw [HFR.out] at this
            exact this
          · rintro L A W K hL hC hW ⟨V, rfl, HV, s0, s1⟩ hK
            have H := Lib.hid (show ∀ W', Ext W W' → K (fr (upd V 1 (.int .u64 (x : Nat)))) W' from fun W' he => hK _ _ ⟨upd V 1 (.int .u64 (x : Nat)), rfl, HV.up 1 _ (fun x hx => Option.some.inj hx), fun h0 => TgS.ext (s0 (by unfold More at h0; rwa [if_neg (by decide)] at h0)) he, fun h0 => TgS.ext (s1 (more_ne h0 rfl)) he⟩)
            clear hK hC hW hL HV s0 s1
            rw [HFR.out]
            go_wp2_with fail
            show K _ _
            have := H.out _ (Ext.refl _)
            rw [HFR.out] at this
            exact this
          · rintro L A W K hL hC hW ⟨V, rfl, HV, s0, s1⟩ hK
            have e1 : V 1 = .int .u64 (x : Nat) := HV 1 _ rfl (hW 1 rfl)
            have hB := s0 (hC.no (hC.no (hC.no (hC.no hL 3 _ rfl rfl) 4 _ rfl rfl) 5 _ rfl rfl) 7 _ rfl rfl)
            have H := Lib.hid (show ∀ W', Ext W W' → K (fr (upd V 2 (wv x))) W' from fun W' he => hK _ _ ⟨upd V 2 (wv x), rfl, HV.up 2 _ (fun x hx => Option.some.inj hx), fun h0 => TgS.ext (s0 (by unfold More at h0; rwa [if_neg (by decide)] at h0)) he, fun h0 => TgS.ext (s1 (more_ne h0 rfl)) he⟩)
            have HU := Lib.hid (show (upd V 2 (wv x)) 1 = .int .u64 (x : Nat) from e1)
            clear hK hC hW hL HV s0 s1
            rw [HFR.out]
            rw [e1]
            clear e1
            clear hB
            go_wp2_with fail
            refine (of_any x _ rfl _ HX6.out).mono ?_
            rintro e wx ⟨rfl, he⟩
            have := H.out _ he
            clear H
            go_wp2_with fail
            show K _ _
            rw [HFR.out] at this
            obtain u1 := HU.out
            rw [u1] at this
            exact this
          · rintro L A W K hL hC hW ⟨V, rfl, HV, s0, s1⟩ hK
            have e0 : V 0 = wv s := HV 0 _ rfl (hW 0 rfl)
            have e2 : V 2 = wv x := HV 2 _ rfl (hW 2 rfl)
            have hB := s0 (hC.no (hC.no (hC.no hL 4 _ rfl rfl) 5 _ rfl rfl) 7 _ rfl rfl)
            have H := Lib.hid (show ∀ W', Ext W W' → K (fr (upd V 3 (.tuple #[wv ((s + x) % M256), .bool (ovr s x)]))) W' from fun W' he => hK _ _ ⟨upd V 3 (.tuple #[wv ((s + x) % M256), .bool (ovr s x)]), rfl, HV.up 3 _ (fun x hx => Option.some.inj hx), fun h0 => TgS.ext (s0 (by unfold More at h0; rwa [if_neg (by decide)] at h0)) he, fun h0 => TgS.ext (s1 (more_ne h0 rfl)) he⟩)
            have HU := Lib.hid (show (upd V 3 (.tuple #[wv ((s + x) % M256), .bool (ovr s x)])) 0 = wv s ∧ (upd V 3 (.tuple #[wv ((s + x) % M256), .bool (ovr s x)])) 2 = wv x from ⟨e0, e2⟩)
            clear hK hC hW hL HV s0 s1
            rw [HFR.out]
            rw [e0, e2]
            clear e0 e2
            clear hB
            go_wp2_with fail
            refine (add_any s x _ HSM.out HXM.out).mono ?_
            rintro e wx ⟨rfl, he⟩
            have := H.out _ he
            clear H
            go_wp2_with fail
            show K _ _
            rw [HFR.out] at this
            obtain ⟨u0, u2⟩ := HU.out
            rw [u0, u2] at this
            exact this
          · rintro L A W K hL hC hW ⟨V, rfl, HV, s0, s1⟩ hK
            have e3 : V 3 = .tuple #[wv ((s + x) % M256), .bool (ovr s x)] := HV 3 _ rfl (hW 3 rfl)
            have H := Lib.hid (show ∀ W', Ext W W' → K (fr (upd V 4 (.tuple #[wv ((s + x) % M256), .bool (ovr s x)]))) W' from fun W' he => hK _ _ ⟨upd V 4 (.tuple #[wv ((s + x) % M256), .bool (ovr s x)]), rfl, HV.up 4 _ (fun x hx => Option.some.inj hx), fun h0 => TgS.ext (s0 (by unfold More at h0; rwa [if_neg (by decide)] at h0)) he, fun h0 => TgS.ext (s1 (more_ne h0 rfl)) he⟩)
            have HU := Lib.hid (show (upd V 4 (.tuple #[wv ((s + x) % M256), .bool (ovr s x)])) 3 = .tuple #[wv ((s + x) % M256), .bool (ovr s x)] from e3)
            clear hK hC hW hL HV s0 s1
            rw [HFR.out]
            rw [e3]
            clear e3
            go_wp2_with fail
            show K _ _
            have := H.out _ (Ext.refl _)
            rw [HFR.out] at this
            obtain u3 := HU.out
            rw [u3] at this
            exact this
          · rintro L A W K hL hC hW ⟨V, rfl, HV, s0, s1⟩ hK
            have e4 : V 4 = .tuple #[wv ((s + x) % M256), .bool (ovr s x)] := HV 4 _ rfl (hW 4 rfl)
            have H := Lib.hid (show ∀ W', Ext W W' → K (fr (upd V 5 (wv ((s + x) % M256)))) W' from fun W' he => hK _ _ ⟨upd V 5 (wv ((s + x) % M256)), rfl, HV.up 5 _ (fun x hx => Option.some.inj hx), fun h0 => TgS.ext (s0 (by unfold More at h0; rwa [if_neg (by decide)] at h0)) he, fun h0 => TgS.ext (s1 (more_ne h0 rfl)) he⟩)
            have HU := Lib.hid (show (upd V 5 (wv ((s + x) % M256))) 4 = .tuple #[wv ((s + x) % M256), .bool (ovr s x)] from e4)
            clear hK hC hW hL HV s0 s1
            rw [HFR.out]
            rw [e4]
            clear e4
            go_wp2_with fail
            show K _ _
            have := H.out _ (Ext.refl _)
            rw [HFR.out] at this
            obtain u4 := HU.out
            rw [u4] at this
            exact this
          · rintro L A W K hL hC hW ⟨V, rfl, HV, s0, s1⟩ hK
            have e4 : V 4 = .tuple #[wv ((s + x) % M256), .bool (ovr s x)] := HV 4 _ rfl (hW 4 rfl)
            have H := Lib.hid (show ∀ W', Ext W W' → K (fr (upd V 6 (.bool (ovr s x)))) W' from fun W' he => hK _ _ ⟨upd V 6 (.bool (ovr s x)), rfl, HV.up 6 _ (fun x hx => Option.some.inj hx), fun h0 => TgS.ext (s0 (by unfold More at h0; rwa [if_neg (by decide)] at h0)) he, fun h0 => TgS.ext (s1 (more_ne h0 rfl)) he⟩)
            have HU := Lib.hid (show (upd V 6 (.bool (ovr s x))) 4 = .tuple #[wv ((s + x) % M256), .bool (ovr s x)] from e4)
            clear hK hC hW hL HV s0 s1
            rw [HFR.out]
            rw [e4]
            clear e4
            go_wp2_with fail
            show K _ _
            have := H.out _ (Ext.refl _)
            rw [HFR.out] at this
            obtain u4 := HU.out
            rw [u4] at this
            exact this
          · rintro L A W K hL hC hW ⟨V, rfl, HV, s0, s1⟩ hK
            have e5 : V 5 = wv ((s + x) % M256) := HV 5 _ rfl (hW 5 rfl)
            have hB := s0 hL
            have H := Lib.hid (show ∀ W', (TgS w g ((s + x) % M256) W') → K (fr (V)) W' from fun W' hA => hK _ _ ⟨V, rfl, HV.st 7 rfl, fun h0 => absurd h0 (by unfold More; rw [if_pos rfl]; simp), fun h0 => hA⟩)
            have HU := Lib.hid (show (V) 5 = wv ((s + x) % M256) from e5)
            clear hK hC hW hL HV s0 s1
            rw [HFR.out]
            rw [e5]
            clear e5
            have HB := Lib.hid hB
            clear hB
            refine wpList_store_word rfl rfl 36 (.tmp 14) (.tmp 92) rfl winfo g (wc s) ((s + x) % M256) rfl rfl HB.out.1 rfl ?_
            intro w' kk gg
            have HA := Lib.hid (show TgS w g ((s + x) % M256) w' from ⟨kk, HB.out.2.grown gg HGG.out⟩)
            clear kk gg
            show K _ _
            have := H.out _ HA.out
            rw [HFR.out] at this
            obtain u5 := HU.out
            rw [u5] at this
            exact this
          · rintro L A W hL ⟨V, rfl, HV, s0, s1⟩
            have e0 : V 0 = wv s := HV 0 _ rfl (hL 0 (by simp))
            have e1 : V 1 = .int .u64 (x : Nat) := HV 1 _ rfl (hL 1 (by simp))
            have e2 : V 2 = wv x := HV 2 _ rfl (hL 2 (by simp))
            have e3 : V 3 = .tuple #[wv ((s + x) % M256), .bool (ovr s x)] := HV 3 _ rfl (hL 3 (by simp))
            have e4 : V 4 = .tuple #[wv ((s + x) % M256), .bool (ovr s x)] := HV 4 _ rfl (hL 4 (by simp))
            have e5 : V 5 = wv ((s + x) % M256) := HV 5 _ rfl (hL 5 (by simp))
            have e6 : V 6 = .bool (ovr s x) := HV 6 _ rfl (hL 6 (by simp))
            have hA := s1 (hL 7 (by simp))
            rw [HFR.out]
            rw [e0, e1, e2, e3, e4, e5, e6]
            clear hL HV HFR e0 e1 e2 e3 e4 e5 e6 s0 s1
            go_wp2
            exact ⟨⟨i + 1, by omega, rfl, Lib.hid (.inr trivial), by rw [Hid, HN.out]; exact hA⟩, by simp [intOf]; omega⟩
        · have hil : i = l.length := by omega
          subst hil
          rw [List.take_length] at HS HSM
          rcases Bool.eq_false_or_eq_true ok with hb | hb
          · have HEQ := Lib.hid (show (all + l.sum == left) = true by
              have h1 := HP.out
              unfold leftG at hall
              unfold okG at hok
              rw [hb] at hok
              rw [h1] at hall hok
              split at hall
              · have h2 : left - l.sum = all := hall
                simp
                omega
              · rename_i hno
                rw [if_neg hno] at hok
                cases hok)
            rw [hb]
            clear hok hb HP hall
            generalize all + l.sum = s at *
            go_upto_region 18 with fail
            refine wp_named fun a0 ha0 => ?_
            obtain ⟨fr, hfr⟩ : ∃ fr : (Nat → Value) → Act, ∀ V, fr V = (((((((((a0.put (some 95) (V 0)).put (some 96) (V 1)).put (some 97) (V 2)).put (some 98) (V 3)).put (some 99) (V 4)).put (some 100) (V 5)).put (some 101) (V 6)).put (some 102) (V 7)).put (some 6) (V 8)) := ⟨fun V => (((((((((a0.put (some 95) (V 0)).put (some 96) (V 1)).put (some 97) (V 2)).put (some 98) (V 3)).put (some 99) (V 4)).put (some 100) (V 5)).put (some 101) (V 6)).put (some 102) (V 7)).put (some 6) (V 8)), fun _ => rfl⟩
            rw [ha0] at hfr
            simp only [Act.put, List.setIfInBounds_toArray, List.set_cons_zero, List.set_cons_succ] at hfr
            have HFR := Lib.hid hfr
            clear hfr
            refine wp_region_inv (by kernel_rfl) (by kernel_rfl) (fun L A W => ∃ V : Nat → Value, A = fr V ∧ Vals (fun j => ([some (.bool true), some (.bool false), some (.bool false), some (wv s), some (.int .u64 (left : Nat)), some (wv left), some (.bool true), some (.bool true), some (.bool true)] : List (Option Value)).getD j none) L V ∧ (TgS w g s W)) ?_ ⟨?_, ?_, ?_, ?_, ?_, ?_, ?_, ?_, ?_, trivial⟩ ?_
            · refine ⟨fun j => a0.tmps.getD (([95, 96, 97, 98, 99, 100, 101, 102, 6] : List Nat).getD j 0) undef, ?_, Vals.no _ _ _ (far_none _ _ rfl), HS.out.ext ((Ext.refl _).drew)⟩
              rw [HFR.out, ha0]
              rfl
            all_goals clear ha0
            · rintro L A W K hL hC hW ⟨V, rfl, HV, s0⟩ hK
              have H := Lib.hid (show ∀ W', Ext W W' → K (fr (upd V 0 (.bool true))) W' from fun W' he => hK _ _ ⟨upd V 0 (.bool true), rfl, HV.up 0 _ (fun x hx => Option.some.inj hx), TgS.ext s0 he⟩)
              clear hK hC hW hL HV s0
              rw [HFR.out]
              go_wp2_with fail
              show K _ _
              have := H.out _ (Ext.refl _)
              rw [HFR.out] at this
              exact this
            · rintro L A W K hL hC hW ⟨V, rfl, HV, s0⟩ hK
              have e0 : V 0 = .bool true := HV 0 _ rfl (hW 0 rfl)
              have H := Lib.hid (show ∀ W', Ext W W' → K (fr (upd V 1 (.bool false))) W' from fun W' he => hK _ _ ⟨upd V 1 (.bool false), rfl, HV.up 1 _ (fun x hx => Option.some.inj hx), TgS.ext s0 he⟩)
              have HU := Lib.hid (show (upd V 1 (.bool false)) 0 = .bool true from e0)
              clear hK hC hW hL HV s0
              rw [HFR.out]
              rw [e0]
              clear e0
              go_wp2_with fail
              show K _ _
              have := H.out _ (Ext.refl _)
              rw [HFR.out] at this
              obtain u0 := HU.out
              rw [u0] at this
              exact this
            · rintro L A W K hL hC hW ⟨V, rfl, HV, s0⟩ hK
              have e1 : V 1 = .bool false := HV 1 _ rfl (hW 1 rfl)
              have H := Lib.hid (show ∀ W', Ext W W' → K (fr (upd V 2 (.bool false))) W' from fun W' he => hK _ _ ⟨upd V 2 (.bool false), rfl, HV.up 2 _ (fun x hx => Option.some.inj hx), TgS.ext s0 he⟩)
              have HU := Lib.hid (show (upd V 2 (.bool false)) 1 = .bool false from e1)
              clear hK hC hW hL HV s0
              rw [HFR.out]
              rw [e1]
              clear e1
              go_wp2_with fail
              show K _ _
              have := H.out _ (Ext.refl _)
              rw [HFR.out] at this
              obtain u1 := HU.out
              rw [u1] at this
              exact this
            · rintro L A W K hL hC hW ⟨V, rfl, HV, s0⟩ hK
              have e2 : V 2 = .bool false := HV 2 _ rfl (hW 2 rfl)
              have hB := s0
              have H := Lib.hid (show ∀ W', Ext W W' → K (fr (upd V 3 (wv s))) W' from fun W' he => hK _ _ ⟨upd V 3 (wv s), rfl, HV.up 3 _ (fun x hx => Option.some.inj hx), TgS.ext s0 he⟩)
              have HU := Lib.hid (show (upd V 3 (wv s)) 2 = .bool false from e2)
              clear hK hC hW hL HV s0
              rw [HFR.out]
              rw [e2]
              clear e2
              have k1 := hB.1
              clear hB
              go_wp2_with ((with_reducible refine wpList_load_wordG ?_ 36 24 (.tmp 14) rfl Tryd.underlying36 winfo g s ?_ ?_ ?_); (exact rfl); (exact rfl); (exact k1))
              show K _ _
              have := H.out _ (Ext.refl _)
              rw [HFR.out] at this
              obtain u2 := HU.out
              rw [u2] at this
              exact this
            · rintro L A W K hL hC hW ⟨V, rfl, HV, s0⟩ hK
              have e2 : V 2 = .bool false := HV 2 _ rfl (hW 2 rfl)
              have H := Lib.hid (show ∀ W', Ext W W' → K (fr (upd V 4 (.int .u64 (left : Nat)))) W' from fun W' he => hK _ _ ⟨upd V 4 (.int .u64 (left : Nat)), rfl, HV.up 4 _ (fun x hx => Option.some.inj hx), TgS.ext s0 he⟩)
              have HU := Lib.hid (show (upd V 4 (.int .u64 (left : Nat))) 2 = .bool false from e2)
              clear hK hC hW hL HV s0
              rw [HFR.out]
              rw [e2]
              clear e2
              go_wp2_with fail
              show K _ _
              have := H.out _ (Ext.refl _)
              rw [HFR.out] at this
              obtain u2 := HU.out
              rw [u2] at this
              exact this
            · rintro L A W K hL hC hW ⟨V, rfl, HV, s0⟩ hK
              have e2 : V 2 = .bool false := HV 2 _ rfl (hW 2 rfl)
              have e4 : V 4 = .int .u64 (left : Nat) := HV 4 _ rfl (hW 4 rfl)
              have hB := s0
              have H := Lib.hid (show ∀ W', Ext W W' → K (fr (upd V 5 (wv left))) W' from fun W' he => hK _ _ ⟨upd V 5 (wv left), rfl, HV.up 5 _ (fun x hx => Option.some.inj hx), TgS.ext s0 he⟩)
              have HU := Lib.hid (show (upd V 5 (wv left)) 2 = .bool false ∧ (upd V 5 (wv left)) 4 = .int .u64 (left : Nat) from ⟨e2, e4⟩)
              clear hK hC hW hL HV s0
              rw [HFR.out]
              rw [e2, e4]
              clear e2 e4
              clear hB
              go_wp2_with fail
              refine (of_any left _ rfl _ HL.out).mono ?_
              rintro e wx ⟨rfl, he⟩
              have := H.out _ he
              clear H
              go_wp2_with fail
              show K _ _
              rw [HFR.out] at this
              obtain ⟨u2, u4⟩ := HU.out
              rw [u2, u4] at this
              exact this
            · rintro L A W K hL hC hW ⟨V, rfl, HV, s0⟩ hK
              have e2 : V 2 = .bool false := HV 2 _ rfl (hW 2 rfl)
              have e3 : V 3 = wv s := HV 3 _ rfl (hW 3 rfl)
              have e5 : V 5 = wv left := HV 5 _ rfl (hW 5 rfl)
              have hB := s0
              have H := Lib.hid (show ∀ W', Ext W W' → K (fr (upd V 6 (.bool true))) W' from fun W' he => hK _ _ ⟨upd V 6 (.bool true), rfl, HV.up 6 _ (fun x hx => Option.some.inj hx), TgS.ext s0 he⟩)
              have HU := Lib.hid (show (upd V 6 (.bool true)) 2 = .bool false ∧ (upd V 6 (.bool true)) 3 = wv s ∧ (upd V 6 (.bool true)) 5 = wv left from ⟨e2, e3, e5⟩)
              clear hK hC hW hL HV s0
              rw [HFR.out]
              rw [e2, e3, e5]
              clear e2 e3 e5
              clear hB
              go_wp2_with ((with_reducible refine wpList_eql_word ?_ (.tmp 98) (.tmp 100) ?_ s left HSM.out HLM.out ?_ ?_ ?_); (exact rfl); (exact rfl); (exact rfl); (exact rfl))
              rw [HEQ.out]
              show K _ _
              have := H.out _ (Ext.refl _)
              rw [HFR.out] at this
              obtain ⟨u2, u3, u5⟩ := HU.out
              rw [u2, u3, u5] at this
              exact this
            · rintro L A W K hL hC hW ⟨V, rfl, HV, s0⟩ hK
              have e2 : V 2 = .bool false := HV 2 _ rfl (hW 2 rfl)
              have e6 : V 6 = .bool true := HV 6 _ rfl (hW 6 rfl)
              have H := Lib.hid (show ∀ W', Ext W W' → K (fr (upd V 7 (.bool true))) W' from fun W' he => hK _ _ ⟨upd V 7 (.bool true), rfl, HV.up 7 _ (fun x hx => Option.some.inj hx), TgS.ext s0 he⟩)
              have HU := Lib.hid (show (upd V 7 (.bool true)) 2 = .bool false ∧ (upd V 7 (.bool true)) 6 = .bool true from ⟨e2, e6⟩)
              clear hK hC hW hL HV s0
              rw [HFR.out]
              rw [e2, e6]
              clear e2 e6
              go_wp2_with fail
              show K _ _
              have := H.out _ (Ext.refl _)
              rw [HFR.out] at this
              obtain ⟨u2, u6⟩ := HU.out
              rw [u2, u6] at this
              exact this
            · rintro L A W K hL hC hW ⟨V, rfl, HV, s0⟩ hK
              have e7 : V 7 = .bool true := HV 7 _ rfl (hW 7 rfl)
              have H := Lib.hid (show ∀ W', Ext W W' → K (fr (upd V 8 (.bool true))) W' from fun W' he => hK _ _ ⟨upd V 8 (.bool true), rfl, HV.up 8 _ (fun x hx => Option.some.inj hx), TgS.ext s0 he⟩)
              have HU := Lib.hid (show (upd V 8 (.bool true)) 7 = .bool true from e7)
              clear hK hC hW hL HV s0
              rw [HFR.out]
              rw [e7]
              clear e7
              go_wp2_with fail
              show K _ _
              have := H.out _ (Ext.refl _)
              rw [HFR.out] at this
              obtain u7 := HU.out
              rw [u7] at this
              exact this
            · rintro L A W hL ⟨V, rfl, HV, s0⟩
              have e0 : V 0 = .bool true := HV 0 _ rfl (hL 0 (by simp))
              have e1 : V 1 = .bool false := HV 1 _ rfl (hL 1 (by simp))
              have e2 : V 2 = .bool false := HV 2 _ rfl (hL 2 (by simp))
              have e3 : V 3 = wv s := HV 3 _ rfl (hL 3 (by simp))
              have e4 : V 4 = .int .u64 (left : Nat) := HV 4 _ rfl (hL 4 (by simp))
              have e5 : V 5 = wv left := HV 5 _ rfl (hL 5 (by simp))
              have e6 : V 6 = .bool true := HV 6 _ rfl (hL 6 (by simp))
              have e7 : V 7 = .bool true := HV 7 _ rfl (hL 7 (by simp))
              have e8 : V 8 = .bool true := HV 8 _ rfl (hL 8 (by simp))
              have hA := s0
              rw [HFR.out]
              rw [e0, e1, e2, e3, e4, e5, e6, e7, e8]
              clear hL HV HFR e0 e1 e2 e3 e4 e5 e6 e7 e8 s0
              go_wp2
              go_ret
              exact ⟨rfl, hA.2⟩
          · rw [hb]
            clear hok hb HP hall
            generalize all + l.sum = s at *
            go_upto_region 18 with fail
            refine wp_named fun a0 ha0 => ?_
            obtain ⟨fr, hfr⟩ : ∃ fr : (Nat → Value) → Act, ∀ V, fr V = (((((((((a0.put (some 95) (V 0)).put (some 96) (V 1)).put (some 97) (V 2)).put (some 98) (V 3)).put (some 99) (V 4)).put (some 100) (V 5)).put (some 101) (V 6)).put (some 102) (V 7)).put (some 6) (V 8)) := ⟨fun V => (((((((((a0.put (some 95) (V 0)).put (some 96) (V 1)).put (some 97) (V 2)).put (some 98) (V 3)).put (some 99) (V 4)).put (some 100) (V 5)).put (some 101) (V 6)).put (some 102) (V 7)).put (some 6) (V 8)), fun _ => rfl⟩
            rw [ha0] at hfr
            simp only [Act.put, List.setIfInBounds_toArray, List.set_cons_zero, List.set_cons_succ] at hfr
            have HFR := Lib.hid hfr
            clear hfr
            refine wp_region_inv (by kernel_rfl) (by kernel_rfl) (fun L A W => ∃ V : Nat → Value, A = fr V ∧ Vals (fun j => ([some (.bool false), some (.bool true), some (.bool true), some (undef), some (undef), some (undef), some (undef), some (.bool true), some (.bool true)] : List (Option Value)).getD j none) L V ∧ (TgS w g s W)) ?_ ⟨?_, ?_, ?_, ?_, ?_, ?_, ?_, ?_, ?_, trivial⟩ ?_
            · refine ⟨fun j => a0.tmps.getD (([95, 96, 97, 98, 99, 100, 101, 102, 6] : List Nat).getD j 0) undef, ?_, Vals.no _ _ _ (far_none _ _ rfl), HS.out.ext ((Ext.refl _).drew)⟩
              rw [HFR.out, ha0]
              rfl
            all_goals clear ha0
            · rintro L A W K hL hC hW ⟨V, rfl, HV, s0⟩ hK
              have H := Lib.hid (show ∀ W', Ext W W' → K (fr (upd V 0 (.bool false))) W' from fun W' he => hK _ _ ⟨upd V 0 (.bool false), rfl, HV.up 0 _ (fun x hx => Option.some.inj hx), TgS.ext s0 he⟩)
              clear hK hC hW hL HV s0
              rw [HFR.out]
              go_wp2_with fail
              show K _ _
              have := H.out _ (Ext.refl _)
              rw [HFR.out] at this
              exact this
            · rintro L A W K hL hC hW ⟨V, rfl, HV, s0⟩ hK
              have e0 : V 0 = .bool false := HV 0 _ rfl (hW 0 rfl)
              have H := Lib.hid (show ∀ W', Ext W W' → K (fr (upd V 1 (.bool true))) W' from fun W' he => hK _ _ ⟨upd V 1 (.bool true), rfl, HV.up 1 _ (fun x hx => Option.some.inj hx), TgS.ext s0 he⟩)
              have HU := Lib.hid (show (upd V 1 (.bool true)) 0 = .bool false from e0)
              clear hK hC hW hL HV s0
              rw [HFR.out]
              rw [e0]
              clear e0
              go_wp2_with fail
              show K _ _
              have := H.out _ (Ext.refl _)
              rw [HFR.out] at this
              obtain u0 := HU.out
              rw [u0] at this
              exact this
            · rintro L A W K hL hC hW ⟨V, rfl, HV, s0⟩ hK
              have e1 : V 1 = .bool true := HV 1 _ rfl (hW 1 rfl)
              have H := Lib.hid (show ∀ W', Ext W W' → K (fr (upd V 2 (.bool true))) W' from fun W' he => hK _ _ ⟨upd V 2 (.bool true), rfl, HV.up 2 _ (fun x hx => Option.some.inj hx), TgS.ext s0 he⟩)
              have HU := Lib.hid (show (upd V 2 (.bool true)) 1 = .bool true from e1)
              clear hK hC hW hL HV s0
              rw [HFR.out]
              rw [e1]
              clear e1
              go_wp2_with fail
              show K _ _
              have := H.out _ (Ext.refl _)
              rw [HFR.out] at this
              obtain u1 := HU.out
              rw [u1] at this
              exact this
            · rintro L A W K hL hC hW ⟨V, rfl, HV, s0⟩ hK
              have e2 : V 2 = .bool true := HV 2 _ rfl (hW 2 rfl)
              have H := Lib.hid (show ∀ W', Ext W W' → K (fr (upd V 3 (undef))) W' from fun W' he => hK _ _ ⟨upd V 3 (undef), rfl, HV.up 3 _ (fun x hx => Option.some.inj hx), TgS.ext s0 he⟩)
              have HU := Lib.hid (show (upd V 3 (undef)) 2 = .bool true from e2)
              clear hK hC hW hL HV s0
              rw [HFR.out]
              rw [e2]
              clear e2
              go_wp2_with fail
              show K _ _
              have := H.out _ (Ext.refl _)
              rw [HFR.out] at this
              obtain u2 := HU.out
              rw [u2] at this
              exact this
            · rintro L A W K hL hC hW ⟨V, rfl, HV, s0⟩ hK
              have e2 : V 2 = .bool true := HV 2 _ rfl (hW 2 rfl)
              have H := Lib.hid (show ∀ W', Ext W W' → K (fr (upd V 4 (undef))) W' from fun W' he => hK _ _ ⟨upd V 4 (undef), rfl, HV.up 4 _ (fun x hx => Option.some.inj hx), TgS.ext s0 he⟩)
              have HU := Lib.hid (show (upd V 4 (undef)) 2 = .bool true from e2)
              clear hK hC hW hL HV s0
              rw [HFR.out]
              rw [e2]
              clear e2
              go_wp2_with fail
              show K _ _
              have := H.out _ (Ext.refl _)
              rw [HFR.out] at this
              obtain u2 := HU.out
              rw [u2] at this
              exact this
            · rintro L A W K hL hC hW ⟨V, rfl, HV, s0⟩ hK
              have e2 : V 2 = .bool true := HV 2 _ rfl (hW 2 rfl)
              have e4 : V 4 = undef := HV 4 _ rfl (hW 4 rfl)
              have H := Lib.hid (show ∀ W', Ext W W' → K (fr (upd V 5 (undef))) W' from fun W' he => hK _ _ ⟨upd V 5 (undef), rfl, HV.up 5 _ (fun x hx => Option.some.inj hx), TgS.ext s0 he⟩)
              have HU := Lib.hid (show (upd V 5 (undef)) 2 = .bool true ∧ (upd V 5 (undef)) 4 = undef from ⟨e2, e4⟩)
              clear hK hC hW hL HV s0
              rw [HFR.out]
              rw [e2, e4]
              clear e2 e4
              go_wp2_with fail
              show K _ _
              have := H.out _ (Ext.refl _)
              rw [HFR.out] at this
              obtain ⟨u2, u4⟩ := HU.out
              rw [u2, u4] at this
              exact this
            · rintro L A W K hL hC hW ⟨V, rfl, HV, s0⟩ hK
              have e2 : V 2 = .bool true := HV 2 _ rfl (hW 2 rfl)
              have e3 : V 3 = undef := HV 3 _ rfl (hW 3 rfl)
              have e5 : V 5 = undef := HV 5 _ rfl (hW 5 rfl)
              have H := Lib.hid (show ∀ W', Ext W W' → K (fr (upd V 6 (undef))) W' from fun W' he => hK _ _ ⟨upd V 6 (undef), rfl, HV.up 6 _ (fun x hx => Option.some.inj hx), TgS.ext s0 he⟩)
              have HU := Lib.hid (show (upd V 6 (undef)) 2 = .bool true ∧ (upd V 6 (undef)) 3 = undef ∧ (upd V 6 (undef)) 5 = undef from ⟨e2, e3, e5⟩)
              clear hK hC hW hL HV s0
              rw [HFR.out]
              rw [e2, e3, e5]
              clear e2 e3 e5
              go_wp2_with fail
              show K _ _
              have := H.out _ (Ext.refl _)
              rw [HFR.out] at this
              obtain ⟨u2, u3, u5⟩ := HU.out
              rw [u2, u3, u5] at this
              exact this
            · rintro L A W K hL hC hW ⟨V, rfl, HV, s0⟩ hK
              have e2 : V 2 = .bool true := HV 2 _ rfl (hW 2 rfl)
              have e6 : V 6 = undef := HV 6 _ rfl (hW 6 rfl)
              have H := Lib.hid (show ∀ W', Ext W W' → K (fr (upd V 7 (.bool true))) W' from fun W' he => hK _ _ ⟨upd V 7 (.bool true), rfl, HV.up 7 _ (fun x hx => Option.some.inj hx), TgS.ext s0 he⟩)
              have HU := Lib.hid (show (upd V 7 (.bool true)) 2 = .bool true ∧ (upd V 7 (.bool true)) 6 = undef from ⟨e2, e6⟩)
              clear hK hC hW hL HV s0
              rw [HFR.out]
              rw [e2, e6]
              clear e2 e6
              go_wp2_with fail
              show K _ _
              have := H.out _ (Ext.refl _)
              rw [HFR.out] at this
              obtain ⟨u2, u6⟩ := HU.out
              rw [u2, u6] at this
              exact this
            · rintro L A W K hL hC hW ⟨V, rfl, HV, s0⟩ hK
              have e7 : V 7 = .bool true := HV 7 _ rfl (hW 7 rfl)
              have H := Lib.hid (show ∀ W', Ext W W' → K (fr (upd V 8 (.bool true))) W' from fun W' he => hK _ _ ⟨upd V 8 (.bool true), rfl, HV.up 8 _ (fun x hx => Option.some.inj hx), TgS.ext s0 he⟩)
              have HU := Lib.hid (show (upd V 8 (.bool true)) 7 = .bool true from e7)
              clear hK hC hW hL HV s0
              rw [HFR.out]
              rw [e7]
              clear e7
              go_wp2_with fail
              show K _ _
              have := H.out _ (Ext.refl _)
              rw [HFR.out] at this
              obtain u7 := HU.out
              rw [u7] at this
              exact this
            · rintro L A W hL ⟨V, rfl, HV, s0⟩
              have e0 : V 0 = .bool false := HV 0 _ rfl (hL 0 (by simp))
              have e1 : V 1 = .bool true := HV 1 _ rfl (hL 1 (by simp))
              have e2 : V 2 = .bool true := HV 2 _ rfl (hL 2 (by simp))
              have e3 : V 3 = undef := HV 3 _ rfl (hL 3 (by simp))
              have e4 : V 4 = undef := HV 4 _ rfl (hL 4 (by simp))
              have e5 : V 5 = undef := HV 5 _ rfl (hL 5 (by simp))
              have e6 : V 6 = undef := HV 6 _ rfl (hL 6 (by simp))
              have e7 : V 7 = .bool true := HV 7 _ rfl (hL 7 (by simp))
              have e8 : V 8 = .bool true := HV 8 _ rfl (hL 8 (by simp))
              have hA := s0
              rw [HFR.out]
              rw [e0, e1, e2, e3, e4, e5, e6, e7, e8]
              clear hL HV HFR e0 e1 e2 e3 e4 e5 e6 e7 e8 s0
              go_wp2
              go_ret
              exact ⟨rfl, hA.2⟩

set_option maxRecDepth 100000 in
theorem together_told (W : World) (args : Array Value) (h : Told Tryd.f9 W args) (ht : Tb W) : Calls Tryd.prog 9 args W (RetT W) := by
  obtain ⟨H, enc, base, ds, p, hval, hA⟩ := h
  rw [Tryd.params9] at hA hval
  obtain ⟨v0, v1, v2, d0, d1, d2, p0, p1, p2, ha, rfl, rfl, h0, h1, h2⟩ := trodAll_three hA
  obtain rfl : args = #[v0, v1, v2] := by apply Array.toList_inj.1; rw [ha]
  obtain ⟨a, rfl, hx⟩ := u64_came Tryd.underlying24 (hval 0 _ _ rfl rfl) h0
  obtain ⟨l, hl⟩ := gs_came (hval 1 _ _ rfl rfl) h1
  obtain ⟨x, rfl, _, _⟩ := int_came Tryd.underlying3 (hval 2 _ _ rfl rfl) h2
  exact together_any a v1 l x W ht hx hl
set_option maxRecDepth 100000 in
theorem together_spec (H : Type) : ∀ ds : List (DataW H), ds.length = Tryd.f9.params.toList.length → Rows.gasTogetherSpec.fn H ds = { results := [.lit (.bool true)], args := ds }
  | [_, _, _], _ => rfl
  | [], h | [_], h | [_, _], h | _ :: _ :: _ :: _ :: _, h => by rw [Tryd.params9] at h; simp at h

set_option maxRecDepth 100000 in
theorem gasTogether_holds : Rows.GasTogetherSaid :=
  OpenClaim.holds_of_wide 9 Tryd.f9 rfl rfl rfl rfl rfl rfl rfl ⟨rfl, rfl, rfl, rfl, rfl⟩ rfl rfl rfl rfl rfl (by kernel_rfl) Tryd.func9 (by kernel_rfl)
    (of_decide_eq_true (by kernel_rfl)) (by unfold Func.isWrapper; first | (rw [if_pos (by decide +kernel)]; kernel_rfl) | (rw [if_neg (by decide +kernel)]; exact ⟨rfl, rfl⟩))
    (fun os started H enc _ => law_lifted_t started (by kernel_rfl) Tryd.func9 rfl rfl (together_spec H) (of_decide_eq_true (by kernel_rfl))
      (ChangeSpec.witness_shaped (enc := enc) (C := Tryd.checked) (os := os) (X := fun w _ => laidMetH Tryd.prog laidS w) false (World.doorLaid Tryd.prog 400 os) #[.int .u64 0, .slice none 0 0, .int .i64 0] 8 rfl (World.shaped_of_RefB (by kernel_rfl) (by kernel_rfl)) (by kernel_rfl) (by kernel_rfl) (by kernel_rfl) (door_met os _)) together_told)

set_option maxRecDepth 100000 in
theorem gasTogether_card : Rows.GasTogetherCardSaid :=
  Claim7.holds_tied_plain_at .later [] [.data, .data, .data, .wider, .data] true (true, "1db432f97302d9ccf523489c3c5a307203f9cae2718eace3ef5e825b493cdc87") false
    gasTogether_holds (fun _ h => by cases h) (by kernel_rfl) (fun _ h => by cases h) gasTogether_row_tie rfl ⟨rfl, rfl⟩ (by kernel_rfl) rfl
    (fun f fn hf hfn => by
      obtain rfl : f = 9 := Option.some.inj ((show Tryd.prog.funcNamed "sheafer/sheaferlaw12.GasTogether" = some 9 by kernel_rfl).symm.trans hf) |>.symm
      obtain rfl : fn = Tryd.f9 := (Option.some.inj (Tryd.func9.symm.trans hfn)).symm
      exact ⟨by kernel_rfl, fun j t ht => by
        rw [Tryd.params9] at ht
        have hm : t ∈ [24, 31, 3] := by simpa using Array.mem_of_getElem? ht
        have hall : ([24, 31, 3].all fun u => !Tryd.prog.wantsStandIn u) = true := by kernel_rfl
        exact (show Tryd.prog.wantsStandIn t = false by simpa using List.all_eq_true.1 hall t hm)⟩)
    (by kernel_rfl)
end Go.Proofs.YtjefbfabigkeiaaDoor
