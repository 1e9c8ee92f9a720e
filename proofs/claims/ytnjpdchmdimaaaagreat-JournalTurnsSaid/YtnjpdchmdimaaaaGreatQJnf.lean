/- Package journal: each, over accounts. -/
import Derived.Test.YtnjpdchmdimaaaaGreatQJne
namespace Go.Proofs.YtnjpdchmdimaaaaGreat
open Go.ChangeShapes Go.WideShapes Go.ChangeAt Go.RowKit Go.Shelf

def EaJ {α : Type} (E : TypeId) (s : Nat) (Rd : World → List Value → α → Prop) (w : World) (b lo : Nat) (css0 : List (List Value)) (rest : List Value) (l : List α) (k : Nat) (W : World) : Prop :=
 ∃ css : List (List Value), css.length = l.length ∧ (∀ cs ∈ css, cs.length = s) ∧ Cs W b E (css.flatten ++ rest).toArray ∧ (∀ (i : Nat) cs x, i < k → css[i]? = some cs → l[i]? = some x → Far lo (fun g => g = b) W (fun W => Rd W cs x)) ∧ (∀ i, k ≤ i → css[i]? = css0[i]?) ∧ Ext w W
theorem lay_flat {s : Nat} (css : List (List Value)) (hl : ∀ cs ∈ css, cs.length = s) (rest ds : List Value) (k : Nat) (hk : k < css.length) (hd : ds.length = s) : layC (css.flatten ++ rest).toArray (k * s) ds.toArray = ((css.set k ds).flatten ++ rest).toArray := by
 have hf := flat_len css hl
 have hle : k * s + s ≤ css.flatten.length := by
  rw [hf]
  have := Nat.mul_le_mul_right s (show k + 1 ≤ css.length from hk)
  rw [Nat.add_mul, Nat.one_mul] at this
  exact this
 unfold layC
 rw [← flat_set css hl k ds hk hd]
 simp only [List.size_toArray, hd]
 rw [List.take_append_of_le_length (by omega), List.drop_append_of_le_length hle]
 simp only [List.append_assoc]
theorem ea_range {E : TypeId} {s : Nat} {b : Nat} {W : World} {css : List (List Value)} {rest : List Value} (hc : Cs W b E (css.flatten ++ rest).toArray) (hl : ∀ cs ∈ css, cs.length = s) {k : Nat} {cs : List Value} (hk : css[k]? = some cs) : W.rangeAt b (k * s) cs := by
 have h1 := flat_at css hl k cs hk
 have hlen : cs.length = s := hl cs (List.mem_of_getElem? hk)
 intro j x hx
 have hj : j < s := by have := (List.getElem?_eq_some_iff.1 hx).1; omega
 rw [← h1, List.getElem?_take, if_pos hj, List.getElem?_drop] at hx
 have := Cs.rg hc (k * s + j) x (by rw [List.getElem?_append_left (List.getElem?_eq_some_iff.1 hx).1]; exact hx)
 rwa [Nat.zero_add] at this
theorem EaJ.step {α : Type} {E : TypeId} {s : Nat} {Rd : World → List Value → α → Prop} {w : World} {b lo : Nat} {css0 : List (List Value)} {rest : List Value} {l : List α} {k : Nat} {W W1 W2 : World} {css : List (List Value)} {ds : List Value} {x : α}
  (h1 : css.length = l.length) (h2 : ∀ cs ∈ css, cs.length = s) (h4 : ∀ (i : Nat) cs x, i < k → css[i]? = some cs → l[i]? = some x → Far lo (fun g => g = b) W (fun W => Rd W cs x)) (h5 : ∀ i, k ≤ i → css[i]? = css0[i]?) (h6 : Ext w W)
  (he : Ext W W1) (hk : k < l.length) (hd : ds.length = s) (hx : l[k]? = some x) (hf : Far lo (fun g => g = b) W1 (fun W => Rd W ds x)) (hc : Cs W2 b E (layC (css.flatten ++ rest).toArray (k * s) ds.toArray)) (hg : W1.grownBy W2 (some b)) (hb : w.heap.size ≤ b) : EaJ E s Rd w b lo css0 rest l (k + 1) W2 := by
 refine ⟨css.set k ds, by rw [List.length_set, h1], fun cs hm => ?_, by rw [← lay_flat css h2 rest ds k (by omega) hd]; exact hc, fun i cs y hi hcs hy => ?_, fun i hi => ?_, (h6.trans he).grown hg hb⟩
 ·rcases List.mem_or_eq_of_mem_set hm with hm | rfl
  ·exact h2 cs hm
  ·exact hd
 ·by_cases hik : i = k
  ·subst hik
   rw [List.getElem?_set_self (by omega)] at hcs
   rw [hx] at hy
   rw [← Option.some.inj hcs, ← Option.some.inj hy]
   exact hf.old hg (.inr (.inl rfl))
  ·rw [List.getElem?_set_ne (fun e => hik e.symm)] at hcs
   exact ((h4 i cs y (by omega) hcs hy).ext he).old hg (.inr (.inl rfl))
 ·rw [List.getElem?_set_ne (by omega)]
  exact h5 i (by omega)
theorem EaJ.row {α : Type} {E : TypeId} {s : Nat} {Rd : World → List Value → α → Prop} {w W : World} {b lo cap : Nat} {css0 : List (List Value)} {rest : List Value} {l : List α} (h : EaJ E s Rd w b lo css0 rest l l.length W) (hlo : lo ≤ b) (hc : l.length ≤ cap) (hm : cap ≤ maxLen) (hs : (l.length * s + rest.length) = cap * s) : RowO E s Rd No lo W (.slice (some ⟨b, 0, none⟩) l.length cap) l := by
 obtain ⟨css, h1, h2, h3, h4, _, _⟩ := h
 have hf := flat_len css h2
 refine ⟨css, h1, h2, ⟨by rw [hf, h1], .inr ⟨b, cap, _, rfl, hlo, h3, hc, hm, ?_, ?_⟩⟩, fun i cs x hi hx => ?_⟩
 ·rw [List.size_toArray, List.length_append, hf, h1]; exact hs
 ·rw [List.take_append_of_le_length (by rw [hf, h1]; exact Nat.le_refl _), List.take_of_length_le (by rw [hf, h1]; exact Nat.le_refl _)]
 ·have hil : i < l.length := (List.getElem?_eq_some_iff.1 hx).1
  refine (h4 i cs x hil hi hx).less fun g hg => ?_
  rcases hg with hg | hg
  ·exact hg.elim
  ·exact .inl (by have : some b = some g := hg; exact (Option.some.inj this).symm)
theorem acm_far {lo lo1 b : Nat} {W : World} {x : Ac} {u v : Value} (hx : x.ok) (h1 : JbS lo1 W u x.code) (h2 : JkS lo1 W v x.store) (hl : lo ≤ lo1) (hb : b < lo1) : Far lo (fun g => g = b) W (fun W => AcR W (acc x u v).toList x) := by
 obtain ⟨A, c, rfl, h1⟩ := h1
 obtain ⟨B, d, rfl, h2⟩ := h2
 have f1 : Far lo1 No W (fun W => Bs W (.slice A x.code.length c) x.code) := Own.far h1 (fun g _ h => h.elim)
 have f2 : Far lo1 No W (fun W => Pks W (.slice B x.store.length d) x.store) := OwnK.far h2 (fun g _ h => h.elim)
 exact (((f1.both f2).imp fun W h => ⟨hx, _, _, rfl, h.1, h.2⟩).less (X' := fun g => g = b) (fun g hg => .inr (.inl (by rw [hg]; exact hb)))).low hl
theorem ac_getD {l : List Ac} {k : Nat} (hk : k < l.length) : l[k]? = some (l.getD k acz) := by rw [List.getD_eq_getElem?_getD, List.getElem?_eq_getElem hk]; rfl
set_option maxRecDepth 100000 in
set_option maxHeartbeats 8000000 in
theorem eachAc_any (v : Value) (l : List Ac) (w : World) (hb : Acs w v l) (hl : l.length ≤ 1000000000) (hs : ∀ a ∈ l, a.code.length ≤ 1000000000 ∧ a.store.length ≤ 1000000000) :
  Calls Tryz.prog 147 #[v, .func (.func 148) #[] #[]] w fun e w' => ∃ v', e = .returned v' ∧ RowO 79 8 AcR No w.heap.size w' v' l ∧ Ext w w' := by
 have HO := Lib.hid (jownAc_any v l w hb hl)
 have HS := Lib.hid hs
 have HLL := Lib.hid hl
 obtain ⟨A0, c0, rfl, _, _⟩ := hb.len
 clear hb hs
 go_enter Tryz.func147, Tryz.ntmps147
 go_wp2_with fail
 refine HO.out.mono ?_
 rintro e w1 ⟨v1, css0, rfl, ho, k1, k2, k3, he⟩
 have HE1 := Lib.hid he
 rcases Nat.eq_zero_or_pos l.length with h0 | h0
 ·obtain rfl := List.eq_nil_of_length_eq_zero h0
  have HRO := Lib.hid (RowO.of_empty (E := 79) (s := 8) (Rd := AcR) (X := No) (by have := ho; rw [List.eq_nil_of_length_eq_zero (show css0.length = 0 from k1)] at this; exact this))
  obtain ⟨_, A1, c1, rfl, _, _, _⟩ := Rs.of_own ho
  clear ho k1 k2 k3 he HO
  go_wp2_with fail
  go_loopw [12] (fun iv wr => iv = .int .i64 (0 : Nat) ∧ w1 = wr) (fun iv _ => 1 - (intOf iv).toNat)
  case atStart => exact ⟨rfl, rfl⟩
  case round =>
   obtain ⟨rfl, rfl⟩ := hrel
   go_wp2_with fail
   go_ret
   exact ⟨_, rfl, HRO.out, HE1.out⟩
 ·obtain ⟨b, cap, cur, rfl, hb1, hb2, hb3, hb4, hb5, hb6⟩ : ∃ g cap cur, v1 = .slice (some ⟨g, 0, none⟩) l.length cap ∧ w.heap.size ≤ g ∧ w1.heap[g]? = some (.cells cur 79 (0, 0)) ∧ l.length ≤ cap ∧ cap ≤ maxLen ∧ cur.size = cap * 8 ∧ cur.toList.take (l.length * 8) = css0.flatten := by
   rcases ho.2 with ⟨_, h⟩ | h
   ·omega
   ·exact h
  have HB := Lib.hid hb1
  have HCAP := Lib.hid (And.intro hb3 hb4)
  have hrest : cur = (css0.flatten ++ cur.toList.drop (l.length * 8)).toArray := by
   rw [← hb6, List.take_append_drop]
  obtain ⟨rest, hre⟩ : ∃ r, cur.toList.drop (l.length * 8) = r := ⟨_, rfl⟩
  have HRS := Lib.hid (show l.length * 8 + rest.length = cap * 8 by have h8 : cur.toList.length = cap * 8 := (Array.length_toList (xs := cur)).trans hb5; rw [← hre, List.length_drop, h8]; have := Nat.mul_le_mul_right 8 hb3; omega)
  rw [hre] at hrest
  have HJ0 : Hid (EaJ 79 8 AcR w b w.heap.size css0 rest l 0 w1) := Lib.hid ⟨css0, k1, k2, by rw [← hrest]; exact hb2, fun i cs x hi => absurd hi (by omega), fun i _ => rfl, he⟩
  have HK3 := Lib.hid k3
  have HK1 := Lib.hid k1
  unfold maxLen at hb4
  clear ho k1 k2 k3 he hb1 hb2 hb5 hb6 hrest hre HO h0 HE1 hl
  go_wp2_with fail
  go_loopw [12] (fun iv wr => ∃ k : Nat, k ≤ l.length ∧ iv = .int .i64 (k : Nat) ∧ Hid (EaJ 79 8 AcR w b w.heap.size css0 rest l k wr)) (fun iv _ => l.length - (intOf iv).toNat)
  case atStart => exact ⟨0, by omega, rfl, HJ0⟩
  case round =>
   obtain ⟨k, hk, rfl, HJ⟩ := hrel
   clear HJ0
   by_cases hlt : k < l.length
   ·have hd : decide (k < l.length) = true := decide_eq_true hlt
    have hd2 : decide ((k : Int) < (l.length : Int)) = true := decide_eq_true (by omega)
    obtain ⟨css, h1, h2, h3, h4, h5, h6⟩ := HJ.out
    obtain ⟨cs0, hcs0⟩ : ∃ cs, css[k]? = some cs := ⟨_, List.getElem?_eq_getElem (show k < css.length by omega)⟩
    obtain ⟨hok, u, va, rfl, hu, hv⟩ := HK3.out k cs0 _ (by rw [← h5 k (Nat.le_refl _)]; exact hcs0) (ac_getD hlt)
    have HR := Lib.hid (ea_range h3 h2 hcs0)
    have HXX := Lib.hid (ac_getD hlt)
    have HSX := Lib.hid (HS.out _ (List.mem_of_getElem? (ac_getD hlt)))
    have HSTEP := Lib.hid (fun (W1 W2 : World) (u' v' : Value) (he : Ext wr W1) (hf : Far w.heap.size (fun g => g = b) W1 (fun W => AcR W (acc (l.getD k acz) u' v').toList (l.getD k acz))) (hc : Cs W2 b 79 (layC (css.flatten ++ rest).toArray (k * 8) (acc (l.getD k acz) u' v'))) (hg : W1.grownBy W2 (some b)) => EaJ.step (css0 := css0) h1 h2 h4 h5 h6 he hlt rfl (ac_getD hlt) hf hc hg HB.out)
    have HC3 := Lib.hid h3
    have HCS := Lib.hid (show k * 8 + 8 ≤ (css.flatten ++ rest).toArray.size by
     rw [List.size_toArray, List.length_append, flat_len css h2, h1]
     have := Nat.mul_le_mul_right 8 (show k + 1 ≤ l.length from hlt)
     omega)
    have HE6 := Lib.hid h6
    have HU := Lib.hid (hu.ext h6)
    have HV := Lib.hid (hv.ext h6)
    have HUO := Lib.hid (bs_one hu)
    have HVO := Lib.hid (pks_one hv)
    have HOK := Lib.hid hok
    have HBL := Lib.hid h3.lt
    clear h1 h2 h3 h4 h5 h6 hcs0 hok hu hv HJ
    generalize l.getD k acz = x at *
    go_upto_region 5 with (first
     | ((with_reducible refine wpList_load_ac ?_ (.tmp 15) ?_ b (k * 8) x u va ?_ ?_ ?_); (exact rfl); (exact rfl); (exact rfl); (exact HR.out))
     | ((with_reducible refine wpList_store_ac ?_ ?_ (.tmp 7) (.tmp 16) ?_ wr.heap.size az0 x u va ?_ ?_ ?_ ?_ ?_ ?_ ?_); (exact rfl); (exact rfl); (exact rfl); (exact HUO.out); (exact HVO.out); (exact rfl); (exact rfl); (exact Cs.new _ _ _ _ rfl); (exact rfl); intro w2 k2 g2; have R2 := Lib.hid (Ab.range k2); have E2 := Lib.hid (((Ext.refl wr).alloc (.cells az0 79)).grown g2 (Nat.le_refl _)); clear k2 g2))
    go_wp2_with ((with_reducible refine wpList_load_ac ?_ (.tmp 7) ?_ wr.heap.size 0 x u va ?_ ?_ ?_); (exact rfl); (exact rfl); (exact rfl); (exact R2.out))
    refine (ownAc1_any x u va _ (HU.out.ext E2.out) (HV.out.ext E2.out) HSX.out.1 HSX.out.2).mono ?_
    rintro e w3 ⟨u', v', rfl, hj1, hj2, he⟩
    have HX3 := Lib.hid (E2.out.trans he)
    have HF := Lib.hid (acm_far (lo := w.heap.size) (b := b) HOK.out hj1 hj2 (Nat.le_trans HE6.out.size E2.out.size) (Nat.lt_of_lt_of_le HBL.out E2.out.size))
    have HO' := Lib.hid (show (acc x u' v').all (·.oneCell') = true by obtain ⟨A, c, rfl, _⟩ := hj1; obtain ⟨B, d, rfl, _⟩ := hj2; exact acc_one _ _ _ rfl rfl)
    have HC5 := Lib.hid (Cs.ext HC3.out HX3.out)
    clear hj1 hj2 he R2 E2
    go_wp2_with ((with_reducible refine wpList_store_in ?_ ?_ 79 (.tmp 22) (.tmp 21) ?_ b (k * 8) 79 (css.flatten ++ rest).toArray (acc x u' v') ?_ ?_ ?_ ?_ ?_ ?_ ?_); (exact rfl); (exact rfl); (exact rfl); (exact rfl); (exact rfl); (exact HC5.out); (exact acinfo); (exact HCS.out); (exact HO'.out); intro w6 k6 g6; have K6 := Lib.hid (HSTEP.out w3 w6 u' v' HX3.out HF.out k6 g6); clear k6 g6)
    exact ⟨⟨k + 1, by omega, by go_num, K6⟩, by simp [intOf]; omega⟩
   ·obtain rfl : k = l.length := by omega
    have hd : decide (l.length < l.length) = false := decide_eq_false (by omega)
    have hd2 : decide ((l.length : Int) < (l.length : Int)) = false := decide_eq_false (by omega)
    have HRO := Lib.hid (EaJ.row HJ.out HB.out HCAP.out.1 HCAP.out.2 HRS.out)
    have HE6 := Lib.hid (show Ext w wr by obtain ⟨_, _, _, _, _, _, h⟩ := HJ.out; exact h)
    clear HJ
    go_wp2_with fail
    go_ret
    exact ⟨_, rfl, HRO.out, HE6.out⟩
end Go.Proofs.YtnjpdchmdimaaaaGreat
