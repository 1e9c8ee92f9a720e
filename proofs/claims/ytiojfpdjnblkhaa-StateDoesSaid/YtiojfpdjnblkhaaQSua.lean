/- The document's own answers of layer 6: Empty, many, Total, fits, Of. -/
import Derived.Test.YtiojfpdjnblkhaaQSma
import Derived.Test.YtiojfpdjnblkhaaQRce
namespace Go.Proofs.Ytiojfpdjnblkhaa
open Go.ChangeShapes Go.WideShapes Go.ChangeAt Go.RowKit Go.Shelf

theorem take_getD (l : List Ac) (k : Nat) (hk : k < l.length) : l.take (k + 1) = l.take k ++ [l.getD k acz] := by
 have e : l[k]? = some l[k] := List.getElem?_eq_getElem hk
 rw [List.take_add_one, e]
 simp [List.getD, e]
theorem acc_lit (a : Nat) : Value.agg #[.int .u64 (a : Nat), .int .u64 0, .int .u64 0, .int .u64 0, .int .u64 0, .int .u64 0, .slice none 0 0, .slice none 0 0] = .agg (acc ⟨a, 0, 0, [], []⟩ (.slice none 0 0) (.slice none 0 0)) := by simp [acc, lv, lb]
theorem Cs.range0' {W : World} {g : Nat} {t : TypeId} {cs : Array Value} (h : Cs W g t cs) : W.rangeAt g 0 cs.toList := fun j x hx => by
 rw [Nat.zero_add]
 exact Cs.cell h j x (by rwa [Array.getElem?_toList] at hx)
theorem pks_nil (W : World) : Pks W (.slice none 0 0) [] := (ownK_nil W 0).pks
theorem freeN_take (l : List Ac) (k : Nat) (hk : k < l.length) : freeN (l.take (k + 1)) = freeN (l.take k) + (if (l.getD k acz).addr < 16 then 0 else 1) := by
 rw [take_getD l k hk, freeN_app, freeN_cons]
 rfl
theorem bals_take (l : List Ac) (k : Nat) (hk : k < l.length) : bals (l.take (k + 1)) = bals (l.take k) ++ [(l.getD k acz).bal] := by
 rw [take_getD l k hk, bals_app]
 rfl
set_option maxRecDepth 100000 in
set_option maxHeartbeats 1000000 in
theorem refEmpty_any (a : Ac) (u v : Value) (w : World) (hok : a.ok) (hu : Bs w u a.code) (hv : Pks w v a.store) : Calls Try.prog 90 #[.agg (acc a u v)] w fun e w' => e = .returned (.bool a.emptyB) ∧ Ext w w' := by
 have HK : Hid (Ab (w.alloc (.cells (acc a u v) 37)) w.heap.size a u v) := Lib.hid (Cs.new _ _ _ _ rfl)
 have HE := Lib.hid ((Ext.refl w).alloc (.cells (acc a u v) 37))
 have hc5 := HK.out.nonce
 have hc6 := HK.out.code
 have hc7 := HK.out.store
 have HM : Hid (a.emptyB = (decide (a.bal = 0) && (decide (a.nonce = 0) && (decide (a.code.length = 0) && decide (a.store.length = 0))))) := Lib.hid rfl
 obtain ⟨A, c, rfl, h1, h2, _⟩ := hu
 obtain ⟨A2, c2, rfl, h3, h4⟩ := hv.len
 unfold maxLen at h2 h4
 obtain ⟨o1, o2, o3⟩ := hok
 have HW := Lib.hid o2
 have HWI := Lib.hid HK.out.bal
 obtain ⟨cs, hcs⟩ : ∃ cs, acc a (.slice A a.code.length c) (.slice A2 a.store.length c2) = cs := ⟨_, rfl⟩
 have HCS := Lib.hid hcs
 rw [hcs] at hc5 hc6 hc7 HE HWI HK
 rw [hcs]
 clear hcs o2
 obtain ⟨addr, bal, nonce, code, store⟩ := a
 dsimp only at *
 have hbz : (bal == 0) = decide (bal = 0) := by by_cases h : bal = 0 <;> simp [h]
 go_enter Try.func90, Try.ntmps90
 by_cases e1 : bal = 0
 ·have hb0 : (bal == 0) = true := by simp [e1]
  have HB := Lib.hid e1
  clear e1 hbz
  by_cases e2 : nonce = 0
  ·have hn1 : ((nonce : Int) == 0) = true := by simp [e2]
   have hn2 : (nonce == 0) = true := by simp [e2]
   have HN := Lib.hid e2
   clear e2
   by_cases e3 : code.length = 0
   ·have hl1 : ((code.length : Int) == 0) = true := by simp [e3]
    have hl2 : (code.length == 0) = true := by simp [e3]
    have HL := Lib.hid e3
    clear e3
    by_cases e4 : store.length = 0
    ·have hs1 : ((store.length : Int) == 0) = true := by simp [e4]
     have hs2 : (store.length == 0) = true := by simp [e4]
     have HS := Lib.hid e4
     clear e4
     go_wp2_with (first
      | ((with_reducible refine wpList_load_wordIn ?_ (.tmp 3) ?_ w.heap.size 1 bal ?_ ?_ ?_); (exact rfl); (exact rfl); (exact rfl); (exact HWI.out))
      | ((with_reducible refine wpList_eql_word ?_ (.tmp 4) (.tmp 5) ?_ bal 0 HW.out (by decide) ?_ ?_ ?_); (exact rfl); (exact rfl); (exact rfl); (exact rfl); rw [hb0]))
     go_ret
     exact ⟨by rw [HM.out]; simp [HB.out, HN.out, HL.out, HS.out], HE.out⟩
    ·have hs1 : ((store.length : Int) == 0) = false := by simp [e4]
     have hs2 : (store.length == 0) = false := by simp [e4]
     have HS := Lib.hid e4
     clear e4
     go_wp2_with (first
      | ((with_reducible refine wpList_load_wordIn ?_ (.tmp 3) ?_ w.heap.size 1 bal ?_ ?_ ?_); (exact rfl); (exact rfl); (exact rfl); (exact HWI.out))
      | ((with_reducible refine wpList_eql_word ?_ (.tmp 4) (.tmp 5) ?_ bal 0 HW.out (by decide) ?_ ?_ ?_); (exact rfl); (exact rfl); (exact rfl); (exact rfl); rw [hb0]))
     go_ret
     exact ⟨by rw [HM.out]; simp [HS.out], HE.out⟩
   ·have hl1 : ((code.length : Int) == 0) = false := by simp [e3]
    have hl2 : (code.length == 0) = false := by simp [e3]
    have HL := Lib.hid e3
    clear e3
    go_wp2_with (first
     | ((with_reducible refine wpList_load_wordIn ?_ (.tmp 3) ?_ w.heap.size 1 bal ?_ ?_ ?_); (exact rfl); (exact rfl); (exact rfl); (exact HWI.out))
     | ((with_reducible refine wpList_eql_word ?_ (.tmp 4) (.tmp 5) ?_ bal 0 HW.out (by decide) ?_ ?_ ?_); (exact rfl); (exact rfl); (exact rfl); (exact rfl); rw [hb0]))
    go_ret
    exact ⟨by rw [HM.out]; simp [HL.out], HE.out⟩
  ·have hn1 : ((nonce : Int) == 0) = false := by simp; omega
   have hn2 : (nonce == 0) = false := by simpa using e2
   have HN := Lib.hid e2
   clear e2
   go_wp2_with (first
    | ((with_reducible refine wpList_load_wordIn ?_ (.tmp 3) ?_ w.heap.size 1 bal ?_ ?_ ?_); (exact rfl); (exact rfl); (exact rfl); (exact HWI.out))
    | ((with_reducible refine wpList_eql_word ?_ (.tmp 4) (.tmp 5) ?_ bal 0 HW.out (by decide) ?_ ?_ ?_); (exact rfl); (exact rfl); (exact rfl); (exact rfl); rw [hb0]))
   go_ret
   exact ⟨by rw [HM.out]; simp [HN.out], HE.out⟩
 ·have hb0 : (bal == 0) = false := by simpa using e1
  have HB := Lib.hid e1
  clear e1 hbz
  go_wp2_with (first
   | ((with_reducible refine wpList_load_wordIn ?_ (.tmp 3) ?_ w.heap.size 1 bal ?_ ?_ ?_); (exact rfl); (exact rfl); (exact rfl); (exact HWI.out))
   | ((with_reducible refine wpList_eql_word ?_ (.tmp 4) (.tmp 5) ?_ bal 0 HW.out (by decide) ?_ ?_ ?_); (exact rfl); (exact rfl); (exact rfl); (exact rfl); rw [hb0]))
  go_ret
  exact ⟨by rw [HM.out]; simp [HB.out], HE.out⟩
set_option maxRecDepth 100000 in
set_option maxHeartbeats 2000000 in
theorem refMany_any (sv : Value) (l : List Ac) (w : World) (hs : Acs w sv l) : Calls Try.prog 91 #[sv] w fun e w' => e = .returned (.int .i64 (freeN l : Nat)) ∧ Ext w w' := by
 have HS := Lib.hid hs
 obtain ⟨A0, c0, rfl, h1, h2⟩ := hs.len
 unfold maxLen at h2
 clear hs
 go_enter Try.func91, Try.ntmps91
 go_wp2_with fail
 go_loopw [3, 8] (fun nv iv wr => ∃ k : Nat, k ≤ l.length ∧ iv = .int .i64 k ∧ nv = .int .i64 (freeN (l.take k) : Nat) ∧ Hid (Ext w wr)) (fun _ iv _ => l.length - (intOf iv).toNat)
 case atStart => exact ⟨0, by omega, rfl, rfl, Lib.hid (Ext.refl _)⟩
 case round =>
  obtain ⟨k, hk, rfl, rfl, HE⟩ := hrel
  by_cases hlt : k < l.length
  ·have hd : decide (k < l.length) = true := decide_eq_true hlt
   obtain ⟨b, o, u, v, rfl, hrg, hu, hv, hok⟩ := HS.out.at k hlt
   have HR := Lib.hid (fun (j : Nat) (x : Value) (hx : (acc (l.getD k acz) u v).toList[j]? = some x) => (HE.out).cell (hrg j x hx))
   have HU := Lib.hid (hu.ext HE.out)
   have HV := Lib.hid (hv.ext HE.out)
   have HUV := Lib.hid (And.intro hu hv)
   have HOK := Lib.hid hok
   clear hrg hu hv hok

   have HSN := Lib.hid (freeN_take l k hlt)
   have hfn := freeN_le (l.take k)
   rw [List.length_take] at hfn
   generalize l.getD k acz = p at *
   generalize freeN (l.take k) = fn at *
   by_cases h16 : p.addr < 16
   ·have d1 : decide ((p.addr : Int) ≥ 16) = false := decide_eq_false (by omega)
    have d2 : decide (16 ≤ (p.addr : Int)) = false := decide_eq_false (by omega)
    have d3 : decide (16 ≤ p.addr) = false := decide_eq_false (by omega)
    have HN := Lib.hid (show freeN (l.take (k + 1)) = fn by rw [HSN.out, if_pos h16, Nat.add_zero])
    clear h16
    go_wp2_with (first
     | ((with_reducible refine wpList_load_ac ?_ (.tmp 10) ?_ b (o + k * 8) p u v ?_ ?_ ?_); (exact rfl); (exact rfl); (exact rfl); (exact HR.out))
     | ((with_reducible refine wpList_store_ac ?_ ?_ (.tmp 5) (.tmp 11) ?_ wr.heap.size az0 p u v ?_ ?_ ?_ ?_ ?_ ?_ ?_); (exact rfl); (exact rfl); (exact rfl); (exact bs_one HU.out); (exact pks_one HV.out); (exact rfl); (exact rfl); (exact Cs.new _ _ _ _ rfl); (exact rfl); intro w4 k4 g4; have K4 := Lib.hid k4; have HX4 := Lib.hid (((Ext.refl wr).alloc _).grown g4 (Nat.le_refl _)); have cA := k4.addr; clear k4 g4))
    exact ⟨⟨k + 1, by omega, by go_num, by rw [HN.out], Lib.hid (HE.out.trans HX4.out)⟩, by simp [intOf]; omega⟩
   ·have d1 : decide ((p.addr : Int) ≥ 16) = true := decide_eq_true (by omega)
    have d2 : decide (16 ≤ (p.addr : Int)) = true := decide_eq_true (by omega)
    have d3 : decide (16 ≤ p.addr) = true := decide_eq_true (by omega)
    have HN := Lib.hid (show freeN (l.take (k + 1)) = fn + 1 by rw [HSN.out, if_neg h16])
    clear h16
    go_wp2_with (first
     | ((with_reducible refine wpList_load_ac ?_ (.tmp 10) ?_ b (o + k * 8) p u v ?_ ?_ ?_); (exact rfl); (exact rfl); (exact rfl); (exact HR.out))
     | ((with_reducible refine wpList_store_ac ?_ ?_ (.tmp 5) (.tmp 11) ?_ wr.heap.size az0 p u v ?_ ?_ ?_ ?_ ?_ ?_ ?_); (exact rfl); (exact rfl); (exact rfl); (exact bs_one HU.out); (exact pks_one HV.out); (exact rfl); (exact rfl); (exact Cs.new _ _ _ _ rfl); (exact rfl); intro w4 k4 g4; have K4 := Lib.hid k4; have HX4 := Lib.hid (((Ext.refl wr).alloc _).grown g4 (Nat.le_refl _)); have cA := k4.addr; clear k4 g4))
    exact ⟨⟨k + 1, by omega, by go_num, by rw [HN.out]; go_num, Lib.hid (HE.out.trans HX4.out)⟩, by simp [intOf]; omega⟩
  ·obtain rfl : k = l.length := by omega
   rw [List.take_length]
   go_wp2_with fail
   go_ret
   exact ⟨rfl, HE.out⟩
set_option maxRecDepth 100000 in
set_option maxHeartbeats 4000000 in
theorem refTotal_any (sv : Value) (l : List Ac) (w : World) (hs : Acs w sv l) (hl : l.length ≤ 10000) : Calls Try.prog 100 #[sv] w (RetWB w (sumW (bals l)).1 (sumW (bals l)).2) := by
 have HS := Lib.hid hs
 have HOKS := Lib.hid hs.oks
 have HL := Lib.hid hl
 obtain ⟨A0, c0, rfl, h1, h2⟩ := hs.len
 unfold maxLen at h2
 have HZ : Hid (Cs (w.alloc (.cells (wc 0) 31)) w.heap.size 31 (wc 0)) := Lib.hid (Cs.new _ _ _ _ rfl)
 have HE0 := Lib.hid ((Ext.refl w).alloc (.cells (wc 0) 31))
 have HW0 := Lib.hid (show w.alloc (.cells #[.int .u64 0, .int .u64 0, .int .u64 0, .int .u64 0] 31) = w.alloc (.cells (wc 0) 31) from rfl)
 have HSZ := Lib.hid (show w.heap.size + 1 ≤ (w.alloc (.cells (wc 0) 31)).heap.size by simp)
 clear hs hl
 go_enter Try.func100, Try.ntmps100
 go_upto_region 1 with fail
 rw [HW0.out]
 clear HW0
 generalize w.alloc (.cells (wc 0) 31) = w0 at *
 go_wp2_with fail
 go_loopw [4, 9] (fun vv iv wr => ∃ k : Nat, k ≤ l.length ∧ iv = .int .i64 k ∧ Hid (Cs wr w.heap.size 31 (wc 0) ∧ wr.ownsRow (w.heap.size + 1) 31 4 vv k (wcs (bals (l.take k))) ∧ Ext w wr ∧ w.heap.size + 1 ≤ wr.heap.size)) (fun _ iv _ => l.length - (intOf iv).toNat)
 case atStart => exact ⟨0, by omega, rfl, Lib.hid ⟨HZ.out, World.ownsRow_nil _ _ _ _, HE0.out, HSZ.out⟩⟩
 case round =>
  clear HZ HE0 HSZ
  obtain ⟨k, hk, rfl, HJ⟩ := hrel
  by_cases hlt : k < l.length
  ·have hd : decide (k < l.length) = true := decide_eq_true hlt
   obtain ⟨b, o, u, v, rfl, hrg, hu, hv, hok⟩ := HS.out.at k hlt
   have HR := Lib.hid (fun (j : Nat) (x : Value) (hx : (acc (l.getD k acz) u v).toList[j]? = some x) => (HJ.out.2.2.1).cell (hrg j x hx))
   have HU := Lib.hid (hu.ext HJ.out.2.2.1)
   have HV := Lib.hid (hv.ext HJ.out.2.2.1)
   have HUV := Lib.hid (And.intro hu hv)
   have HOK := Lib.hid hok
   clear hrg hu hv hok

   have HSN := Lib.hid (bals_take l k hlt)
   generalize l.getD k acz = p at *
   go_upto_region 5 with (first
    | ((with_reducible refine wpList_load_ac ?_ (.tmp 11) ?_ b (o + k * 8) p u v ?_ ?_ ?_); (exact rfl); (exact rfl); (exact rfl); (exact HR.out))
    | ((with_reducible refine wpList_store_ac ?_ ?_ (.tmp 6) (.tmp 12) ?_ wr.heap.size az0 p u v ?_ ?_ ?_ ?_ ?_ ?_ ?_); (exact rfl); (exact rfl); (exact rfl); (exact bs_one HU.out); (exact pks_one HV.out); (exact rfl); (exact rfl); (exact Cs.new _ _ _ _ rfl); (exact rfl); intro w4 k4 g4; have K4 := Lib.hid k4; have HX4 := Lib.hid (((Ext.refl wr).alloc _).grown g4 (Nat.le_refl _)); clear k4 g4))
   have HJ4 := Lib.hid (show Cs w4 w.heap.size 31 (wc 0) ∧ w4.ownsRow (w.heap.size + 1) 31 4 u4 k (wcs (bals (l.take k))) ∧ Ext w w4 ∧ w.heap.size + 1 ≤ w4.heap.size from ⟨Cs.ext HJ.out.1 HX4.out, own_ext HJ.out.2.1 HX4.out, HJ.out.2.2.1.trans HX4.out, Nat.le_trans HJ.out.2.2.2 HX4.out.size⟩)
   have HBA := Lib.hid (Ab.bal K4.out)
   have HLT := Lib.hid (fun g (e : u4.ownBlock = some g) => HJ4.out.2.1.lt g e)
   clear HJ HX4 K4 HR HU HV
   obtain ⟨B, hB⟩ : ∃ B, wr.heap.size = B := ⟨_, rfl⟩
   rw [hB] at HBA ⊢
   clear hB
   go_wp2_with (first
    | ((with_reducible refine wpList_load_wordIn ?_ (.tmp 14) ?_ B 1 p.bal ?_ ?_ ?_); (exact rfl); (exact rfl); (exact rfl); (exact HBA.out))
    | ((with_reducible refine wpList_build_word ?_ (.tmp 15) ?_ p.bal ?_ ?_); (exact rfl); (exact rfl); (exact rfl))
    | (refine wpList_append_row rfl (.tmp 13) (.tmp 16) 155 rfl (w.heap.size + 1) 31 Try.underlying155 _ 4 32 winfo3 rfl (by decide) u4 k _ rfl (own_ext HJ4.out.2.1 ((Ext.refl _).alloc _)) _ 1 (wc p.bal).toList rfl (Rs.new _ _ _ _ _ rfl (by decide)) (wc_ones p.bal) (by have := HL.out; omega) (by decide) (by have := HJ4.out.2.2.2; simp; omega) ?_; intro v' w5 ho5 hg5 _; rw [wcs_snoc, ← HSN.out] at ho5; have HJ5 := Lib.hid (show Cs w5 w.heap.size 31 (wc 0) ∧ w5.ownsRow (w.heap.size + 1) 31 4 v' (k + 1) (wcs (bals (l.take (k + 1)))) ∧ Ext w w5 ∧ w.heap.size + 1 ≤ w5.heap.size from ⟨Cs.kept (Cs.ext HJ4.out.1 ((Ext.refl _).alloc _)) hg5 (fun e => by have := (HLT.out w.heap.size e.symm).1; omega), ho5, ((HJ4.out.2.2.1.alloc _).appendR (own_mono (own_ext HJ4.out.2.1 ((Ext.refl _).alloc _)) (by omega)) hg5), Nat.le_trans (by have := HJ4.out.2.2.2; simp; omega) hg5.size⟩); clear ho5 hg5))
   exact ⟨⟨k + 1, by omega, by go_num, HJ5⟩, by simp [intOf]; omega⟩
  ·obtain rfl : k = l.length := by omega
   rw [List.take_length] at HJ
   have HWS := Lib.hid (own_ws HJ.out.2.1 (by simp [bals]) (fun x hx => by obtain ⟨q, hq, rfl⟩ := List.mem_map.1 hx; exact (HOKS.out q hq).2.1))
   go_wp2_with fail
   refine (refSum_any _ (bals l) _ HWS.out (by have := HL.out; simp [bals]; omega)).mono ?_
   rintro e w5 ⟨rfl, hlt5, he⟩
   have HZ5 := Lib.hid (Cs.ext HJ.out.1 he)
   have HE5 := Lib.hid (HJ.out.2.2.1.trans he)
   have HLT5 := Lib.hid hlt5
   clear he HJ HWS hlt5
   obtain ⟨⟨s, bb⟩, hsb⟩ : ∃ r, sumW (bals l) = r := ⟨_, rfl⟩
   have HSB := Lib.hid hsb
   rw [hsb] at HLT5 ⊢
   clear hsb
   dsimp only at HLT5 ⊢
   go_wp2_with ((with_reducible refine wpList_store_word rfl rfl 31 (.tmp 2) (.tmp 21) rfl winfo w.heap.size (wc 0) s ?_ ?_ ?_ ?_ ?_); (exact rfl); (exact rfl); (exact HZ5.out); (exact rfl); intro w6 k6 g6; have K6 := Lib.hid k6; have HE6 := Lib.hid (HE5.out.grown g6 (Nat.le_refl _)); clear k6 g6)
   exact bodyPost_ret (results_word_tmp Try.results100 _ _ w.heap.size s rfl K6.out Try.underlying31 winfo) rfl ⟨by rw [HSB.out]; rfl, by rw [HSB.out]; exact HLT5.out, HE6.out⟩
set_option maxRecDepth 100000 in
theorem refFits_any (sv : Value) (l : List Ac) (w : World) (hs : Acs w sv l) (hl : l.length ≤ 10000) : Calls Try.prog 92 #[sv] w fun e w' => e = .returned (.bool (!(sumW (bals l)).2)) ∧ Ext w w' := by
 have HS := Lib.hid hs
 obtain ⟨A0, c0, rfl, h1, h2⟩ := hs.len
 clear hs
 go_enter Try.func92, Try.ntmps92
 go_wp2_with fail
 refine (refTotal_any _ l _ HS.out hl).mono ?_
 rintro e w5 ⟨rfl, hlt5, he⟩
 have HE5 := Lib.hid he
 have HLT5 := Lib.hid hlt5
 clear he hlt5
 obtain ⟨⟨s, bb⟩, hsb⟩ : ∃ r, sumW (bals l) = r := ⟨_, rfl⟩
 have HSB := Lib.hid hsb
 rw [hsb] at HLT5 ⊢
 clear hsb
 dsimp only at HLT5 ⊢
 go_wp2_with ((with_reducible refine wpList_store_word rfl rfl 31 (.tmp 3) (.tmp 8) rfl winfo w5.heap.size (wc 0) s ?_ ?_ ?_ ?_ ?_); (exact rfl); (exact rfl); (exact Cs.new _ _ _ _ rfl); (exact rfl); intro w6 k6 g6; have HE6 := Lib.hid (HE5.out.trans (((Ext.refl w5).alloc _).grown g6 (Nat.le_refl _))); clear k6 g6)
 go_ret
 exact ⟨by rw [HSB.out]; rfl, HE6.out⟩
set_option maxRecDepth 100000 in
set_option maxHeartbeats 4000000 in
theorem refOf_any (sv : Value) (l : List Ac) (a : Nat) (w00 w : World) (h00 : Ext w00 w) (hs : Acs w00 sv l) (_ha : a < 18446744073709551616) : Calls Try.prog 96 #[.agg #[sv], .int .u64 (a : Nat)] w fun e w' => ∃ u v, e = .returned (.agg (acc (accF l a).1 u v)) ∧ Bs w00 u (accF l a).1.code ∧ Pks w00 v (accF l a).1.store ∧ Ext w w' := by
 have H00 := Lib.hid h00
 clear h00
 have HS := Lib.hid hs
 obtain ⟨A0, c0, rfl, h1, h2⟩ := hs.len
 unfold maxLen at h2
 obtain ⟨w0, hw0⟩ : ∃ w0, ((w.alloc (.cells #[.slice A0 l.length c0] 24)).alloc (.cells az0 37)) = w0 := ⟨_, rfl⟩
 have HB0 : Hid (Cs w0 w.heap.size 24 #[.slice A0 l.length c0] ∧ Cs w0 (w.heap.size + 1) 37 az0 ∧ Ext w w0) := by
  rw [← hw0]
  exact Lib.hid ⟨Cs.alloc (Cs.new _ _ _ _ rfl) _, Cs.new _ _ _ _ (by simp), ((Ext.refl w).alloc _).alloc _⟩
 unfold az0 at hw0
 have HW0 := Lib.hid hw0
 have q0 : w0.cell? ⟨w.heap.size, 0, none⟩ = some (.slice A0 l.length c0) := HB0.out.1.cell 0 _ rfl
 clear hs hw0
 go_enter Try.func96, Try.ntmps96
 go_upto_region 1 with fail
 rw [HW0.out]
 clear HW0
 go_wp2_with fail
 go_loopw [10] (fun iv wr => ∃ k : Nat, k ≤ l.length ∧ iv = .int .i64 k ∧ Hid ((∀ q ∈ l.take k, q.addr ≠ a) ∧ Cs wr (w.heap.size + 1) 37 az0 ∧ Ext w wr)) (fun iv _ => l.length - (intOf iv).toNat)
 case atStart => exact ⟨0, by omega, rfl, Lib.hid ⟨fun q hq => by simp at hq, HB0.out.2⟩⟩
 case round =>
  clear HB0 q0
  obtain ⟨k, hk, rfl, HJ⟩ := hrel
  by_cases hlt : k < l.length
  ·have hd : decide (k < l.length) = true := decide_eq_true hlt
   obtain ⟨b, o, u, v, rfl, hrg, hu, hv, hok⟩ := HS.out.at k hlt
   have HR := Lib.hid (fun (j : Nat) (x : Value) (hx : (acc (l.getD k acz) u v).toList[j]? = some x) => ((H00.out.trans HJ.out.2.2)).cell (hrg j x hx))
   have HU := Lib.hid (hu.ext (H00.out.trans HJ.out.2.2))
   have HV := Lib.hid (hv.ext (H00.out.trans HJ.out.2.2))
   have HUV := Lib.hid (And.intro hu hv)
   have HOK := Lib.hid hok
   clear hrg hu hv hok

   have HGE := Lib.hid (take_getD l k hlt)
   have HOKp := HOK.out.1
   generalize l.getD k acz = p at *
   by_cases hpa : p.addr = a
   ·have d1 : ((p.addr : Int) == (a : Int)) = true := by rw [beq_iff_eq]; omega
    have HF := Lib.hid (show accF l a = (p, true) from accF_some (find_take (k := k + 1) (by rw [HGE.out]; exact find_snoc (fun q hq => by simpa using HJ.out.1 q hq) (by simpa using hpa))))
    clear hpa
    go_wp2_with (first
     | ((with_reducible refine wpList_load_ac ?_ (.tmp 12) ?_ b (o + k * 8) p u v ?_ ?_ ?_); (exact rfl); (exact rfl); (exact rfl); (exact HR.out))
     | ((with_reducible refine wpList_store_ac ?_ ?_ (.tmp 6) (.tmp 13) ?_ wr.heap.size az0 p u v ?_ ?_ ?_ ?_ ?_ ?_ ?_); (exact rfl); (exact rfl); (exact rfl); (exact bs_one HU.out); (exact pks_one HV.out); (exact rfl); (exact rfl); (exact Cs.new _ _ _ _ rfl); (exact rfl); intro w4 k4 g4; have K4 := Lib.hid k4; have HX4 := Lib.hid (((Ext.refl wr).alloc _).grown g4 (Nat.le_refl _)); have cA := k4.addr; clear k4 g4)
     | ((with_reducible refine wpList_load_ac ?_ (.tmp 6) ?_ wr.heap.size 0 p u v ?_ ?_ ?_); (exact rfl); (exact rfl); (exact rfl); (exact K4.out.range))
     | ((with_reducible refine wpList_store_ac ?_ ?_ (.tmp 4) (.tmp 18) ?_ (w.heap.size + 1) az0 p u v ?_ ?_ ?_ ?_ ?_ ?_ ?_); (exact rfl); (exact rfl); (exact rfl); (exact bs_one HU.out); (exact pks_one HV.out); (exact rfl); (exact rfl); (exact Cs.ext HJ.out.2.1 HX4.out); (exact rfl); intro w5 k5 g5; have K5 := Lib.hid k5; have G5 := Lib.hid g5; clear k5 g5))
    refine bodyPost_ret (results_ac Try.results96 _ _ (w.heap.size + 1) _ _ _ rfl K5.out) rfl ?_
    have HX5 := (HJ.out.2.2.trans HX4.out).grown G5.out (by omega)
    rw [HF.out]
    exact ⟨u, v, rfl, HUV.out.1, HUV.out.2, HX5⟩
   ·have d1 : ((p.addr : Int) == (a : Int)) = false := by rw [beq_eq_false_iff_ne]; omega
    have HN := Lib.hid (show ∀ q ∈ l.take (k + 1), q.addr ≠ a by
     rw [HGE.out]
     intro q hq
     rcases List.mem_append.1 hq with hq | hq
     ·exact HJ.out.1 q hq
     ·rw [List.mem_singleton.1 hq]; exact hpa)
    clear hpa
    go_wp2_with (first
     | ((with_reducible refine wpList_load_ac ?_ (.tmp 12) ?_ b (o + k * 8) p u v ?_ ?_ ?_); (exact rfl); (exact rfl); (exact rfl); (exact HR.out))
     | ((with_reducible refine wpList_store_ac ?_ ?_ (.tmp 6) (.tmp 13) ?_ wr.heap.size az0 p u v ?_ ?_ ?_ ?_ ?_ ?_ ?_); (exact rfl); (exact rfl); (exact rfl); (exact bs_one HU.out); (exact pks_one HV.out); (exact rfl); (exact rfl); (exact Cs.new _ _ _ _ rfl); (exact rfl); intro w4 k4 g4; have K4 := Lib.hid k4; have HX4 := Lib.hid (((Ext.refl wr).alloc _).grown g4 (Nat.le_refl _)); have cA := k4.addr; clear k4 g4))
    exact ⟨⟨k + 1, by omega, by go_num, Lib.hid ⟨HN.out, Cs.ext HJ.out.2.1 HX4.out, HJ.out.2.2.trans HX4.out⟩⟩, by simp [intOf]; omega⟩
  ·obtain rfl : k = l.length := by omega
   rw [List.take_length] at HJ
   have HF := Lib.hid (accF_none (a := a) HJ.out.1)
   go_wp2_with ((with_reducible refine wpList_store_ac ?_ ?_ (.tmp 4) (.tmp 21) ?_ (w.heap.size + 1) az0 ⟨a, 0, 0, [], []⟩ (.slice none 0 0) (.slice none 0 0) ?_ ?_ ?_ ?_ ?_ ?_ ?_); (exact rfl); (exact rfl); (exact rfl); (exact rfl); (exact rfl); (exact rfl); (exact acc_lit a); (exact HJ.out.2.1); (exact rfl); intro w5 k5 g5; have K5 := Lib.hid k5; have G5 := Lib.hid g5; clear k5 g5)
   refine bodyPost_ret (results_ac Try.results96 _ _ (w.heap.size + 1) _ _ _ rfl K5.out) rfl ?_
   have HX5 := HJ.out.2.2.grown G5.out (by omega)
   rw [HF.out]
   exact ⟨_, _, rfl, (own_nilB _ 0).bs, pks_nil _, HX5⟩
def roomR (l : List Ac) (a : Nat) : Bool := if a = 0 then false else if (accF l a).1.emptyB = false then true else if a < 16 then true else decide (freeN l < 24)
set_option maxRecDepth 100000 in
set_option maxHeartbeats 4000000 in
theorem refRoom_any (sv : Value) (l : List Ac) (a : Nat) (w : World) (hs : Acs w sv l) (ha : a < 18446744073709551616) (_hl : l.length ≤ 10000) : Calls Try.prog 93 #[.agg #[sv], .int .u64 (a : Nat)] w fun e w' => e = .returned (.bool (roomR l a)) ∧ Ext w w' := by
 have HS := Lib.hid hs
 have HDEF : Hid (roomR l a = if a = 0 then false else if (accF l a).1.emptyB = false then true else if a < 16 then true else decide (freeN l < 24)) := Lib.hid rfl
 obtain ⟨A0, c0, rfl, h1, h2⟩ := hs.len
 have HOKA := Lib.hid (accF_ok hs a ha)
 have HC0 : Hid (Cs (w.alloc (.cells #[.slice A0 l.length c0] 24)) w.heap.size 24 #[.slice A0 l.length c0]) := Lib.hid (Cs.new _ _ _ _ rfl)
 have HE0 := Lib.hid ((Ext.refl w).alloc (.cells #[.slice A0 l.length c0] 24))
 have q0 : (w.alloc (.cells #[.slice A0 l.length c0] 24)).cell? ⟨w.heap.size, 0, none⟩ = some (.slice A0 l.length c0) := HC0.out.cell 0 _ rfl
 have hfn := freeN_le l
 clear hs
 go_enter Try.func93, Try.ntmps93
 by_cases h0 : a = 0
 ·have d1 : ((a : Int) == 0) = true := by rw [beq_iff_eq]; omega
  have d2 : (a == 0) = true := by rw [beq_iff_eq]; omega
  have HF := Lib.hid (show roomR l a = false by rw [HDEF.out, if_pos h0])
  clear h0 HDEF
  go_wp2_with fail
  go_ret
  exact ⟨by rw [HF.out]; rfl, HE0.out⟩
 ·have d1 : ((a : Int) == 0) = false := by rw [beq_eq_false_iff_ne]; omega
  have d2 : (a == 0) = false := by rw [beq_eq_false_iff_ne]; omega
  rw [if_neg h0] at HDEF
  clear h0
  go_wp2_with fail
  refine (refOf_any _ l a _ _ (Ext.refl _) (HS.out.ext HE0.out) ha).mono ?_
  rintro e w1 ⟨u, v, rfl, hu, hv, he⟩
  have HE1 := Lib.hid (HE0.out.trans he)
  have q1 : w1.cell? ⟨w.heap.size, 0, none⟩ = some (.slice A0 l.length c0) := (Cs.ext HC0.out he).cell 0 _ rfl
  have HC1 := Lib.hid (Cs.ext HC0.out he)
  have HUV := Lib.hid (And.intro (hu.ext he) (hv.ext he))
  clear hu hv he q0 HE0 HC0
  obtain ⟨p, hp⟩ : ∃ p, (accF l a).1 = p := ⟨_, rfl⟩
  rw [hp] at HOKA HUV HDEF ⊢
  clear hp
  go_wp2_with fail
  refine (refEmpty_any p u v _ HOKA.out HUV.out.1 HUV.out.2).mono ?_
  rintro e w2 ⟨rfl, he⟩
  have HE2 := Lib.hid (HE1.out.trans he)
  have q2 : w2.cell? ⟨w.heap.size, 0, none⟩ = some (.slice A0 l.length c0) := (Cs.ext HC1.out he).cell 0 _ rfl
  clear he q1 HE1 HC1 HUV
  cases hem : p.emptyB with
  | false =>
   rw [hem] at HDEF
   have HF := Lib.hid (show roomR l a = true by rw [HDEF.out, if_pos rfl])
   clear hem HDEF
   go_wp2_with fail
   go_ret
   exact ⟨by rw [HF.out]; rfl, HE2.out⟩
  | true =>
   rw [hem, if_neg (by simp)] at HDEF
   clear hem
   by_cases h16 : a < 16
   ·have d3 : decide ((a : Int) < 16) = true := decide_eq_true (by omega)
    have d4 : decide (a < 16) = true := decide_eq_true h16
    have HF := Lib.hid (show roomR l a = true by rw [HDEF.out, if_pos h16])
    clear h16 HDEF
    go_wp2_with fail
    go_ret
    exact ⟨by rw [HF.out]; rfl, HE2.out⟩
   ·have d3 : decide ((a : Int) < 16) = false := decide_eq_false (by omega)
    have d4 : decide (a < 16) = false := decide_eq_false h16
    have HF := Lib.hid (show roomR l a = decide (freeN l < 24) by rw [HDEF.out, if_neg h16])
    clear h16 HDEF
    go_wp2_with fail
    refine (refMany_any _ l _ (HS.out.ext HE2.out)).mono ?_
    rintro e w3 ⟨rfl, he⟩
    have HE3 := Lib.hid (HE2.out.trans he)
    clear he
    generalize freeN l = fn at *
    by_cases h24 : fn < 24
    ·have d5 : decide ((fn : Int) < 24) = true := decide_eq_true (by omega)
     have d6 : decide (fn < 24) = true := decide_eq_true h24
     rw [d6] at HF
     clear h24
     go_wp2_with fail
     go_ret
     exact ⟨by rw [HF.out]; rfl, HE3.out⟩
    ·have d5 : decide ((fn : Int) < 24) = false := decide_eq_false (by omega)
     have d6 : decide (fn < 24) = false := decide_eq_false h24
     rw [d6] at HF
     clear h24
     go_wp2_with fail
     go_ret
     exact ⟨by rw [HF.out]; rfl, HE3.out⟩
end Go.Proofs.Ytiojfpdjnblkhaa
