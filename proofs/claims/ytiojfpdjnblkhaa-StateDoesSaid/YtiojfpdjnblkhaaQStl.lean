/- Package state: what becomes of an account; funds, Of, Room, Total. -/
import Derived.Test.YtiojfpdjnblkhaaQStk
namespace Go.Proofs.Ytiojfpdjnblkhaa
open Go.ChangeShapes Go.WideShapes Go.ChangeAt Go.RowKit Go.Shelf

set_option maxRecDepth 100000 in
theorem wpList_store_bal {ops : Array Oper} {rest : List Oper} {o : Oper} {a : Act} {w : World} {Q : Exit → Act → World → Prop} (hgd : o.guard = none) (hd : o.dst = none) (x y : Operand) (ho : o.op = .store 31 x y)
  (g : Nat) (p : Ac) (u v : Value) (n : Nat) (hx : a.eval x = .pointer (some ⟨g, 1, none⟩)) (hy : a.eval y = wv n) (hg : Ab w g p u v)
  (h : ∀ w', Ab w' g { p with bal := n } u v → w.grownBy w' (some g) → wpList Try.prog ops Q rest a w') : wpList Try.prog ops Q (o :: rest) a w := by
 have h' : ∀ w', Ab w' g { p with bal := n } u v → w.grownBy w' (some g) → wpList Try.prog ops Q rest (a.put o.dst undef) w' := by rw [hd]; exact h
 have hrun := run_storeVar_elem (P := Try.prog) w g 1 37 31 (acc p u v) (wc n) hg winfo (by simp [acc, wc]) (wc_one n)
 refine wpList_plain hgd fun K hK => ?_
 unfold Oper.wp execOp
 simp only [ho, hx, hy, wv, Instr.storeAt, Instr.sureAddr, Sem.run_bind, Sem.run_pure, Result.andThen_ok, hrun]
 exact hK _ _ (h' _ (setRow_heap w g _ _ 37 (0, 0) hg) ⟨rfl, rfl, rfl, by simp [World.setRow], fun q _ hq => setRow_other w g q _ (fun e => hq (by simp [e]))⟩)
set_option maxRecDepth 100000 in
set_option maxHeartbeats 2000000 in
theorem gains1_any (p : Ac) (u v : Value) (n gn : Nat) (w : World) (hp : p.ok) (hu : u.oneCell' = true) (hv : v.oneCell' = true) (hn : n < M256) (hw : Wd w gn 31 n) :
  Calls Try.prog 122 #[.agg (acc p u v), .pointer (some ⟨gn, 0, none⟩)] w fun e w' => e = .returned (.agg (acc { p with bal := (p.bal + n) % M256 } u v)) ∧ Ext w w' := by
 have HW := Lib.hid hw
 have HU := Lib.hid hu
 have HV := Lib.hid hv
 have HG := Lib.hid (Cs.lt hw)
 have HPO := Lib.hid hp
 have HK : Hid (Ab ((w.alloc (.cells (acc p u v) 37)).alloc (.cells az0 37)) w.heap.size p u v) := Lib.hid (Cs.alloc (Cs.new _ _ _ _ rfl) _)
 have HZ : Hid (Cs ((w.alloc (.cells (acc p u v) 37)).alloc (.cells az0 37)) (w.heap.size + 1) 37 az0) := Lib.hid (Cs.new _ _ _ _ (by simp))
 have HE := Lib.hid (((Ext.refl w).alloc (.cells (acc p u v) 37)).alloc (.cells az0 37))
 clear hw hu hv hp
 obtain ⟨cs, hcs⟩ : ∃ cs, acc p u v = cs := ⟨_, rfl⟩
 have HCS := Lib.hid hcs
 rw [hcs] at HK HE HZ
 rw [hcs]
 clear hcs
 unfold az0 at HK HE HZ
 go_enter Try.func122, Try.ntmps122
 go_wp2_with (first
  | ((with_reducible refine wpList_load_wordIn ?_ (.tmp 5) ?_ w.heap.size 1 p.bal ?_ ?_ ?_); (exact rfl); (exact rfl); (exact rfl); (exact HK.out.bal))
  | ((with_reducible refine wpList_load_word ?_ 31 28 (.tmp 1) ?_ Try.underlying31 winfo gn n ?_ ?_ ?_); (exact rfl); (exact rfl); (exact rfl); (exact Cs.ext HW.out HE.out)))
 refine (add_any p.bal n _ HPO.out.2.1 hn).mono ?_
 rintro e w1 ⟨rfl, he⟩
 have K1 := Lib.hid (Ab.ext HK.out he)
 have Z1 := Lib.hid (Cs.ext HZ.out he)
 have HE1 := Lib.hid (HE.out.trans he)
 clear he HK HZ HE
 obtain ⟨nb, hnb⟩ : ∃ nb, (p.bal + n) % M256 = nb := ⟨_, rfl⟩
 have HNB := Lib.hid hnb
 rw [hnb]
 clear hnb
 go_wp2_with (first
  | ((with_reducible refine wpList_store_bal ?_ ?_ (.tmp 11) (.tmp 9) ?_ w.heap.size p u v nb ?_ ?_ ?_ ?_); (exact rfl); (exact rfl); (exact rfl); (exact rfl); (exact rfl); (exact K1.out); intro w2 k2 g2; have K2 := Lib.hid k2; have Z2 := Lib.hid (Cs.kept Z1.out g2 (some_ne (by omega))); have HE2 := Lib.hid (HE1.out.grown g2 (Nat.le_refl _)); clear k2 g2)
  | ((with_reducible refine wpList_load_ac ?_ (.tmp 2) ?_ w.heap.size 0 { p with bal := nb } u v ?_ ?_ ?_); (exact rfl); (exact rfl); (exact rfl); (exact K2.out.range))
  | ((with_reducible refine wpList_store_ac ?_ ?_ (.tmp 3) (.tmp 12) ?_ (w.heap.size + 1) az0 { p with bal := nb } u v ?_ ?_ ?_ ?_ ?_ ?_ ?_); (exact rfl); (exact rfl); (exact rfl); (exact HU.out); (exact HV.out); (exact rfl); (exact rfl); (exact Z2.out); (exact rfl); intro w5 k5 g5; have K5 := Lib.hid k5; have HE5 := Lib.hid (HE2.out.grown g5 (by omega)); clear k5 g5))
 exact bodyPost_ret (results_ac Try.results122 _ _ (w.heap.size + 1) _ _ _ rfl K5.out) rfl ⟨by rw [HNB.out], HE5.out⟩
set_option maxRecDepth 100000 in
set_option maxHeartbeats 2000000 in
theorem spends1_any (p : Ac) (u v : Value) (n gn : Nat) (w : World) (hp : p.ok) (hu : u.oneCell' = true) (hv : v.oneCell' = true) (hn : n < M256) (hw : Wd w gn 31 n) :
  Calls Try.prog 124 #[.agg (acc p u v), .pointer (some ⟨gn, 0, none⟩)] w fun e w' => e = .returned (.agg (acc { p with bal := (p.bal + M256 - n) % M256 } u v)) ∧ Ext w w' := by
 have HW := Lib.hid hw
 have HU := Lib.hid hu
 have HV := Lib.hid hv
 have HG := Lib.hid (Cs.lt hw)
 have HPO := Lib.hid hp
 have HK : Hid (Ab ((w.alloc (.cells (acc p u v) 37)).alloc (.cells az0 37)) w.heap.size p u v) := Lib.hid (Cs.alloc (Cs.new _ _ _ _ rfl) _)
 have HZ : Hid (Cs ((w.alloc (.cells (acc p u v) 37)).alloc (.cells az0 37)) (w.heap.size + 1) 37 az0) := Lib.hid (Cs.new _ _ _ _ (by simp))
 have HE := Lib.hid (((Ext.refl w).alloc (.cells (acc p u v) 37)).alloc (.cells az0 37))
 clear hw hu hv hp
 obtain ⟨cs, hcs⟩ : ∃ cs, acc p u v = cs := ⟨_, rfl⟩
 have HCS := Lib.hid hcs
 rw [hcs] at HK HE HZ
 rw [hcs]
 clear hcs
 unfold az0 at HK HE HZ
 go_enter Try.func124, Try.ntmps124
 go_wp2_with (first
  | ((with_reducible refine wpList_load_wordIn ?_ (.tmp 5) ?_ w.heap.size 1 p.bal ?_ ?_ ?_); (exact rfl); (exact rfl); (exact rfl); (exact HK.out.bal))
  | ((with_reducible refine wpList_load_word ?_ 31 28 (.tmp 1) ?_ Try.underlying31 winfo gn n ?_ ?_ ?_); (exact rfl); (exact rfl); (exact rfl); (exact Cs.ext HW.out HE.out)))
 refine (sub_any p.bal n _ HPO.out.2.1 hn).mono ?_
 rintro e w1 ⟨rfl, he⟩
 have K1 := Lib.hid (Ab.ext HK.out he)
 have Z1 := Lib.hid (Cs.ext HZ.out he)
 have HE1 := Lib.hid (HE.out.trans he)
 clear he HK HZ HE
 obtain ⟨nb, hnb⟩ : ∃ nb, (p.bal + M256 - n) % M256 = nb := ⟨_, rfl⟩
 have HNB := Lib.hid hnb
 rw [hnb]
 clear hnb
 go_wp2_with (first
  | ((with_reducible refine wpList_store_bal ?_ ?_ (.tmp 11) (.tmp 9) ?_ w.heap.size p u v nb ?_ ?_ ?_ ?_); (exact rfl); (exact rfl); (exact rfl); (exact rfl); (exact rfl); (exact K1.out); intro w2 k2 g2; have K2 := Lib.hid k2; have Z2 := Lib.hid (Cs.kept Z1.out g2 (some_ne (by omega))); have HE2 := Lib.hid (HE1.out.grown g2 (Nat.le_refl _)); clear k2 g2)
  | ((with_reducible refine wpList_load_ac ?_ (.tmp 2) ?_ w.heap.size 0 { p with bal := nb } u v ?_ ?_ ?_); (exact rfl); (exact rfl); (exact rfl); (exact K2.out.range))
  | ((with_reducible refine wpList_store_ac ?_ ?_ (.tmp 3) (.tmp 12) ?_ (w.heap.size + 1) az0 { p with bal := nb } u v ?_ ?_ ?_ ?_ ?_ ?_ ?_); (exact rfl); (exact rfl); (exact rfl); (exact HU.out); (exact HV.out); (exact rfl); (exact rfl); (exact Z2.out); (exact rfl); intro w5 k5 g5; have K5 := Lib.hid k5; have HE5 := Lib.hid (HE2.out.grown g5 (by omega)); clear k5 g5))
 exact bodyPost_ret (results_ac Try.results124 _ _ (w.heap.size + 1) _ _ _ rfl K5.out) rfl ⟨by rw [HNB.out], HE5.out⟩
set_option maxRecDepth 100000 in
set_option maxHeartbeats 400000 in
theorem gains_any (n : Nat) (w : World) : Calls Try.prog 79 #[wv n] w fun e w' => e = .returned (.func (.func 122) #[] #[.pointer (some ⟨w.heap.size, 0, none⟩)]) ∧ Wd w' w.heap.size 31 n ∧ Ext w w' := by
 have hcs := Cs.new w (wc n) 31 _ rfl
 unfold wv
 go_enter Try.func79, Try.ntmps79
 go_wp2_with fail
 go_ret
 exact ⟨rfl, hcs, (Ext.refl w).alloc _⟩
set_option maxRecDepth 100000 in
set_option maxHeartbeats 400000 in
theorem spends_any (n : Nat) (w : World) : Calls Try.prog 82 #[wv n] w fun e w' => e = .returned (.func (.func 124) #[] #[.pointer (some ⟨w.heap.size, 0, none⟩)]) ∧ Wd w' w.heap.size 31 n ∧ Ext w w' := by
 have hcs := Cs.new w (wc n) 31 _ rfl
 unfold wv
 go_enter Try.func82, Try.ntmps82
 go_wp2_with fail
 go_ret
 exact ⟨rfl, hcs, (Ext.refl w).alloc _⟩

set_option maxRecDepth 100000 in
set_option maxHeartbeats 2000000 in
theorem funds_any (sv : Value) (l : List Ac) (a n : Nat) (w : World) (hs : Acs w sv l) (ha : a < 18446744073709551616) (hn : n < M256) :
  Calls Try.prog 80 #[.agg #[sv], .int .u64 (a : Nat), wv n] w fun e w' => e = .returned (.bool (decide (n ≤ (accF l a).1.bal))) ∧ Ext w w' := by
 have HS := Lib.hid hs
 have HAK := Lib.hid (accF_ok hs a ha)
 obtain ⟨A0, c0, rfl, h1, h2⟩ := hs.len
 have HJ0 : Hid (Cs ((w.alloc (.cells #[.slice A0 l.length c0] 24)).alloc (.cells (wc n) 31)) w.heap.size 24 #[.slice A0 l.length c0] ∧ Wd ((w.alloc (.cells #[.slice A0 l.length c0] 24)).alloc (.cells (wc n) 31)) (w.heap.size + 1) 31 n) := Lib.hid ⟨Cs.alloc (Cs.new _ _ _ _ rfl) _, Cs.new _ _ _ _ (by simp)⟩
 have HE0 := Lib.hid (((Ext.refl w).alloc (.cells #[.slice A0 l.length c0] 24)).alloc (.cells (wc n) 31))
 have q0 : ((w.alloc (.cells #[.slice A0 l.length c0] 24)).alloc (.cells (wc n) 31)).cell? ⟨w.heap.size, 0, none⟩ = some (.slice A0 l.length c0) := HJ0.out.1.cell 0 _ rfl
 clear hs
 unfold wv
 go_enter Try.func80, Try.ntmps80
 go_wp2_with fail
 generalize (w.alloc (.cells #[.slice A0 l.length c0] 24)).alloc (.cells (wc n) 31) = w0 at *
 refine (account_any _ l a _ (HS.out.ext HE0.out) ha).mono ?_
 rintro e w1 ⟨u, v, rfl, hu, hv, he⟩
 have HE1 := Lib.hid (HE0.out.trans he)
 have HW1 := Lib.hid (Cs.ext HJ0.out.2 he)
 have HOU := Lib.hid (bs_one hu)
 have HOV := Lib.hid (pks_one hv)
 clear hu hv he HJ0 HE0 q0
 obtain ⟨⟨p, b⟩, hpb⟩ : ∃ pb, accF l a = pb := ⟨_, rfl⟩
 have HPB := Lib.hid hpb
 rw [hpb] at HAK ⊢
 clear hpb
 dsimp only at HAK ⊢
 go_wp2_with (first
  | ((with_reducible refine wpList_store_ac ?_ ?_ (.tmp 7) (.tmp 13) ?_ w1.heap.size az0 p u v ?_ ?_ ?_ ?_ ?_ ?_ ?_); (exact rfl); (exact rfl); (exact rfl); (exact HOU.out); (exact HOV.out); (exact rfl); (exact rfl); (exact Cs.new _ _ _ _ rfl); (exact rfl); intro w2 k2 g2; have K2 := Lib.hid k2; have HX2 := Lib.hid (((Ext.refl w1).alloc _).grown g2 (Nat.le_refl _)); clear k2 g2)
  | ((with_reducible refine wpList_load_wordIn ?_ (.tmp 15) ?_ w1.heap.size 1 p.bal ?_ ?_ ?_); (exact rfl); (exact rfl); (exact rfl); (exact K2.out.bal))
  | ((with_reducible refine wpList_load_word ?_ 31 28 (.tmp 5) ?_ Try.underlying31 winfo (w.heap.size + 1) n ?_ ?_ ?_); (exact rfl); (exact rfl); (exact rfl); (exact Cs.ext HW1.out HX2.out)))
 refine (cmp_any p.bal n _ HAK.out.2.1 hn).mono ?_
 rintro e w3 ⟨rfl, he⟩
 have HE3 := Lib.hid ((HE1.out.trans HX2.out).trans he)
 have HF := Lib.hid (show decide (n ≤ p.bal) = decide (0 ≤ cmpN p.bal n) by rw [cmp_ge]; by_cases h : p.bal < n <;> simp [h] <;> omega)
 clear he
 generalize cmpN p.bal n = r at *
 go_wp2_with fail
 go_ret
 exact ⟨by rw [HPB.out, HF.out]; rfl, HE3.out⟩
def totN (l : List Ac) : Nat := if rightL l then (sumW (bals l)).1 else 0
set_option maxRecDepth 100000 in
set_option maxHeartbeats 2000000 in
theorem stateTotal_any (sv : Value) (l : List Ac) (w : World) (hs : Acs w sv l) (hl : l.length ≤ 10000) :
  Calls Try.prog 38 #[.agg #[sv]] w fun e w' => e = .returned (wv (totN l)) ∧ Ext w w' := by
 have HS := Lib.hid hs
 obtain ⟨A0, c0, rfl, h1, h2⟩ := hs.len
 have HJ0 : Hid (Cs ((w.alloc (.cells #[.slice A0 l.length c0] 24)).alloc (.cells (wc 0) 31)) w.heap.size 24 #[.slice A0 l.length c0] ∧ Cs ((w.alloc (.cells #[.slice A0 l.length c0] 24)).alloc (.cells (wc 0) 31)) (w.heap.size + 1) 31 (wc 0)) := Lib.hid ⟨Cs.alloc (Cs.new _ _ _ _ rfl) _, Cs.new _ _ _ _ (by simp)⟩
 have HE0 := Lib.hid (((Ext.refl w).alloc (.cells #[.slice A0 l.length c0] 24)).alloc (.cells (wc 0) 31))
 have q0 : ((w.alloc (.cells #[.slice A0 l.length c0] 24)).alloc (.cells (wc 0) 31)).cell? ⟨w.heap.size, 0, none⟩ = some (.slice A0 l.length c0) := HJ0.out.1.cell 0 _ rfl
 have HWC : Hid ((wc 0) = #[.int .u64 0, .int .u64 0, .int .u64 0, .int .u64 0]) := Lib.hid (by simp [wc, lv, lb])
 have HT : Hid (totN l = if rightL l then (sumW (bals l)).1 else 0) := Lib.hid rfl
 have HCE : Hid (chkE l = if rightL l then 0 else 160) := Lib.hid rfl
 clear hs
 rw [HWC.out] at HJ0 HE0 q0
 go_enter Try.func38, Try.ntmps38
 go_wp2_with fail
 generalize (w.alloc (.cells #[.slice A0 l.length c0] 24)).alloc (.cells #[.int .u64 0, .int .u64 0, .int .u64 0, .int .u64 0] 31) = w0 at *
 refine (stateCheck_any _ l _ (HS.out.ext HE0.out) (by omega)).mono ?_
 rintro e w1 ⟨rfl, he⟩
 have HE1 := Lib.hid (HE0.out.trans he)
 have HJ1 := Lib.hid (And.intro (Cs.ext HJ0.out.1 he) (Cs.ext HJ0.out.2 he))
 rw [← HWC.out] at HJ1
 have q1 : w1.cell? ⟨w.heap.size, 0, none⟩ = some (.slice A0 l.length c0) := HJ1.out.1.cell 0 _ rfl
 clear he HJ0 HE0 q0 HWC
 rw [HCE.out]
 cases hr : rightL l with
 | false =>
  rw [hr] at HT
  have HF := Lib.hid (show totN l = 0 by rw [HT.out]; rfl)
  clear hr
  go_wp2_with ((with_reducible refine wpList_store_word ?_ ?_ 31 (.tmp 2) (.tmp 8) ?_ winfo (w.heap.size + 1) (wc 0) 0 ?_ ?_ ?_ ?_ ?_); (exact rfl); (exact rfl); (exact rfl); (exact rfl); (exact rfl); (exact HJ1.out.2); (exact rfl); intro w2 k2 g2; have K2 := Lib.hid k2; have HE2 := Lib.hid (HE1.out.grown g2 (by omega)); clear k2 g2)
  refine bodyPost_ret (results_word Try.results38 _ _ (w.heap.size + 1) 0 rfl K2.out Try.underlying31 winfo) rfl ?_
  exact ⟨by rw [HF.out], HE2.out⟩
 | true =>
  rw [hr] at HT
  have HF := Lib.hid (show totN l = (sumW (bals l)).1 by rw [HT.out]; rfl)
  clear hr
  go_wp2_with fail
  refine (stateSum_any _ (.slice none 0 0) l [] _ (HS.out.ext HE1.out) (ws_nil _) (by omega) (by simp)).mono ?_
  rintro e w2 ⟨rfl, he⟩
  rw [List.nil_append]
  have HE2 := Lib.hid (HE1.out.trans he)
  have HJ2 := Lib.hid (Cs.ext HJ1.out.2 he)
  clear he HE1 HJ1 q1
  generalize sumW (bals l) = sm at *
  obtain ⟨s, o⟩ := sm
  dsimp only at HF ⊢
  go_wp2_with (first
   | ((with_reducible refine wpList_store_word ?_ ?_ 31 (.tmp 3) (.tmp 12) ?_ winfo w2.heap.size (wc 0) s ?_ ?_ ?_ ?_ ?_); (exact rfl); (exact rfl); (exact rfl); (exact rfl); (exact rfl); (exact Cs.new _ _ _ _ rfl); (exact rfl); intro w3 k3 g3; have K3 := Lib.hid k3; have HX3 := Lib.hid (((Ext.refl w2).alloc _).grown g3 (Nat.le_refl _)); clear k3 g3)
   | ((with_reducible refine wpList_load_word ?_ 31 28 (.tmp 3) ?_ Try.underlying31 winfo w2.heap.size s ?_ ?_ ?_); (exact rfl); (exact rfl); (exact rfl); (exact K3.out))
   | ((with_reducible refine wpList_store_word ?_ ?_ 31 (.tmp 2) (.tmp 14) ?_ winfo (w.heap.size + 1) (wc 0) s ?_ ?_ ?_ ?_ ?_); (exact rfl); (exact rfl); (exact rfl); (exact rfl); (exact rfl); (exact Cs.ext HJ2.out HX3.out); (exact rfl); intro w4 k4 g4; have K4 := Lib.hid k4; have HE4 := Lib.hid ((HE2.out.trans HX3.out).grown g4 (by omega)); clear k4 g4))
  refine bodyPost_ret (results_word Try.results38 _ _ (w.heap.size + 1) s rfl K4.out Try.underlying31 winfo) rfl ?_
  exact ⟨by rw [HF.out], HE4.out⟩
end Go.Proofs.Ytiojfpdjnblkhaa
