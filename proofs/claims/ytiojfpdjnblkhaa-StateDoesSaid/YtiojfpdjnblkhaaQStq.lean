/- Package state: a slot behind all others; Save. Package state: Save, Load. Package state: Load. -/
import Derived.Test.YtiojfpdjnblkhaaQStn
namespace Go.Proofs.Ytiojfpdjnblkhaa
open Go.ChangeShapes Go.WideShapes Go.ChangeAt Go.RowKit Go.Shelf

theorem pkf_app (l m : List (Nat × Nat)) : pkf (l ++ m) = pkf l ++ pkf m := by simp [pkf]
theorem pkf_one1 (p : Nat × Nat) : pkf [p] = (pkc p).toList := by simp [pkf]
theorem rs_pair {W : World} {g : Nat} {p : Nat × Nat} (h : Cs W g 33 (pkc p)) : Rs W 8 (.slice (some ⟨g, 0, none⟩) 1 1) 1 (pkc p).toList := ⟨rfl, _, _, rfl, Nat.le_refl _, by unfold maxLen; omega, fun _ => ⟨g, 0, rfl, fun i z hz => by
 rw [Nat.zero_add]
 exact Cs.cell h i z (by rwa [Array.getElem?_toList] at hz)⟩⟩
theorem pair_range {W : World} {g : Nat} {p : Nat × Nat} (h : Cs W g 33 (pkc p)) : W.rangeAt g 0 (pkc p).toList := fun j x hx => by
 rw [Nat.zero_add]
 exact Cs.cell h j x (by rwa [Array.getElem?_toList] at hx)
theorem pkc_ones (p : Nat × Nat) : ∀ z ∈ (pkc p).toList, z.oneCell' = true := fun z hz => Array.all_eq_true_iff_forall_mem.1 (pkc_one p) z (by simpa using hz)
set_option maxRecDepth 100000 in
set_option maxHeartbeats 2000000 in
theorem insertEnd_any (sv : Value) (l : List (Nat × Nat)) (g : Nat) (p : Nat × Nat) (lo : Nat) (w : World) (hs : OwnK w lo sv l) (hl : l.length ≤ 100000) (hp : p.1 < M256 ∧ p.2 < M256) (hg : Cs w g 33 (pkc p)) (hlo : lo ≤ w.heap.size) :
  Calls Try.prog 127 #[sv, .int .i64 (l.length : Nat), .slice (some ⟨g, 0, none⟩) 1 1] w fun e w' => ∃ v', e = .returned v' ∧ OwnK w' lo v' (l ++ [p]) ∧ w.grownBy w' sv.ownBlock := by
 have HS := Lib.hid hs
 have HP := Lib.hid (rs_pair hg)
 have HLW := Lib.hid (show ∀ q ∈ l ++ [p], q.1 < M256 ∧ q.2 < M256 from fun q hq => by
  rcases List.mem_append.1 hq with h | h
  ·exact hs.2 q h
  ·rw [List.mem_singleton.1 h]; exact hp)
 obtain ⟨_, A1, c, rfl, h1, h2, _⟩ := Rs.of_own hs.1
 unfold maxLen at h2
 have HLL := Lib.hid (show (l ++ [p]).length = l.length + 1 by simp)
 have HPA := Lib.hid (show pkf (l ++ [p]) = pkf l ++ (pkc p).toList by rw [pkf_app, pkf_one1])
 clear hs hg
 go_enter Try.func127, Try.ntmps127
 go_wp2_with (first
  | (at_builtin; refine wpList_append_row ?_ (.tmp 23) (.tmp 24) 35 rfl lo 33 Try.underlying35 _ 8 64 pkinfo3 rfl (by decide) (.slice A1 l.length c) l.length (pkf l) rfl HS.out.1 (.slice (some ⟨g, 0, none⟩) 1 1) 1 (pkc p).toList rfl HP.out (pkc_ones p) (by omega) (by decide) hlo ?_; (exact rfl); intro v5 w5 o5 g5 b5; have O5 := Lib.hid o5; have G5 := Lib.hid g5; clear o5 g5 b5))
 all_goals
  refine bodyPost_ret (results_tmp rfl _ _ _) rfl ?_
  exact ⟨_, rfl, ⟨by rw [HLL.out, HPA.out]; exact O5.out, HLW.out⟩, by have := G5.out; cases A1 <;> exact this⟩

def savL (l : List (Nat × Nat)) (p : Nat × Nat) : List (Nat × Nat) := (l.filter (fun q => decide (q.1 < p.1)) ++ if p.2 = 0 then [] else [p]) ++ l.filter (fun q => decide (p.1 < q.1))
def SavedOK (l : List (Nat × Nat)) (p : Nat × Nat) : Prop := ∀ (lo : Nat) (W : World) (sv : Value), OwnK W lo sv l → lo ≤ W.heap.size → Calls Try.prog 84 #[sv, .agg (pkc p)] W fun e w' => ∃ v', e = .returned v' ∧ OwnK w' lo v' (savL l p) ∧ W.grownBy w' sv.ownBlock
theorem grown_ext_any {W W' : World} (h : Ext W W') (row : Option Nat) : W.grownBy W' row := ⟨h.os, h.tape, h.output, h.size, fun k hk _ => Below.block h k hk⟩
theorem grown_then {W W1 W2 : World} {row : Option Nat} (h : Ext W W1) (k : W1.grownBy W2 row) : W.grownBy W2 row := ⟨k.os.trans h.os, k.tape.trans h.tape, k.output.trans h.output, Nat.le_trans h.size k.size, fun j hj hne => (k.block j (Nat.lt_of_lt_of_le hj h.size) hne).trans (Below.block h j hj)⟩
set_option maxRecDepth 100000 in
set_option maxHeartbeats 4000000 in
theorem saved_nil (p : Nat × Nat) (hp : p.1 < M256 ∧ p.2 < M256) (hp0 : p.2 ≠ 0) : SavedOK [] p := by
 intro lo w sv hs hlo
 have HS := Lib.hid hs
 obtain ⟨_, A1, c, rfl, h1, h2, _⟩ := Rs.of_own hs.1
 have HK : Hid (Cs (w.alloc (.cells (pkc p) 33)) w.heap.size 33 (pkc p)) := Lib.hid (Cs.new _ _ _ _ rfl)
 have HE := Lib.hid ((Ext.refl w).alloc (.cells (pkc p) 33))
 have HPK := Lib.hid (pkb_key HK.out)
 have HSL := Lib.hid (show savL [] p = [p] by simp [savL, hp0])
 have hz : (p.2 == 0) = false := by simpa using hp0
 have HNZ := Lib.hid hz
 clear hs hp0 hz
 obtain ⟨pc, hpc⟩ : ∃ pc, pkc p = pc := ⟨_, rfl⟩
 have HPC := Lib.hid hpc
 rw [hpc] at HE HK HPK ⊢
 clear hpc
 go_enter Try.func84, Try.ntmps84
 go_wp2_with ((with_reducible refine wpList_load_wordIn ?_ (.tmp 9) ?_ w.heap.size 0 p.1 ?_ ?_ ?_); (exact rfl); (exact rfl); (exact rfl); (exact HPK.out))
 generalize w.alloc (.cells pc 33) = w0 at *
 refine (slot_any _ [] p.1 _ (HS.out.ext HE.out).pks (fun i j _ h => by simp at h) (by simp) hp.1).mono ?_
 rintro e w1 ⟨rfl, he⟩
 have HE1 := Lib.hid (HE.out.trans he)
 have HK1 := Lib.hid (Cs.ext HK.out he)
 rw [← HPC.out] at HK1
 have HPV := Lib.hid (pkb_val HK1.out)
 clear he HK HE HPK
 rw [show posK [] p.1 = 0 from rfl, show hasK [] p.1 = false from rfl]
 go_wp2_with (first
  | ((with_reducible refine wpList_load_wordIn ?_ (.tmp 20) ?_ w.heap.size 4 p.2 ?_ ?_ ?_); (exact rfl); (exact rfl); (exact rfl); (exact HPV.out))
  | ((with_reducible refine wpList_eql_word ?_ (.tmp 21) (.tmp 22) ?_ p.2 0 hp.2 (by decide) ?_ ?_ ?_); (exact rfl); (exact rfl); (exact rfl); (exact rfl); rw [HNZ.out])
  | ((with_reducible refine wpList_load_pair ?_ (.tmp 3) ?_ w.heap.size 0 p ?_ ?_ ?_); (exact rfl); (exact rfl); (exact rfl); (exact pair_range HK1.out))
  | ((with_reducible refine wpList_build_one ?_ (.tmp 27) 35 33 ?_ Try.underlying35 _ 8 64 pkinfo3 (by decide) (by decide) (pkc p) rfl ?_ ?_); (exact rfl); (exact rfl); (exact rfl)))
 have HS1 := Lib.hid ((HS.out.ext HE1.out).ext ((Ext.refl w1).alloc (.cells (pkc p) 33)))
 refine (insertEnd_any _ [] w1.heap.size p lo _ HS1.out (by simp) hp (Cs.new _ _ _ _ rfl) (by have := HE1.out.size; simp; omega)).mono ?_
 rintro e w2 ⟨v', rfl, ho, hg⟩
 have HO := Lib.hid ho
 have HG := Lib.hid (grown_then (HE1.out.alloc (.cells (pkc p) 33)) hg)
 clear ho hg
 go_wp2_with fail
 refine bodyPost_ret (results_tmp rfl _ _ _) rfl ?_
 exact ⟨_, rfl, by rw [HSL.out]; exact HO.out, HG.out⟩
end Go.Proofs.Ytiojfpdjnblkhaa
namespace Go.Proofs.Ytiojfpdjnblkhaa
open Go.ChangeShapes Go.WideShapes Go.ChangeAt Go.RowKit Go.Shelf

theorem own_diff {W : World} {lo lo' n m s s' : Nat} {e e' : TypeId} {u v : Value} {cs ds : List Value} (hne : e ≠ e') (h : W.ownsRow lo e s u n cs) (k : W.ownsRow lo' e' s' v m ds) : u.ownBlock = none ∨ u.ownBlock ≠ v.ownBlock := by
 rcases h.2 with ⟨rfl, _⟩ | ⟨g, cap, cur, rfl, _, hg, _⟩
 ·exact .inl rfl
 ·rcases k.2 with ⟨rfl, _⟩ | ⟨g', cap', cur', rfl, _, hg', _⟩
  ·exact .inr (by simp [Value.ownBlock])
  ·refine .inr (fun e1 => ?_)
   injection e1 with e1
   subst e1
   rw [hg] at hg'
   cases hg'
   exact hne rfl
theorem OwnK.keptT {W W' : World} {lo g : Nat} {v : Value} {l : List (Nat × Nat)} {t : TypeId} {cs : Array Value} (h : OwnK W lo v l) (hg : W.grownBy W' (some g)) (hs : Cs W g t cs) (ht : t ≠ 33) : OwnK W' lo v l := by
 refine ⟨h.1.kept hg ?_, h.2⟩
 rcases h.1.2 with ⟨rfl, _⟩ | ⟨g', cap, cur, rfl, _, hgg, _⟩
 ·exact .inl rfl
 ·refine .inr (fun e' => ?_)
  injection e' with e'
  subst e'
  rw [show W.heap[g']? = _ from hs] at hgg
  cases hgg
  exact ht rfl
theorem grown_box {w W W' : World} {row : Option Nat} {g : Nat} (h : w.grownBy W row) (k : W.grownBy W' (some g)) (hg : w.heap.size ≤ g) : w.grownBy W' row :=
 ⟨k.os.trans h.os, k.tape.trans h.tape, k.output.trans h.output, Nat.le_trans h.size k.size, fun j hj hne => (k.block j (Nat.lt_of_lt_of_le hj h.size) (fun e => by injection e with e; omega)).trans (h.block j hj hne)⟩
set_option maxRecDepth 100000 in
set_option maxHeartbeats 4000000 in
theorem save1_any (p : Ac) (u v : Value) (q : Nat × Nat) (gq lo : Nat) (w : World) (hu : u.oneCell' = true) (ho : OwnK w lo v p.store) (hlo : lo ≤ w.heap.size) (hq : Cs w gq 33 (pkc q)) (hS : SavedOK p.store q) :
  Calls Try.prog 83 #[.agg (acc p u v), .pointer (some ⟨gq, 0, none⟩)] w fun e w' => ∃ v', e = .returned (.agg (acc { p with store := savL p.store q } u v')) ∧ OwnK w' lo v' (savL p.store q) ∧ w.grownBy w' v.ownBlock := by
 have HO := Lib.hid ho
 have HS := Lib.hid hS
 have HU := Lib.hid hu
 have HBL := Lib.hid (fun g (e : v.ownBlock = some g) => (ho.1.lt g e).2)
 obtain ⟨_, A1, c, rfl, h1, h2, _⟩ := Rs.of_own ho.1
 unfold maxLen at h2
 have HK : Hid (Ab ((w.alloc (.cells (acc p u (.slice A1 p.store.length c)) 37)).alloc (.cells az0 37)) w.heap.size p u (.slice A1 p.store.length c)) := Lib.hid (Cs.alloc (Cs.new _ _ _ _ rfl) _)
 have HZ : Hid (Cs ((w.alloc (.cells (acc p u (.slice A1 p.store.length c)) 37)).alloc (.cells az0 37)) (w.heap.size + 1) 37 az0) := Lib.hid (Cs.new _ _ _ _ (by simp))
 have HE := Lib.hid (((Ext.refl w).alloc (.cells (acc p u (.slice A1 p.store.length c)) 37)).alloc (.cells az0 37))
 have HQ := Lib.hid (pair_range (Cs.ext hq HE.out))
 have c7 := HK.out.store
 clear ho hS hu hq
 obtain ⟨cs, hcs⟩ : ∃ cs, acc p u (.slice A1 p.store.length c) = cs := ⟨_, rfl⟩
 have HCS := Lib.hid hcs
 rw [hcs] at HK HE HZ HQ c7 ⊢
 have hcs7 : cs[7]? = some (.slice A1 p.store.length c) := by rw [← hcs]; rfl
 clear hcs
 unfold az0 at HK HE HZ HQ c7
 go_enter Try.func83, Try.ntmps83
 go_wp2_with ((with_reducible refine wpList_load_pair ?_ (.tmp 1) ?_ gq 0 q ?_ ?_ ?_); (exact rfl); (exact rfl); (exact rfl); (exact HQ.out))
 refine (HS.out lo _ _ (HO.out.ext HE.out) (Nat.le_trans hlo HE.out.size)).mono ?_
 rintro e w1 ⟨v1, rfl, hpk, hg⟩
 have HP1 := Lib.hid hpk
 have HG1 := Lib.hid (grown_then HE.out hg)
 have K1 := Lib.hid (show Ab w1 w.heap.size p u (.slice A1 p.store.length c) from Cs.kept HK.out hg (fun e => by have := HBL.out w.heap.size (by first | exact e | exact e.symm); omega))
 have Z1 := Lib.hid (Cs.kept HZ.out hg (fun e => by have := HBL.out (w.heap.size + 1) (by first | exact e | exact e.symm); omega))
 have HB1 := Lib.hid (show w.heap.size + 1 < w1.heap.size from Cs.lt Z1.out)
 have f7 : w1.frozen? ⟨w.heap.size, 7, none⟩ = false := Cs.frozen K1.out 7
 have c7' : w1.cell? ⟨w.heap.size, 7, none⟩ = some (.slice A1 p.store.length c) := K1.out.store
 obtain ⟨A2, c2, rfl, p4, p5⟩ := hpk.pks.len
 clear hpk hg HK HZ HE HQ c7 hcs7 HO HS
 obtain ⟨sl, hsl⟩ : ∃ sl, savL p.store q = sl := ⟨_, rfl⟩
 have HSL := Lib.hid hsl
 rw [hsl] at HP1 p4 ⊢
 clear hsl
 have K2 := Lib.hid (show Ab (w1.setCell ⟨w.heap.size, 7, none⟩ (.slice A2 sl.length c2)) w.heap.size { p with store := sl } u (.slice A2 sl.length c2) from by simpa [Ab, acc] using Cs.set K1.out 7 (.slice A2 sl.length c2))
 have Z2 := Lib.hid (Cs.kept Z1.out (grown_set w1 w.heap.size 7 (.slice A2 sl.length c2)) (some_ne (by omega)))
 have HG2 := Lib.hid (grown_box HG1.out (grown_set w1 w.heap.size 7 (.slice A2 sl.length c2)) (Nat.le_refl _))
 have HP2 := Lib.hid (HP1.out.keptT (grown_set w1 w.heap.size 7 (.slice A2 sl.length c2)) K1.out (by decide))
 go_wp2_with (first
  | ((with_reducible refine wpList_load_ac ?_ (.tmp 2) ?_ w.heap.size 0 { p with store := sl } u (.slice A2 sl.length c2) ?_ ?_ ?_); (exact rfl); (exact rfl); (exact rfl); (exact K2.out.range))
  | ((with_reducible refine wpList_store_ac ?_ ?_ (.tmp 3) (.tmp 9) ?_ (w.heap.size + 1) az0 { p with store := sl } u (.slice A2 sl.length c2) ?_ ?_ ?_ ?_ ?_ ?_ ?_); (exact rfl); (exact rfl); (exact rfl); (exact HU.out); (exact rfl); (exact rfl); (exact rfl); (exact Z2.out); (exact rfl); intro w5 k5 g5; have K5 := Lib.hid k5; have HG5 := Lib.hid (grown_box HG2.out g5 (by omega)); have HP5 := Lib.hid (HP2.out.keptT g5 Z2.out (by decide)); clear k5 g5))
 exact bodyPost_ret (results_ac Try.results83 _ _ (w.heap.size + 1) _ _ _ rfl K5.out) rfl ⟨_, by rw [HSL.out], by rw [HSL.out]; exact HP5.out, HG5.out⟩

def saveA (l : List Ac) (a : Nat) (q : Nat × Nat) : Ac := { (accF l a).1 with store := savL (accF l a).1.store q }
def saveS (l : List Ac) (a : Nat) (q : Nat × Nat) : List Ac × Int := if rightL l = false then ([], 160) else if a = 0 then ([], 2) else putS l a (saveA l a q)
theorem savL_len (l : List (Nat × Nat)) (p : Nat × Nat) : (savL l p).length ≤ l.length + l.length + 1 := by
 unfold savL
 have h1 := List.length_filter_le (fun q : Nat × Nat => decide (q.1 < p.1)) l
 have h2 := List.length_filter_le (fun q : Nat × Nat => decide (p.1 < q.1)) l
 simp only [List.length_append]
 split <;> simp <;> omega
set_option maxRecDepth 100000 in
theorem savePut_any (sv : Value) (l : List Ac) (a gq : Nat) (q : Nat × Nat) (w : World) (hs : Acs w sv l) (ha : a < 18446744073709551616) (hl : l.length ≤ 10000) (hsz : ∀ q ∈ l, q.code.length ≤ 1000000 ∧ q.store.length ≤ 1000000) (hw : Cs w gq 33 (pkc q)) (hS : SavedOK (accF l a).1.store q) :
  Calls Try.prog 78 #[.agg #[sv], .int .u64 (a : Nat), .func (.func 83) #[] #[.pointer (some ⟨gq, 0, none⟩)]] w (RetS w (putS l a (saveA l a q))) := by
 have hok := accF_ok hs a ha
 have hz : (accF l a).1.code.length ≤ 1000000 ∧ (accF l a).1.store.length ≤ 1000000 := by
  unfold accF
  cases hf : l.find? (fun p => p.addr == a) with
  | some p => exact hsz p (List.mem_of_find?_eq_some hf)
  | none => exact ⟨by simp, by simp⟩
 have hsl := savL_len (accF l a).1.store q
 refine statePut_any sv l a (saveA l a q) _ _ w hs ha hl (fun q hq => ⟨by have := (hsz q hq).1; omega, by have := (hsz q hq).2; omega⟩) hok ⟨by show (accF l a).1.code.length ≤ _; omega, by show (savL (accF l a).1.store q).length ≤ _; omega⟩ (enters_of Try.func83 (by kernel_rfl) rfl) (fun W lo u v hE h1 h2 ho => ?_)
 refine (save1_any (accF l a).1 u v q gq lo W (bs_one ho.1.bs) ho.2 h2 (Cs.ext hw hE) hS).mono ?_
 rintro e w' ⟨v', rfl, hk, hg⟩
 refine ⟨u, v', rfl, ?_, hk.pks, ?_⟩
 ·refine Own.bs (World.ownsRow.kept ho.1 hg ?_)
  exact own_diff (by decide) ho.1 ho.2.1
 ·exact Below.grown (Below.refl lo W) hg h2 (fun k e => (ho.2.1.lt k e).1)
def SvJ (w : World) (g3 g5 g6 : Nat) (sv : Value) (q : Nat × Nat) (W : World) : Prop := Cs W g3 24 #[sv] ∧ Cs W g5 33 (pkc q) ∧ Cs W g6 24 #[.slice none 0 0] ∧ Ext w W
theorem SvJ.ext {w : World} {g3 g5 g6 : Nat} {sv : Value} {q : Nat × Nat} {W W' : World} (h : SvJ w g3 g5 g6 sv q W) (he : Ext W W') : SvJ w g3 g5 g6 sv q W' := ⟨Cs.ext h.1 he, Cs.ext h.2.1 he, Cs.ext h.2.2.1 he, h.2.2.2.trans he⟩
set_option maxRecDepth 100000 in
set_option maxHeartbeats 4000000 in
theorem stateSave_any (sv : Value) (l : List Ac) (a : Nat) (q : Nat × Nat) (w : World) (hs : Acs w sv l) (ha : a < 18446744073709551616) (hl : l.length ≤ 1000) (hsz : ∀ q ∈ l, q.code.length ≤ 1000000 ∧ q.store.length ≤ 1000000) (hS : rightL l = true → SavedOK (accF l a).1.store q) :
  Calls Try.prog 37 #[.agg #[sv], .int .u64 (a : Nat), .agg (pkc q)] w (RetS w (saveS l a q)) := by
 have HDEF : Hid (saveS l a q = if rightL l = false then ([], 160) else if a = 0 then ([], 2) else putS l a (saveA l a q)) := Lib.hid rfl
 have HS := Lib.hid hs
 have HSZ := Lib.hid hsz
 have HSV := Lib.hid hS
 obtain ⟨A0, c0, rfl, h1, h2⟩ := hs.len
 obtain ⟨w0, hw0⟩ : ∃ w0, (((w.alloc (.cells #[.slice A0 l.length c0] 24)).alloc (.cells (pkc q) 33)).alloc (.cells #[.slice none 0 0] 24)) = w0 := ⟨_, rfl⟩
 have HJ0 : Hid (SvJ w w.heap.size (w.heap.size + 1) (w.heap.size + 1 + 1) (.slice A0 l.length c0) q w0) := by
  rw [← hw0]
  exact Lib.hid ⟨Cs.alloc (Cs.alloc (Cs.new _ _ _ _ rfl) _) _, Cs.alloc (Cs.new _ _ _ _ (by simp)) _, Cs.new _ _ _ _ (by simp), (((Ext.refl w).alloc _).alloc _).alloc _⟩
 have q0 : ((((w.alloc (.cells #[.slice A0 l.length c0] 24)).alloc (.cells (pkc q) 33)).alloc (.cells #[.slice none 0 0] 24))).cell? ⟨w.heap.size, 0, none⟩ = some (.slice A0 l.length c0) := by rw [hw0]; exact HJ0.out.1.cell 0 _ rfl
 obtain ⟨pc, hpc⟩ : ∃ pc, pkc q = pc := ⟨_, rfl⟩
 rw [hpc] at hw0 q0 ⊢
 have HW0 := Lib.hid hw0
 have HCE : Hid (chkE l = if rightL l then 0 else 160) := Lib.hid rfl
 clear hs hsz hw0 hS hpc
 go_enter Try.func37, Try.ntmps37
 go_wp2_with fail
 rw [HW0.out]
 refine (stateCheck_any _ l _ (HS.out.ext HJ0.out.2.2.2) (by omega)).mono ?_
 rintro e w1 ⟨rfl, he⟩
 have HJ1 := Lib.hid (HJ0.out.ext he)
 have q1 : w1.cell? ⟨w.heap.size, 0, none⟩ = some (.slice A0 l.length c0) := HJ1.out.1.cell 0 _ rfl
 have r1 : w1.cell? ⟨w.heap.size + 1 + 1, 0, none⟩ = some (.slice none 0 0) := HJ1.out.2.2.1.cell 0 _ rfl
 have p1 : w1.frozen? ⟨w.heap.size + 1 + 1, 0, none⟩ = false := HJ1.out.2.2.1.frozen 0
 clear he HJ0 q0 HW0
 rw [HCE.out]
 cases hr : rightL l with
 | false =>
  rw [hr] at HDEF
  have HF := Lib.hid (show saveS l a q = ([], 160) by rw [HDEF.out]; rfl)
  clear hr HDEF
  go_wp2_with fail
  refine bodyPost_ret (results_st_err Try.results37 _ _ (w.heap.size + 1 + 1) (.slice none 0 0) rfl (by simpa using Cs.set HJ1.out.2.2.1 0 (.slice none 0 0))) rfl ?_
  exact ⟨_, by rw [HF.out]; rfl, by rw [HF.out]; exact RwA.nil _ _ _, HJ1.out.2.2.2.grown (grown_set _ _ _ _) (by omega)⟩
 | true =>
  rw [hr] at HDEF
  have HSV := Lib.hid (HSV.out hr)
  clear hr
  by_cases ea : a = 0
  ·have HF := Lib.hid (show saveS l a q = ([], 2) by rw [HDEF.out]; simp [ea])
   have d1 : ((a : Int) == 0) = true := by simp [ea]
   have d2 : (a == 0) = true := by simp [ea]
   clear HDEF ea
   go_wp2_with fail
   refine bodyPost_ret (results_st_err Try.results37 _ _ (w.heap.size + 1 + 1) (.slice none 0 0) rfl (by simpa using Cs.set HJ1.out.2.2.1 0 (.slice none 0 0))) rfl ?_
   exact ⟨_, by rw [HF.out]; rfl, by rw [HF.out]; exact RwA.nil _ _ _, HJ1.out.2.2.2.grown (grown_set _ _ _ _) (by omega)⟩
  ·have HF := Lib.hid (show saveS l a q = putS l a (saveA l a q) by rw [HDEF.out]; simp [ea])
   have d1 : ((a : Int) == 0) = false := by simp; omega
   have d2 : (a == 0) = false := by simpa using ea
   clear HDEF ea
   have HPT := Lib.hid (savePut_any (.slice A0 l.length c0) l a (w.heap.size + 1) q w1 (HS.out.ext HJ1.out.2.2.2) ha (by omega) HSZ.out HJ1.out.2.1 HSV.out)
   obtain ⟨r, hr⟩ : ∃ r, putS l a (saveA l a q) = r := ⟨_, rfl⟩
   rw [hr] at HPT HF
   clear hr
   go_wp2_with fail
   refine HPT.out.mono ?_
   rintro e w2 ⟨v', rfl, hr, he⟩
   have HJ2 := Lib.hid (HJ1.out.ext he)
   obtain ⟨A2, c2, rfl⟩ := hr.shape
   have HR2 := Lib.hid hr
   have r2 : w2.cell? ⟨w.heap.size + 1 + 1, 0, none⟩ = some (.slice none 0 0) := HJ2.out.2.2.1.cell 0 _ rfl
   have p2 : w2.frozen? ⟨w.heap.size + 1 + 1, 0, none⟩ = false := HJ2.out.2.2.1.frozen 0
   clear hr he
   go_wp2_with fail
   refine bodyPost_ret (results_st_err Try.results37 _ _ (w.heap.size + 1 + 1) (.slice A2 r.1.length c2) rfl (by simpa using Cs.set HJ2.out.2.2.1 0 (.slice A2 r.1.length c2))) rfl ?_
   exact ⟨_, by rw [HF.out]; rfl, by rw [HF.out]; exact (HR2.out.keptS (grown_set _ _ _ _) HJ2.out.2.2.1).low HJ1.out.2.2.2.size, HJ2.out.2.2.2.grown (grown_set _ _ _ _) (by omega)⟩
end Go.Proofs.Ytiojfpdjnblkhaa
namespace Go.Proofs.Ytiojfpdjnblkhaa
open Go.ChangeShapes Go.WideShapes Go.ChangeAt Go.RowKit Go.Shelf

theorem right_rise {a : Ac} (h : a.rightB = true) : RiseK a.store ∧ a.store.length ≤ 24 ∧ a.code.length ≤ 200 ∧ ∀ i, i < a.store.length → (a.store.getD i (0, 0)).2 ≠ 0 := by
 unfold Ac.rightB at h
 simp only [Bool.and_eq_true, List.all_eq_true, List.mem_range, decide_eq_true_eq] at h
 obtain ⟨_, h2, h3, h4⟩ := h
 have hs : ∀ j, j + 1 < a.store.length → (a.store.getD j (0, 0)).1 < (a.store.getD (j + 1) (0, 0)).1 := fun j hj => by
  have := h4 (j + 1) hj
  unfold slB at this
  simp only [Bool.and_eq_true, Bool.or_eq_true, decide_eq_true_eq, Nat.add_sub_cancel] at this
  rcases this.2 with h | h
  ·omega
  ·exact h
 refine ⟨fun i j hij hj => ?_, h3, h2, fun i hi => ?_⟩
 ·obtain ⟨k, rfl⟩ : ∃ k, j = i + k + 1 := ⟨j - i - 1, by omega⟩
  clear hij
  induction k with
  | zero => exact hs i hj
  | succ k ih => exact Nat.lt_trans (ih (by omega)) (hs (i + k + 1) hj)
 ·have := h4 i hi
  unfold slB at this
  simp only [Bool.and_eq_true, decide_eq_true_eq] at this
  exact this.1
theorem chS_right {s : Option (Nat × Nat)} {p : Ac} {r : Nat × Nat} (h : chS s p = some r) : p.rightB = true ∧ p.emptyB = false ∧ ∃ f t, s = some (f, t) ∧ t < p.addr ∧ r.2 = p.addr := by
 unfold chS at h
 cases s with
 | none => cases h
 | some s =>
  obtain ⟨f, t⟩ := s
  dsimp only at h
  split at h
  ·cases h
  ·split at h
   ·cases h
   ·split at h
    ·cases h
    ·rename_i h1 h2 h3
     refine ⟨by simpa using h3, by simpa using h2, f, t, rfl, by omega, ?_⟩
     split at h
     ·cases h; rfl
     ·split at h
      ·cases h
      ·cases h; rfl
theorem chL_right : ∀ (l : List Ac) (s : Option (Nat × Nat)) (r : Nat × Nat), l.foldl chS s = some r → ∀ p ∈ l, p.rightB = true ∧ p.emptyB = false
 | [], _, _, _, p, hp => nomatch hp
 | q :: l, s, r, h, p, hp => by
  rw [List.foldl_cons] at h
  cases hc : chS s q with
  | none => rw [hc, chS_none] at h; cases h
  | some s' =>
   rcases List.mem_cons.1 hp with rfl | hp
   ·exact ⟨(chS_right hc).1, (chS_right hc).2.1⟩
   ·exact chL_right l _ r h p hp
theorem rightL_all {l : List Ac} (h : rightL l = true) : ∀ p ∈ l, p.rightB = true ∧ p.emptyB = false := by
 unfold rightL at h
 simp only [Bool.and_eq_true] at h
 obtain ⟨r, hr⟩ := Option.isSome_iff_exists.1 h.1
 exact chL_right l _ r hr
theorem accF_right {l : List Ac} (h : rightL l = true) (a : Nat) : RiseK (accF l a).1.store ∧ (accF l a).1.store.length ≤ 24 ∧ (accF l a).1.code.length ≤ 200 := by
 unfold accF
 cases hf : l.find? (fun p => p.addr == a) with
 | some p =>
  have := right_rise ((rightL_all h) p (List.mem_of_find?_eq_some hf)).1
  exact ⟨this.1, this.2.1, this.2.2.1⟩
 | none => exact ⟨fun i j _ hj => by simp at hj, by simp, by simp⟩
def ldN (st : List (Nat × Nat)) (k : Nat) : Nat := if hasK st k then (st.getD (posK st k) (0, 0)).2 else 0
def loadN (l : List Ac) (a k : Nat) : Nat := if rightL l then ldN (accF l a).1.store k else 0
def LdJ (w : World) (g3 g5 g6 : Nat) (sv : Value) (n : Nat) (W : World) : Prop := Cs W g3 24 #[sv] ∧ Wd W g5 31 n ∧ Cs W g6 31 (wc 0) ∧ Ext w W
theorem LdJ.ext {w : World} {g3 g5 g6 : Nat} {sv : Value} {n : Nat} {W W' : World} (h : LdJ w g3 g5 g6 sv n W) (he : Ext W W') : LdJ w g3 g5 g6 sv n W' := ⟨Cs.ext h.1 he, Cs.ext h.2.1 he, Cs.ext h.2.2.1 he, h.2.2.2.trans he⟩
set_option maxRecDepth 100000 in
set_option maxHeartbeats 4000000 in
theorem stateLoad_any (sv : Value) (l : List Ac) (a n : Nat) (w : World) (hs : Acs w sv l) (ha : a < 18446744073709551616) (hl : l.length ≤ 10000) (hn : n < M256) :
  Calls Try.prog 39 #[.agg #[sv], .int .u64 (a : Nat), wv n] w fun e w' => e = .returned (wv (loadN l a n)) ∧ Ext w w' := by
 have HS := Lib.hid hs
 obtain ⟨A0, c0, rfl, h1, h2⟩ := hs.len
 obtain ⟨w0, hw0⟩ : ∃ w0, (((w.alloc (.cells #[.slice A0 l.length c0] 24)).alloc (.cells (wc n) 31)).alloc (.cells #[.int .u64 0, .int .u64 0, .int .u64 0, .int .u64 0] 31)) = w0 := ⟨_, rfl⟩
 have HWC : Hid ((wc 0) = #[.int .u64 0, .int .u64 0, .int .u64 0, .int .u64 0]) := Lib.hid (by simp [wc, lv, lb])
 have HJ0 : Hid (LdJ w w.heap.size (w.heap.size + 1) (w.heap.size + 1 + 1) (.slice A0 l.length c0) n w0) := by
  rw [← hw0]
  exact Lib.hid ⟨Cs.alloc (Cs.alloc (Cs.new _ _ _ _ rfl) _) _, Cs.alloc (Cs.new _ _ _ _ (by simp)) _, by rw [HWC.out]; exact Cs.new _ _ _ _ (by simp), (((Ext.refl w).alloc _).alloc _).alloc _⟩
 have q0 : (((w.alloc (.cells #[.slice A0 l.length c0] 24)).alloc (.cells (wc n) 31)).alloc (.cells #[.int .u64 0, .int .u64 0, .int .u64 0, .int .u64 0] 31)).cell? ⟨w.heap.size, 0, none⟩ = some (.slice A0 l.length c0) := by rw [hw0]; exact HJ0.out.1.cell 0 _ rfl
 have HW0 := Lib.hid hw0
 have HDEF : Hid (loadN l a n = if rightL l then ldN (accF l a).1.store n else 0) := Lib.hid rfl
 have HCE : Hid (chkE l = if rightL l then 0 else 160) := Lib.hid rfl
 clear hs hw0
 unfold wv
 go_enter Try.func39, Try.ntmps39
 go_wp2_with fail
 rw [HW0.out]
 refine (stateCheck_any _ l _ (HS.out.ext HJ0.out.2.2.2) (by omega)).mono ?_
 rintro e w1 ⟨rfl, he⟩
 have HJ1 := Lib.hid (HJ0.out.ext he)
 have q1 : w1.cell? ⟨w.heap.size, 0, none⟩ = some (.slice A0 l.length c0) := HJ1.out.1.cell 0 _ rfl
 clear he HJ0 q0 HW0 HWC
 rw [HCE.out]
 cases hr : rightL l with
 | false =>
  rw [hr] at HDEF
  have HF := Lib.hid (show loadN l a n = 0 by rw [HDEF.out]; rfl)
  clear hr HDEF
  go_wp2_with ((with_reducible refine wpList_store_word ?_ ?_ 31 (.tmp 6) (.tmp 14) ?_ winfo (w.heap.size + 1 + 1) (wc 0) 0 ?_ ?_ ?_ ?_ ?_); (exact rfl); (exact rfl); (exact rfl); (exact rfl); (exact rfl); (exact HJ1.out.2.2.1); (exact rfl); intro w2 k2 g2; have K2 := Lib.hid k2; have HE2 := Lib.hid (HJ1.out.2.2.2.grown g2 (by omega)); clear k2 g2)
  refine bodyPost_ret (results_word Try.results39 _ _ (w.heap.size + 1 + 1) 0 rfl K2.out Try.underlying31 winfo) rfl ?_
  exact ⟨by rw [HF.out]; rfl, HE2.out⟩
 | true =>
  rw [hr] at HDEF
  have HAR := Lib.hid (accF_right hr a)
  clear hr
  go_wp2_with fail
  refine (account_any _ l a _ (HS.out.ext HJ1.out.2.2.2) ha).mono ?_
  rintro e w2 ⟨u, v, rfl, hu, hv, he⟩
  have HJ2 := Lib.hid (HJ1.out.ext he)
  have HU := Lib.hid (bs_one hu)
  have HV := Lib.hid hv
  clear hu he HJ1 q1
  obtain ⟨⟨p, b⟩, hpb⟩ : ∃ pb, accF l a = pb := ⟨_, rfl⟩
  rw [hpb] at HDEF HAR HV hv ⊢
  dsimp only at HDEF HAR HV hv ⊢
  clear hpb
  obtain ⟨A1, c1, rfl, z1, z2⟩ := hv.len
  unfold maxLen at z2
  clear hv
  have HST : Hid (ldN p.store n = if hasK p.store n then (p.store.getD (posK p.store n) (0, 0)).2 else 0) := Lib.hid rfl
  have HHK : Hid (hasK p.store n = true → posK p.store n < p.store.length) := Lib.hid (fun h => by
   unfold hasK at h
   simp only [Bool.and_eq_true, decide_eq_true_eq] at h
   exact h.1)
  go_wp2_with (first
   | ((with_reducible refine wpList_store_ac ?_ ?_ (.tmp 7) (.tmp 19) ?_ w2.heap.size az0 p u (.slice A1 p.store.length c1) ?_ ?_ ?_ ?_ ?_ ?_ ?_); (exact rfl); (exact rfl); (exact rfl); (exact HU.out); (exact rfl); (exact rfl); (exact rfl); (exact Cs.new _ _ _ _ rfl); (exact rfl); intro w3 k3 g3; have K3 := Lib.hid k3; have HX3 := Lib.hid (((Ext.refl w2).alloc _).grown g3 (Nat.le_refl _)); have HJ3 := Lib.hid (HJ2.out.ext HX3.out); have c7 := K3.out.store; clear k3 g3)
   | ((with_reducible refine wpList_load_word ?_ 31 28 (.tmp 5) ?_ Try.underlying31 winfo (w.heap.size + 1) n ?_ ?_ ?_); (exact rfl); (exact rfl); (exact rfl); (exact HJ3.out.2.1)))
  refine (slot_any _ p.store n _ (HV.out.ext HX3.out) HAR.out.1 (by have := HAR.out.2.1; omega) hn).mono ?_
  rintro e w4 ⟨rfl, he⟩
  have HJ4 := Lib.hid (HJ3.out.ext he)
  have K4 := Lib.hid (K3.out.ext he)
  have HV4 := Lib.hid (HV.out.ext (HX3.out.trans he))
  have c7' := K4.out.store
  clear he HJ2 HJ3 HX3 K3 HV c7
  obtain ⟨i, hi⟩ : ∃ i, posK p.store n = i := ⟨_, rfl⟩
  obtain ⟨hb, hhb⟩ : ∃ hb, hasK p.store n = hb := ⟨_, rfl⟩
  rw [hi, hhb] at HST HHK ⊢
  clear hi hhb
  cases hb with
  | true =>
   have hil : i < p.store.length := HHK.out rfl
   obtain ⟨bb, oo, rfl, hrg, hp1, hp2⟩ := HV4.out.at i hil
   have HR := Lib.hid (pk_val hrg)
   have HP2 := Lib.hid hp2
   have HF := Lib.hid (show loadN l a n = (p.store.getD i (0, 0)).2 by rw [HDEF.out]; simp [HST.out])
   clear hrg hp1 hp2 HST HHK HDEF HV4 HAR
   generalize (p.store.getD i (0, 0)).2 = m at *
   go_wp2_with (first
    | ((with_reducible refine wpList_load_wordIn ?_ (.tmp 33) ?_ bb (oo + i * 8 + 4) m ?_ ?_ ?_); (exact rfl); (exact rfl); (exact rfl); (exact HR.out))
    | ((with_reducible refine wpList_store_word ?_ ?_ 31 (.tmp 6) (.tmp 34) ?_ winfo (w.heap.size + 1 + 1) (wc 0) m ?_ ?_ ?_ ?_ ?_); (exact rfl); (exact rfl); (exact rfl); (exact rfl); (exact rfl); (exact HJ4.out.2.2.1); (exact rfl); intro w5 k5 g5; have K5 := Lib.hid k5; have HE5 := Lib.hid (HJ4.out.2.2.2.grown g5 (by omega)); clear k5 g5))
   refine bodyPost_ret (results_word Try.results39 _ _ (w.heap.size + 1 + 1) m rfl K5.out Try.underlying31 winfo) rfl ?_
   exact ⟨by rw [HF.out]; rfl, HE5.out⟩
  | false =>
   have HF := Lib.hid (show loadN l a n = 0 by rw [HDEF.out]; simp [HST.out])
   clear HST HHK HDEF HV4 HAR
   go_wp2_with ((with_reducible refine wpList_store_word ?_ ?_ 31 (.tmp 6) (.tmp 35) ?_ winfo (w.heap.size + 1 + 1) (wc 0) 0 ?_ ?_ ?_ ?_ ?_); (exact rfl); (exact rfl); (exact rfl); (exact rfl); (exact rfl); (exact HJ4.out.2.2.1); (exact rfl); intro w5 k5 g5; have K5 := Lib.hid k5; have HE5 := Lib.hid (HJ4.out.2.2.2.grown g5 (by omega)); clear k5 g5)
   refine bodyPost_ret (results_word Try.results39 _ _ (w.heap.size + 1 + 1) 0 rfl K5.out Try.underlying31 winfo) rfl ?_
   exact ⟨by rw [HF.out]; rfl, HE5.out⟩
end Go.Proofs.Ytiojfpdjnblkhaa
