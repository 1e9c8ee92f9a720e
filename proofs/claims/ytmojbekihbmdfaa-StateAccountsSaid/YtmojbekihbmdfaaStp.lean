/- Package state: Save, Load. -/
import Derived.Test.YtmojbekihbmdfaaSto
namespace Go.Proofs.Ytmojbekihbmdfaa
open Go.ChangeShapes Go.WideShapes Go.ChangeAt Go.RowKit Go.Shelf

set_option maxRecDepth 100000 in
theorem own_diff {W : World} {lo lo' n m s s' : Nat} {e e' : TypeId} {u v : Value} {cs ds : List Value} (hne : e ≠ e') (h : W.ownsRow lo e s u n cs) (k : W.ownsRow lo' e' s' v m ds) : u.ownBlock = none ∨ u.ownBlock ≠ v.ownBlock := by
  rcases h.2 with ⟨rfl, _⟩ | ⟨g, cap, cur, rfl, _, hg, _⟩
  · exact .inl rfl
  · rcases k.2 with ⟨rfl, _⟩ | ⟨g', cap', cur', rfl, _, hg', _⟩
    · exact .inr (by simp [Value.ownBlock])
    · refine .inr (fun e1 => ?_)
      injection e1 with e1
      subst e1
      rw [hg] at hg'
      cases hg'
      exact hne rfl
set_option maxRecDepth 100000 in
theorem OwnK.keptT {W W' : World} {lo g : Nat} {v : Value} {l : List (Nat × Nat)} {t : TypeId} {cs : Array Value} (h : OwnK W lo v l) (hg : W.grownBy W' (some g)) (hs : Cs W g t cs) (ht : t ≠ 33) : OwnK W' lo v l := by
  refine ⟨h.1.kept hg ?_, h.2⟩
  rcases h.1.2 with ⟨rfl, _⟩ | ⟨g', cap, cur, rfl, _, hgg, _⟩
  · exact .inl rfl
  · refine .inr (fun e' => ?_)
    injection e' with e'
    subst e'
    rw [show W.heap[g']? = _ from hs] at hgg
    cases hgg
    exact ht rfl
set_option maxRecDepth 100000 in
theorem grown_box {w W W' : World} {row : Option Nat} {g : Nat} (h : w.grownBy W row) (k : W.grownBy W' (some g)) (hg : w.heap.size ≤ g) : w.grownBy W' row :=
  ⟨k.os.trans h.os, k.tape.trans h.tape, k.output.trans h.output, Nat.le_trans h.size k.size, fun j hj hne => (k.block j (Nat.lt_of_lt_of_le hj h.size) (fun e => by injection e with e; omega)).trans (h.block j hj hne)⟩
set_option maxRecDepth 100000 in
set_option maxHeartbeats 4000000 in
theorem save1_any (p : Ac) (u v : Value) (q : Nat × Nat) (gq lo : Nat) (w : World) (hu : u.oneCell' = true) (ho : OwnK w lo v p.store) (hlo : lo ≤ w.heap.size) (hq : Cs w gq 33 (pkc q)) (hS : SavedOK p.store q) :
    Calls Try.prog 70 #[.agg (acc p u v), .pointer (some ⟨gq, 0, none⟩)] w fun e w' => ∃ v', e = .returned (.agg (acc { p with store := savL p.store q } u v')) ∧ OwnK w' lo v' (savL p.store q) ∧ w.grownBy w' v.ownBlock := by
  have HO := Lib.hid ho
  have HS := Lib.hid hS
  have HU := Lib.hid hu
  have HBL := Lib.hid (fun g (e : v.ownBlock = some g) => (ho.1.lt g e).2)
  obtain ⟨_, A1, c, rfl, h1, h2, _⟩ := Rs.of_own ho.1
  unfold maxLen at h2
  have HK : Hid (Ab ((w.alloc (.cells (acc p u (.slice A1 p.store.length c)) 37)).alloc (.cells az0 37)) w.heap.size p u (.slice A1 p.store.length c)) := Lib.hid (Cs.alloc (Cs.new _ _ _ _ rfl) _)
  have HZ : Hid (Cs ((w.alloc (.cells (acc p u (.slice A1 p.store.length c)) 37)).alloc (.cells az0 37)) (w.heap.size + 1) 37 az0) := Lib.hid (Cs.new _ _ _ _ (by simp))
  have HE := Lib.hid (((Ext.refl w).alloc (.cells (acc p u (.slice A1 p.store.length c)) 37)).alloc (.cells az0 37))
  have HQ := Lib.hid (pair_range (Cs.ext hq HE.out))
  have c7 := HK.out.store
  clear ho hS hu hq
  obtain ⟨cs, hcs⟩ : ∃ cs, acc p u (.slice A1 p.store.length c) = cs := ⟨_, rfl⟩
  have HCS := Lib.hid hcs
  rw [hcs] at HK HE HZ HQ c7 ⊢
  have hcs7 : cs[7]? = some (.slice A1 p.store.length c) := by rw [← hcs]; rfl
  clear hcs
  unfold az0 at HK HE HZ HQ c7
  go_enter Try.func70, Try.ntmps70
  go_wp2_with ((with_reducible refine wpList_load_pair ?_ (.tmp 1) ?_ gq 0 q ?_ ?_ ?_); (exact rfl); (exact rfl); (exact rfl); (exact HQ.out))
  refine (HS.out lo _ _ (HO.out.ext HE.out) (Nat.le_trans hlo HE.out.size)).mono ?_
  rintro e w1 ⟨v1, rfl, hpk, hg⟩
  have HP1 := Lib.hid hpk
  have HG1 := Lib.hid (grown_then HE.out hg)
  have K1 := Lib.hid (show Ab w1 w.heap.size p u (.slice A1 p.store.length c) from Cs.kept HK.out hg (fun e => by have := HBL.out w.heap.size (by first | exact e | exact e.symm); omega))
  have Z1 := Lib.hid (Cs.kept HZ.out hg (fun e => by have := HBL.out (w.heap.size + 1) (by first | exact e | exact e.symm); omega))
  have HB1 := Lib.hid (show w.heap.size + 1 < w1.heap.size from Cs.lt Z1.out)
  have f7 : w1.frozen? ⟨w.heap.size, 7, none⟩ = false := Cs.frozen K1.out 7
  have c7' : w1.cell? ⟨w.heap.size, 7, none⟩ = some (.slice A1 p.store.length c) := K1.out.store
  obtain ⟨A2, c2, rfl, p4, p5⟩ := hpk.pks.len
  clear hpk hg HK HZ HE HQ c7 hcs7 HO HS
  obtain ⟨sl, hsl⟩ : ∃ sl, savL p.store q = sl := ⟨_, rfl⟩
  have HSL := Lib.hid hsl
  rw [hsl] at HP1 p4 ⊢
  clear hsl
  have K2 := Lib.hid (show Ab (w1.setCell ⟨w.heap.size, 7, none⟩ (.slice A2 sl.length c2)) w.heap.size { p with store := sl } u (.slice A2 sl.length c2) from by simpa [Ab, acc] using Cs.set K1.out 7 (.slice A2 sl.length c2))
  have Z2 := Lib.hid (Cs.kept Z1.out (grown_set w1 w.heap.size 7 (.slice A2 sl.length c2)) (some_ne (by omega)))
  have HG2 := Lib.hid (grown_box HG1.out (grown_set w1 w.heap.size 7 (.slice A2 sl.length c2)) (Nat.le_refl _))
  have HP2 := Lib.hid (HP1.out.keptT (grown_set w1 w.heap.size 7 (.slice A2 sl.length c2)) K1.out (by decide))
  go_wp2_with (first
    | ((with_reducible refine wpList_load_ac ?_ (.tmp 2) ?_ w.heap.size 0 { p with store := sl } u (.slice A2 sl.length c2) ?_ ?_ ?_); (exact rfl); (exact rfl); (exact rfl); (exact K2.out.range))
    | ((with_reducible refine wpList_store_ac ?_ ?_ (.tmp 3) (.tmp 9) ?_ (w.heap.size + 1) az0 { p with store := sl } u (.slice A2 sl.length c2) ?_ ?_ ?_ ?_ ?_ ?_ ?_); (exact rfl); (exact rfl); (exact rfl); (exact HU.out); (exact rfl); (exact rfl); (exact rfl); (exact Z2.out); (exact rfl); intro w5 k5 g5; have K5 := Lib.hid k5; have HG5 := Lib.hid (grown_box HG2.out g5 (by omega)); have HP5 := Lib.hid (HP2.out.keptT g5 Z2.out (by decide)); clear k5 g5))
  exact bodyPost_ret (results_ac Try.results70 _ _ (w.heap.size + 1) _ _ _ rfl K5.out) rfl ⟨_, by rw [HSL.out], by rw [HSL.out]; exact HP5.out, HG5.out⟩

/-! ### Save -/
def saveA (l : List Ac) (a : Nat) (q : Nat × Nat) : Ac := { (accF l a).1 with store := savL (accF l a).1.store q }
def saveS (l : List Ac) (a : Nat) (q : Nat × Nat) : List Ac × Int := if rightL l = false then ([], 160) else if a = 0 then ([], 2) else putS l a (saveA l a q)
set_option maxRecDepth 100000 in
theorem savL_len (l : List (Nat × Nat)) (p : Nat × Nat) : (savL l p).length ≤ l.length + l.length + 1 := by
  unfold savL
  have h1 := List.length_filter_le (fun q : Nat × Nat => decide (q.1 < p.1)) l
  have h2 := List.length_filter_le (fun q : Nat × Nat => decide (p.1 < q.1)) l
  simp only [List.length_append]
  split <;> simp <;> omega
set_option maxRecDepth 100000 in
theorem savePut_any (sv : Value) (l : List Ac) (a gq : Nat) (q : Nat × Nat) (w : World) (hs : Acs w sv l) (ha : a < 18446744073709551616) (hl : l.length ≤ 10000) (hsz : ∀ q ∈ l, q.code.length ≤ 1000000 ∧ q.store.length ≤ 1000000) (hw : Cs w gq 33 (pkc q)) (hS : SavedOK (accF l a).1.store q) :
    Calls Try.prog 66 #[.agg #[sv], .int .u64 (a : Nat), .func (.func 70) #[] #[.pointer (some ⟨gq, 0, none⟩)]] w (RetS w (putS l a (saveA l a q))) := by
  have hok := accF_ok hs a ha
  have hz : (accF l a).1.code.length ≤ 1000000 ∧ (accF l a).1.store.length ≤ 1000000 := by
    unfold accF
    cases hf : l.find? (fun p => p.addr == a) with
    | some p => exact hsz p (List.mem_of_find?_eq_some hf)
    | none => exact ⟨by simp, by simp⟩
  have hsl := savL_len (accF l a).1.store q
  refine statePut_any sv l a (saveA l a q) _ _ w hs ha hl (fun q hq => ⟨by have := (hsz q hq).1; omega, by have := (hsz q hq).2; omega⟩) hok ⟨by show (accF l a).1.code.length ≤ _; omega, by show (savL (accF l a).1.store q).length ≤ _; omega⟩ (enters_of Try.func70 (by kernel_rfl) rfl) (fun W lo u v hE h1 h2 ho => ?_)
  refine (save1_any (accF l a).1 u v q gq lo W (bs_one ho.1.bs) ho.2 h2 (Cs.ext hw hE) hS).mono ?_
  rintro e w' ⟨v', rfl, hk, hg⟩
  refine ⟨u, v', rfl, ?_, hk.pks, ?_⟩
  · refine Own.bs (World.ownsRow.kept ho.1 hg ?_)
    exact own_diff (by decide) ho.1 ho.2.1
  · exact Below.grown (Below.refl lo W) hg h2 (fun k e => (ho.2.1.lt k e).1)
set_option maxRecDepth 100000 in
theorem pair_cs {w : World} (q : Nat × Nat) (g : Nat) (hg : g = w.heap.size) : Cs (w.alloc (.cells (pkc q) 33)) g 33 (pkc q) := Cs.new _ _ _ _ hg
def SvJ (w : World) (g3 g5 g6 : Nat) (sv : Value) (q : Nat × Nat) (W : World) : Prop := Cs W g3 24 #[sv] ∧ Cs W g5 33 (pkc q) ∧ Cs W g6 24 #[.slice none 0 0] ∧ Ext w W
set_option maxRecDepth 100000 in
theorem SvJ.ext {w : World} {g3 g5 g6 : Nat} {sv : Value} {q : Nat × Nat} {W W' : World} (h : SvJ w g3 g5 g6 sv q W) (he : Ext W W') : SvJ w g3 g5 g6 sv q W' := ⟨Cs.ext h.1 he, Cs.ext h.2.1 he, Cs.ext h.2.2.1 he, h.2.2.2.trans he⟩
set_option maxRecDepth 100000 in
set_option maxHeartbeats 4000000 in
theorem stateSave_any (sv : Value) (l : List Ac) (a : Nat) (q : Nat × Nat) (w : World) (hs : Acs w sv l) (ha : a < 18446744073709551616) (hl : l.length ≤ 1000) (hsz : ∀ q ∈ l, q.code.length ≤ 1000000 ∧ q.store.length ≤ 1000000) (hS : SavedOK (accF l a).1.store q) :
    Calls Try.prog 37 #[.agg #[sv], .int .u64 (a : Nat), .agg (pkc q)] w (RetS w (saveS l a q)) := by
  have HDEF : Hid (saveS l a q = if rightL l = false then ([], 160) else if a = 0 then ([], 2) else putS l a (saveA l a q)) := Lib.hid rfl
  have HS := Lib.hid hs
  have HSZ := Lib.hid hsz
  have HSV := Lib.hid hS
  obtain ⟨A0, c0, rfl, h1, h2⟩ := hs.len
  obtain ⟨w0, hw0⟩ : ∃ w0, (((w.alloc (.cells #[.slice A0 l.length c0] 24)).alloc (.cells (pkc q) 33)).alloc (.cells #[.slice none 0 0] 24)) = w0 := ⟨_, rfl⟩
  have HJ0 : Hid (SvJ w w.heap.size (w.heap.size + 1) (w.heap.size + 1 + 1) (.slice A0 l.length c0) q w0) := by
    rw [← hw0]
    exact Lib.hid ⟨Cs.alloc (Cs.alloc (Cs.new _ _ _ _ rfl) _) _, Cs.alloc (Cs.new _ _ _ _ (by simp)) _, Cs.new _ _ _ _ (by simp), (((Ext.refl w).alloc _).alloc _).alloc _⟩
  have q0 : ((((w.alloc (.cells #[.slice A0 l.length c0] 24)).alloc (.cells (pkc q) 33)).alloc (.cells #[.slice none 0 0] 24))).cell? ⟨w.heap.size, 0, none⟩ = some (.slice A0 l.length c0) := by rw [hw0]; exact HJ0.out.1.cell 0 _ rfl
  obtain ⟨pc, hpc⟩ : ∃ pc, pkc q = pc := ⟨_, rfl⟩
  rw [hpc] at hw0 q0 ⊢
  have HW0 := Lib.hid hw0
  have HCE : Hid (chkE l = if rightL l then 0 else 160) := Lib.hid rfl
  clear hs hsz hw0 hS hpc
  go_enter Try.func37, Try.ntmps37
  go_wp2_with fail
  rw [HW0.out]
  refine (stateCheck_any _ l _ (HS.out.ext HJ0.out.2.2.2) (by omega)).mono ?_
  rintro e w1 ⟨rfl, he⟩
  have HJ1 := Lib.hid (HJ0.out.ext he)
  have q1 : w1.cell? ⟨w.heap.size, 0, none⟩ = some (.slice A0 l.length c0) := HJ1.out.1.cell 0 _ rfl
  have r1 : w1.cell? ⟨w.heap.size + 1 + 1, 0, none⟩ = some (.slice none 0 0) := HJ1.out.2.2.1.cell 0 _ rfl
  have p1 : w1.frozen? ⟨w.heap.size + 1 + 1, 0, none⟩ = false := HJ1.out.2.2.1.frozen 0
  clear he HJ0 q0 HW0
  rw [HCE.out]
  cases hr : rightL l with
  | false =>
    rw [hr] at HDEF
    have HF := Lib.hid (show saveS l a q = ([], 160) by rw [HDEF.out]; rfl)
    clear hr HDEF
    go_wp2_with fail
    refine bodyPost_ret (results_st_err Try.results37 _ _ (w.heap.size + 1 + 1) (.slice none 0 0) rfl (by simpa using Cs.set HJ1.out.2.2.1 0 (.slice none 0 0))) rfl ?_
    exact ⟨_, by rw [HF.out]; rfl, by rw [HF.out]; exact RwA.nil _ _ _, HJ1.out.2.2.2.grown (grown_set _ _ _ _) (by omega)⟩
  | true =>
    rw [hr] at HDEF
    clear hr
    by_cases ea : a = 0
    · have HF := Lib.hid (show saveS l a q = ([], 2) by rw [HDEF.out]; simp [ea])
      have d1 : ((a : Int) == 0) = true := by simp [ea]
      have d2 : (a == 0) = true := by simp [ea]
      clear HDEF ea
      go_wp2_with fail
      refine bodyPost_ret (results_st_err Try.results37 _ _ (w.heap.size + 1 + 1) (.slice none 0 0) rfl (by simpa using Cs.set HJ1.out.2.2.1 0 (.slice none 0 0))) rfl ?_
      exact ⟨_, by rw [HF.out]; rfl, by rw [HF.out]; exact RwA.nil _ _ _, HJ1.out.2.2.2.grown (grown_set _ _ _ _) (by omega)⟩
    · have HF := Lib.hid (show saveS l a q = putS l a (saveA l a q) by rw [HDEF.out]; simp [ea])
      have d1 : ((a : Int) == 0) = false := by simp; omega
      have d2 : (a == 0) = false := by simpa using ea
      clear HDEF ea
      have HPT := Lib.hid (savePut_any (.slice A0 l.length c0) l a (w.heap.size + 1) q w1 (HS.out.ext HJ1.out.2.2.2) ha (by omega) HSZ.out HJ1.out.2.1 HSV.out)
      obtain ⟨r, hr⟩ : ∃ r, putS l a (saveA l a q) = r := ⟨_, rfl⟩
      rw [hr] at HPT HF
      clear hr
      go_wp2_with fail
      refine HPT.out.mono ?_
      rintro e w2 ⟨v', rfl, hr, he⟩
      have HJ2 := Lib.hid (HJ1.out.ext he)
      obtain ⟨A2, c2, rfl⟩ := hr.shape
      have HR2 := Lib.hid hr
      have r2 : w2.cell? ⟨w.heap.size + 1 + 1, 0, none⟩ = some (.slice none 0 0) := HJ2.out.2.2.1.cell 0 _ rfl
      have p2 : w2.frozen? ⟨w.heap.size + 1 + 1, 0, none⟩ = false := HJ2.out.2.2.1.frozen 0
      clear hr he
      go_wp2_with fail
      refine bodyPost_ret (results_st_err Try.results37 _ _ (w.heap.size + 1 + 1) (.slice A2 r.1.length c2) rfl (by simpa using Cs.set HJ2.out.2.2.1 0 (.slice A2 r.1.length c2))) rfl ?_
      exact ⟨_, by rw [HF.out]; rfl, by rw [HF.out]; exact (HR2.out.keptS (grown_set _ _ _ _) HJ2.out.2.2.1).low HJ1.out.2.2.2.size, HJ2.out.2.2.2.grown (grown_set _ _ _ _) (by omega)⟩
end Go.Proofs.Ytmojbekihbmdfaa
