/- Package state: put. -/
import Derived.Test.YtiojfpdjnblkhaaQStj
namespace Go.Proofs.Ytiojfpdjnblkhaa
open Go.ChangeShapes Go.WideShapes Go.ChangeAt Go.RowKit Go.Shelf

def putS (l : List Ac) (a : Nat) (x : Ac) : List Ac × Int :=
 if x.emptyB = false ∧ (24 < x.store.length ∨ roomB l a = false) then ([], 6) else if (sumW (bals (plL l x))).2 then ([], 2) else (plL l x, 0)
theorem plL_len (l : List Ac) (x : Ac) : (plL l x).length ≤ l.length + l.length + 1 := by
 unfold plL ltL gtL
 have h1 := List.length_filter_le (fun p : Ac => decide (p.addr < x.addr)) l
 have h2 := List.length_filter_le (fun p : Ac => decide (x.addr < p.addr)) l
 simp only [List.length_append]
 split <;> simp <;> omega
theorem acs_nil (W : World) : Acs W (.slice none 0 0) [] := ⟨none, 0, rfl, Nat.le_refl _, by unfold maxLen; omega, fun h => absurd h (by simp)⟩
theorem ws_nil (W : World) : Ws W (.slice none 0 0) [] := ⟨none, 0, rfl, Nat.le_refl _, by unfold maxLen; omega, fun h => absurd h (by simp), fun i hi => absurd hi (by simp)⟩
def PtJ (w : World) (g3 g6 : Nat) (sv rv : Value) (W : World) : Prop := Cs W g3 24 #[sv] ∧ Cs W g6 24 #[rv] ∧ Ext w W
theorem PtJ.ext {w : World} {g3 g6 : Nat} {sv rv : Value} {W W' : World} (h : PtJ w g3 g6 sv rv W) (he : Ext W W') : PtJ w g3 g6 sv rv W' := ⟨Cs.ext h.1 he, Cs.ext h.2.1 he, h.2.2.trans he⟩
theorem PtJ.below {w : World} {g3 g6 lo : Nat} {sv rv : Value} {W W' : World} (h : PtJ w g3 g6 sv rv W) (hb : Below lo W W') (h1 : g3 < lo) (h2 : g6 < lo) (h3 : w.heap.size ≤ lo) : PtJ w g3 g6 sv rv W' :=
 ⟨(Below.block hb g3 h1).trans h.1, (Below.block hb g6 h2).trans h.2.1, h.2.2.below hb h3⟩
set_option maxRecDepth 100000 in
theorem results_st_err {fn : Func} {p q : Tmp} (h : fn.results = #[.cell p 24, .tmp q]) (tmps : Array Value) (w : World) (g : Nat) (v : Value) (hp : tmps.getD p undef = .pointer (some ⟨g, 0, none⟩)) (hg : Cs w g 24 #[v]) : (results fn tmps).run Try.prog w = .ok (.tuple #[.agg #[v], tmps.getD q undef]) w := by
 have hp' : tmps[p]?.getD undef = .pointer (some ⟨g, 0, none⟩) := by simpa using hp
 simp [results, h, hp', asAddr, run_loadVar_row w g 24 24 #[v] (0, 0) _ hg Try.underlying24 rfl stinfo]

set_option maxRecDepth 100000 in
set_option maxHeartbeats 4000000 in
theorem statePut_any (sv : Value) (l : List Ac) (a : Nat) (x : Ac) (F : FuncId) (cap : Array Value) (w : World) (hs : Acs w sv l) (ha : a < 18446744073709551616) (hl : l.length ≤ 10000)
  (hsz : ∀ q ∈ l, q.code.length ≤ 1000000000 ∧ q.store.length ≤ 1000000000) (hx : x.ok) (hxz : x.code.length ≤ 1000000000 ∧ x.store.length ≤ 1000000000)
  (hF : ∀ (args : Array Value) (u : World), (callFunc F args).run Try.prog u = .ok (.enter F args) u)
  (hC : ∀ W lo u v, Ext w W → w.heap.size ≤ lo → lo ≤ W.heap.size → AcO lo W (accF l a).1 u v → Calls Try.prog F (#[.agg (acc (accF l a).1 u v)] ++ cap) W fun e w' => ∃ u' v', e = .returned (.agg (acc x u' v')) ∧ Bs w' u' x.code ∧ Pks w' v' x.store ∧ Below lo W w') :
  Calls Try.prog 78 #[.agg #[sv], .int .u64 (a : Nat), .func (.func F) #[] cap] w fun e w' => ∃ v', e = .returned (.tuple #[.agg #[v'], .int .i64 (putS l a x).2]) ∧ RwA w.heap.size w' v' (.slice none 0 0) (putS l a x).1 ∧ Ext w w' := by
 have HS := Lib.hid hs
 have HC := Lib.hid hC
 have HFF := Lib.hid hF
 have HSZ := Lib.hid hsz
 have HPZ := Lib.hid (show (accF l a).1.code.length ≤ 1000000000 ∧ (accF l a).1.store.length ≤ 1000000000 by
  unfold accF
  cases hf : l.find? (fun p => p.addr == a) with
  | some p => exact hsz p (List.mem_of_find?_eq_some hf)
  | none => exact ⟨by simp, by simp⟩)
 have HPS : Hid (putS l a x = if x.emptyB = false ∧ (24 < x.store.length ∨ roomB l a = false) then ([], 6) else if (sumW (bals (plL l x))).2 then ([], 2) else (plL l x, 0)) := Lib.hid rfl
 have HPL := Lib.hid (plL_len l x)
 obtain ⟨A0, c0, rfl, h1, h2⟩ := hs.len
 have HJ0 : Hid (PtJ w w.heap.size (w.heap.size + 1) (.slice A0 l.length c0) (.slice none 0 0) ((w.alloc (.cells #[.slice A0 l.length c0] 24)).alloc (.cells #[.slice none 0 0] 24))) := Lib.hid ⟨Cs.alloc (Cs.new _ _ _ _ rfl) _, Cs.new _ _ _ _ (by simp), ((Ext.refl w).alloc _).alloc _⟩
 have HZ0 := Lib.hid (show ((w.alloc (.cells #[.slice A0 l.length c0] 24)).alloc (.cells #[.slice none 0 0] 24)).heap.size = w.heap.size + 1 + 1 by simp)
 have q0 : ((w.alloc (.cells #[.slice A0 l.length c0] 24)).alloc (.cells #[.slice none 0 0] 24)).cell? ⟨w.heap.size, 0, none⟩ = some (.slice A0 l.length c0) := HJ0.out.1.cell 0 _ rfl
 clear hs hC hF hsz
 go_enter Try.func78, Try.ntmps78
 go_wp2_with fail
 generalize (w.alloc (.cells #[.slice A0 l.length c0] 24)).alloc (.cells #[.slice none 0 0] 24) = w0 at *
 refine (account_any _ l a _ (HS.out.ext HJ0.out.2.2) ha).mono ?_
 rintro e w1 ⟨u1, v1, rfl, hu, hv, he⟩
 have HJ1 := Lib.hid (HJ0.out.ext he)
 have HZ1 := Lib.hid (show w.heap.size + 1 + 1 ≤ w1.heap.size by rw [← HZ0.out]; exact he.size)
 have HU := Lib.hid hu
 have HV := Lib.hid hv
 clear HJ0 he hu hv q0
 generalize accF l a = pb at *
 obtain ⟨p, b⟩ := pb
 dsimp only at HC HPZ HU HV ⊢
 go_wp2_with (first
  | ((with_reducible refine wpList_store_ac ?_ ?_ (.tmp 8) (.tmp 18) ?_ w1.heap.size az0 p u1 v1 ?_ ?_ ?_ ?_ ?_ ?_ ?_); (exact rfl); (exact rfl); (exact rfl); (exact bs_one HU.out); (exact pks_one HV.out); (exact rfl); (exact rfl); (exact Cs.new _ _ _ _ rfl); (exact rfl); intro w2 k2 g2; have K2 := Lib.hid k2; have HX2 := Lib.hid (((Ext.refl w1).alloc _).grown g2 (Nat.le_refl _)); clear k2 g2)
  | ((with_reducible refine wpList_load_ac ?_ (.tmp 8) ?_ w1.heap.size 0 p u1 v1 ?_ ?_ ?_); (exact rfl); (exact rfl); (exact rfl); (exact K2.out.range)))
 have HJ2 := Lib.hid (HJ1.out.ext HX2.out)
 have HZ2 := Lib.hid (Nat.le_trans HZ1.out HX2.out.size)
 refine (copied_any p u1 v1 _ (HU.out.ext HX2.out) (HV.out.ext HX2.out) HPZ.out.1 HPZ.out.2).mono ?_
 rintro e w3 ⟨u3, v3, rfl, ho, he⟩
 have HJ3 := Lib.hid (HJ2.out.ext he)
 have HC3 := Lib.hid (HC.out w3 w2.heap.size u3 v3 HJ3.out.2.2 (by have := HZ2.out; omega) he.size ho)
 clear he ho HJ1 HJ2 HX2 HU HV HC K2
 go_wp2_with fail
 rw [HFF.out, Oper.upon_enter]
 refine HC3.out.mono ?_
 rintro e w4 ⟨u4, v4, rfl, hu, hv, hb⟩
 have HJ4 := Lib.hid (HJ3.out.below hb (by have := HZ2.out; omega) (by have := HZ2.out; omega) (by have := HZ2.out; omega))
 have HU4 := Lib.hid hu
 have HV4 := Lib.hid hv
 have HOV := Lib.hid (pks_one hv)
 obtain ⟨AV, cV, rfl, z1, z2⟩ := hv.len
 unfold maxLen at z2
 clear hu hv hb HC3 HJ3 HFF
 go_wp2_with (first
  | ((with_reducible refine wpList_store_ac ?_ ?_ (.tmp 10) (.tmp 23) ?_ w4.heap.size az0 x u4 (.slice AV x.store.length cV) ?_ ?_ ?_ ?_ ?_ ?_ ?_); (exact rfl); (exact rfl); (exact rfl); (exact bs_one HU4.out); (exact HOV.out); (exact rfl); (exact rfl); (exact Cs.new _ _ _ _ rfl); (exact rfl); intro w5 k5 g5; have K5 := Lib.hid k5; have HX5 := Lib.hid (((Ext.refl w4).alloc _).grown g5 (Nat.le_refl _)); clear k5 g5)
  | ((with_reducible refine wpList_load_ac ?_ (.tmp 10) ?_ w4.heap.size 0 x u4 (.slice AV x.store.length cV) ?_ ?_ ?_); (exact rfl); (exact rfl); (exact rfl); (exact K5.out.range)))
 have HJ5 := Lib.hid (HJ4.out.ext HX5.out)
 have HU5 := Lib.hid (HU4.out.ext HX5.out)
 have HV5 := Lib.hid (HV4.out.ext HX5.out)
 have HZ5 := Lib.hid (show w.heap.size + 1 + 1 ≤ w5.heap.size by have := Cs.lt HJ5.out.2.1; omega)
 clear HJ4 HU4 HV4 HX5
 refine (empty_any x u4 _ _ hx HU5.out HV5.out).mono ?_
 rintro e w6 ⟨rfl, he⟩
 have HJ6 := Lib.hid (HJ5.out.ext he)
 have HU6 := Lib.hid (HU5.out.ext he)
 have HV6 := Lib.hid (HV5.out.ext he)
 have HZ6 := Lib.hid (Nat.le_trans HZ5.out he.size)
 have K6 := Lib.hid (K5.out.ext he)
 have c7 := K6.out.store
 have q6 : w6.cell? ⟨w.heap.size, 0, none⟩ = some (.slice A0 l.length c0) := HJ6.out.1.cell 0 _ rfl
 have r6 : w6.cell? ⟨w.heap.size + 1, 0, none⟩ = some (.slice none 0 0) := HJ6.out.2.1.cell 0 _ rfl
 have p6 : w6.frozen? ⟨w.heap.size + 1, 0, none⟩ = false := HJ6.out.2.1.frozen 0
 clear he HJ5 HU5 HV5 HZ5 K5
 cases hxe : x.emptyB with
 | true =>
  rw [hxe] at HPS
  have HPS := Lib.hid (show putS l a x = if (sumW (bals (plL l x))).2 then ([], 2) else (plL l x, 0) by rw [HPS.out]; simp)
  clear hxe
  go_wp2_with ((with_reducible refine wpList_load_ac ?_ (.tmp 10) ?_ w4.heap.size 0 x u4 (.slice AV x.store.length cV) ?_ ?_ ?_); (exact rfl); (exact rfl); (exact rfl); (exact K6.out.range))
  refine (placed_any _ l x u4 (.slice AV x.store.length cV) _ (HS.out.ext HJ6.out.2.2) hx HU6.out HV6.out (by omega) HSZ.out hxz).mono ?_
  rintro e w7 ⟨v7, rfl, hr, he⟩
  have HJ7 := Lib.hid (HJ6.out.ext he)
  have HR7 := Lib.hid (hr.low HZ6.out)
  obtain ⟨A7, c7, rfl⟩ := hr.shape
  clear hr he HJ6 HU6 HV6 K6
  have HLP := Lib.hid (show (plL l x).length ≤ 100000 by have := HPL.out; omega)
  generalize plL l x = pl at *
  have q7 : (w7.alloc (.cells #[.slice A7 pl.length c7] 24)).cell? ⟨w7.heap.size, 0, none⟩ = some (.slice A7 pl.length c7) := (Cs.new w7 #[.slice A7 pl.length c7] 24 _ rfl).cell 0 _ rfl
  go_wp2_with fail
  refine (stateSum_any _ (.slice none 0 0) pl [] _ (HR7.out.acs.ext ((Ext.refl w7).alloc _)) (ws_nil _) HLP.out (by simp)).mono ?_
  rintro e w8 ⟨rfl, he⟩
  have HX8 := Lib.hid (show Ext w7 w8 from ((Ext.refl w7).alloc (.cells #[.slice A7 pl.length c7] 24)).trans he)
  have HJ8 := Lib.hid (HJ7.out.ext HX8.out)
  have HR8 := Lib.hid (HR7.out.ext HX8.out)
  have HB8 := Lib.hid (Cs.ext (Cs.new w7 #[.slice A7 pl.length c7] 24 _ rfl) he)
  rw [List.nil_append]
  clear he HJ7 HR7 HX8 q7
  obtain ⟨⟨sm, ob⟩, hsm⟩ : ∃ sm, sumW (bals pl) = sm := ⟨_, rfl⟩
  rw [hsm] at HPS ⊢
  clear hsm
  dsimp only at HPS ⊢
  cases ob with
  | true =>
   have HPF := Lib.hid (show putS l a x = ([], 2) by rw [HPS.out]; rfl)
   go_wp2_with (first
    | ((with_reducible refine wpList_store_word ?_ ?_ 31 (.tmp 12) (.tmp 46) ?_ winfo w8.heap.size (wc 0) sm ?_ ?_ ?_ ?_ ?_); (exact rfl); (exact rfl); (exact rfl); (exact rfl); (exact rfl); (exact Cs.new _ _ _ _ rfl); (exact rfl); intro w9 k9 g9; have HJ9 := Lib.hid (HJ8.out.ext (((Ext.refl w8).alloc _).grown g9 (Nat.le_refl _))); have q9 : w9.cell? ⟨w.heap.size + 1, 0, none⟩ = some (.slice none 0 0) := HJ9.out.2.1.cell 0 _ rfl; have p9 : w9.frozen? ⟨w.heap.size + 1, 0, none⟩ = false := HJ9.out.2.1.frozen 0; clear k9 g9))
   refine bodyPost_ret (results_st_err Try.results78 _ _ (w.heap.size + 1) (.slice none 0 0) rfl (by simpa using Cs.set HJ9.out.2.1 0 (.slice none 0 0))) rfl ?_
   rw [HPF.out]
   exact ⟨_, rfl, RwA.nil _ _ _, HJ9.out.2.2.grown (grown_set _ _ _ _) (by omega)⟩
  | false =>
   have HPF := Lib.hid (show putS l a x = (pl, 0) by rw [HPS.out]; rfl)
   go_wp2_with (first
    | ((with_reducible refine wpList_store_word ?_ ?_ 31 (.tmp 12) (.tmp 46) ?_ winfo w8.heap.size (wc 0) sm ?_ ?_ ?_ ?_ ?_); (exact rfl); (exact rfl); (exact rfl); (exact rfl); (exact rfl); (exact Cs.new _ _ _ _ rfl); (exact rfl); intro w9 k9 g9; have HX9 := Lib.hid (((Ext.refl w8).alloc _).grown g9 (Nat.le_refl _)); have HJ9 := Lib.hid (HJ8.out.ext HX9.out); have HR9 := Lib.hid (HR8.out.ext HX9.out); have q9 : w9.cell? ⟨w.heap.size + 1, 0, none⟩ = some (.slice none 0 0) := HJ9.out.2.1.cell 0 _ rfl; have p9 : w9.frozen? ⟨w.heap.size + 1, 0, none⟩ = false := HJ9.out.2.1.frozen 0; have r9 : w9.cell? ⟨w7.heap.size, 0, none⟩ = some (.slice A7 pl.length c7) := (Cs.ext HB8.out HX9.out).cell 0 _ rfl; clear k9 g9))
   refine bodyPost_ret (results_st_err Try.results78 _ _ (w.heap.size + 1) (.slice A7 pl.length c7) rfl (by simpa using Cs.set HJ9.out.2.1 0 (.slice A7 pl.length c7))) rfl ?_
   rw [HPF.out]
   exact ⟨_, rfl, (HR9.out.kept (grown_set _ _ _ _) (fun g e => .inl (by cases e; omega))).low (by omega), HJ9.out.2.2.grown (grown_set _ _ _ _) (by omega)⟩
 | false =>
  rw [hxe] at HPS
  clear hxe
  by_cases e3 : x.store.length ≤ 24
  ·have d1 : decide ((24 : Int) < (x.store.length : Int)) = false := decide_eq_false (by omega)
   have d2 : decide (24 < x.store.length) = false := decide_eq_false (by omega)
   go_wp2_with fail
   refine (roomFor_any _ l a _ (HS.out.ext HJ6.out.2.2) ha (by omega)).mono ?_
   rintro e w6' ⟨rfl, he⟩
   have HJ6 := Lib.hid (HJ6.out.ext he)
   have HU6 := Lib.hid (HU6.out.ext he)
   have HV6 := Lib.hid (HV6.out.ext he)
   have HZ6 := Lib.hid (Nat.le_trans HZ6.out he.size)
   have K6 := Lib.hid (K6.out.ext he)
   have q6 : w6'.cell? ⟨w.heap.size, 0, none⟩ = some (.slice A0 l.length c0) := HJ6.out.1.cell 0 _ rfl
   have r6 : w6'.cell? ⟨w.heap.size + 1, 0, none⟩ = some (.slice none 0 0) := HJ6.out.2.1.cell 0 _ rfl
   have p6 : w6'.frozen? ⟨w.heap.size + 1, 0, none⟩ = false := HJ6.out.2.1.frozen 0
   clear he
   cases hrb : roomB l a with
   | true =>
    have HPS := Lib.hid (show putS l a x = if (sumW (bals (plL l x))).2 then ([], 2) else (plL l x, 0) by rw [HPS.out, hrb]; simp; omega)
    clear hrb d1 d2
    go_wp2_with ((with_reducible refine wpList_load_ac ?_ (.tmp 10) ?_ w4.heap.size 0 x u4 (.slice AV x.store.length cV) ?_ ?_ ?_); (exact rfl); (exact rfl); (exact rfl); (exact K6.out.range))
    refine (placed_any _ l x u4 (.slice AV x.store.length cV) _ (HS.out.ext HJ6.out.2.2) hx HU6.out HV6.out (by omega) HSZ.out hxz).mono ?_
    rintro e w7 ⟨v7, rfl, hr, he⟩
    have HJ7 := Lib.hid (HJ6.out.ext he)
    have HR7 := Lib.hid (hr.low HZ6.out)
    obtain ⟨A7, c7, rfl⟩ := hr.shape
    clear hr he HJ6 HU6 HV6 K6
    have HLP := Lib.hid (show (plL l x).length ≤ 100000 by have := HPL.out; omega)
    generalize plL l x = pl at *
    have q7 : (w7.alloc (.cells #[.slice A7 pl.length c7] 24)).cell? ⟨w7.heap.size, 0, none⟩ = some (.slice A7 pl.length c7) := (Cs.new w7 #[.slice A7 pl.length c7] 24 _ rfl).cell 0 _ rfl
    go_wp2_with fail
    refine (stateSum_any _ (.slice none 0 0) pl [] _ (HR7.out.acs.ext ((Ext.refl w7).alloc _)) (ws_nil _) HLP.out (by simp)).mono ?_
    rintro e w8 ⟨rfl, he⟩
    have HX8 := Lib.hid (show Ext w7 w8 from ((Ext.refl w7).alloc (.cells #[.slice A7 pl.length c7] 24)).trans he)
    have HJ8 := Lib.hid (HJ7.out.ext HX8.out)
    have HR8 := Lib.hid (HR7.out.ext HX8.out)
    have HB8 := Lib.hid (Cs.ext (Cs.new w7 #[.slice A7 pl.length c7] 24 _ rfl) he)
    rw [List.nil_append]
    clear he HJ7 HR7 HX8 q7
    obtain ⟨⟨sm, ob⟩, hsm⟩ : ∃ sm, sumW (bals pl) = sm := ⟨_, rfl⟩
    rw [hsm] at HPS ⊢
    clear hsm
    dsimp only at HPS ⊢
    cases ob with
    | true =>
     have HPF := Lib.hid (show putS l a x = ([], 2) by rw [HPS.out]; rfl)
     go_wp2_with (first
      | ((with_reducible refine wpList_store_word ?_ ?_ 31 (.tmp 12) (.tmp 46) ?_ winfo w8.heap.size (wc 0) sm ?_ ?_ ?_ ?_ ?_); (exact rfl); (exact rfl); (exact rfl); (exact rfl); (exact rfl); (exact Cs.new _ _ _ _ rfl); (exact rfl); intro w9 k9 g9; have HJ9 := Lib.hid (HJ8.out.ext (((Ext.refl w8).alloc _).grown g9 (Nat.le_refl _))); have q9 : w9.cell? ⟨w.heap.size + 1, 0, none⟩ = some (.slice none 0 0) := HJ9.out.2.1.cell 0 _ rfl; have p9 : w9.frozen? ⟨w.heap.size + 1, 0, none⟩ = false := HJ9.out.2.1.frozen 0; clear k9 g9))
     refine bodyPost_ret (results_st_err Try.results78 _ _ (w.heap.size + 1) (.slice none 0 0) rfl (by simpa using Cs.set HJ9.out.2.1 0 (.slice none 0 0))) rfl ?_
     rw [HPF.out]
     exact ⟨_, rfl, RwA.nil _ _ _, HJ9.out.2.2.grown (grown_set _ _ _ _) (by omega)⟩
    | false =>
     have HPF := Lib.hid (show putS l a x = (pl, 0) by rw [HPS.out]; rfl)
     go_wp2_with (first
      | ((with_reducible refine wpList_store_word ?_ ?_ 31 (.tmp 12) (.tmp 46) ?_ winfo w8.heap.size (wc 0) sm ?_ ?_ ?_ ?_ ?_); (exact rfl); (exact rfl); (exact rfl); (exact rfl); (exact rfl); (exact Cs.new _ _ _ _ rfl); (exact rfl); intro w9 k9 g9; have HX9 := Lib.hid (((Ext.refl w8).alloc _).grown g9 (Nat.le_refl _)); have HJ9 := Lib.hid (HJ8.out.ext HX9.out); have HR9 := Lib.hid (HR8.out.ext HX9.out); have q9 : w9.cell? ⟨w.heap.size + 1, 0, none⟩ = some (.slice none 0 0) := HJ9.out.2.1.cell 0 _ rfl; have p9 : w9.frozen? ⟨w.heap.size + 1, 0, none⟩ = false := HJ9.out.2.1.frozen 0; have r9 : w9.cell? ⟨w7.heap.size, 0, none⟩ = some (.slice A7 pl.length c7) := (Cs.ext HB8.out HX9.out).cell 0 _ rfl; clear k9 g9))
     refine bodyPost_ret (results_st_err Try.results78 _ _ (w.heap.size + 1) (.slice A7 pl.length c7) rfl (by simpa using Cs.set HJ9.out.2.1 0 (.slice A7 pl.length c7))) rfl ?_
     rw [HPF.out]
     exact ⟨_, rfl, (HR9.out.kept (grown_set _ _ _ _) (fun g e => .inl (by cases e; omega))).low (by omega), HJ9.out.2.2.grown (grown_set _ _ _ _) (by omega)⟩
   | false =>
    have HPF := Lib.hid (show putS l a x = ([], 6) by rw [HPS.out, hrb]; simp)
    clear hrb d1 d2
    go_wp2_with fail
    refine bodyPost_ret (results_st_err Try.results78 _ _ (w.heap.size + 1) (.slice none 0 0) rfl (by simpa using Cs.set HJ6.out.2.1 0 (.slice none 0 0))) rfl ?_
    rw [HPF.out]
    exact ⟨_, rfl, RwA.nil _ _ _, HJ6.out.2.2.grown (grown_set _ _ _ _) (by omega)⟩
  ·have d1 : decide ((24 : Int) < (x.store.length : Int)) = true := decide_eq_true (by omega)
   have d2 : decide (24 < x.store.length) = true := decide_eq_true (by omega)
   have HPF := Lib.hid (show putS l a x = ([], 6) by rw [HPS.out]; simp; omega)
   go_wp2_with fail
   refine bodyPost_ret (results_st_err Try.results78 _ _ (w.heap.size + 1) (.slice none 0 0) rfl (by simpa using Cs.set HJ6.out.2.1 0 (.slice none 0 0))) rfl ?_
   rw [HPF.out]
   exact ⟨_, rfl, RwA.nil _ _ _, HJ6.out.2.2.grown (grown_set _ _ _ _) (by omega)⟩
end Go.Proofs.Ytiojfpdjnblkhaa
