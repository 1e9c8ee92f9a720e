/- Package state: Mint, Burn, Move. -/
import Derived.Test.YtiojfpdjnblkhaaQStl
namespace Go.Proofs.Ytiojfpdjnblkhaa
open Go.ChangeShapes Go.WideShapes Go.ChangeAt Go.RowKit Go.Shelf

def RetS (w : World) (r : List Ac × Int) (e : Ending) (w' : World) : Prop := ∃ v', e = .returned (.tuple #[.agg #[v'], .int .i64 r.2]) ∧ RwA w.heap.size w' v' (.slice none 0 0) r.1 ∧ Ext w w'
theorem RwA.keptS {lo g : Nat} {W W' : World} {vb va : Value} {l : List Ac} {cs : Array Value} (h : RwA lo W vb va l) (hg : W.grownBy W' (some g)) (hs : Cs W g 24 cs) : RwA lo W' vb va l := by
 obtain ⟨t, h1, h2, h3, h4⟩ := h
 have hk : ∀ (s n : Nat) (e : TypeId) (v : Value) (ds : List Value), e ≠ 24 → W.ownsRow lo e s v n ds → W'.ownsRow lo e s v n ds := by
  intro s n e v ds hne ho
  refine ho.kept hg ?_
  rcases ho.2 with ⟨rfl, _⟩ | ⟨g', cap, cur, rfl, _, hgg, _⟩
  ·exact .inl rfl
  ·refine .inr (fun e' => ?_)
   injection e' with e'
   subst e'
   rw [show W.heap[g']? = _ from hs] at hgg
   cases hgg
   exact hne rfl
 exact ⟨t, h1, hk _ _ _ _ _ (by decide) h2, h3, fun x hx => ⟨(h4 x hx).1, ⟨hk _ _ _ _ _ (by decide) (h4 x hx).2.1.1, hk _ _ _ _ _ (by decide) (h4 x hx).2.1.2.1, (h4 x hx).2.1.2.2⟩, (h4 x hx).2.2⟩⟩
def gainA (l : List Ac) (a n : Nat) : Ac := { (accF l a).1 with bal := ((accF l a).1.bal + n) % M256 }
def spendA (l : List Ac) (a n : Nat) : Ac := { (accF l a).1 with bal := ((accF l a).1.bal + M256 - n) % M256 }
theorem accF_sz {l : List Ac} (hsz : ∀ q ∈ l, q.code.length ≤ 1000000000 ∧ q.store.length ≤ 1000000000) (a : Nat) : (accF l a).1.code.length ≤ 1000000000 ∧ (accF l a).1.store.length ≤ 1000000000 := by
 unfold accF
 cases hf : l.find? (fun p => p.addr == a) with
 | some p => exact hsz p (List.mem_of_find?_eq_some hf)
 | none => exact ⟨by simp, by simp⟩
theorem spendA_sz {l : List Ac} (hsz : ∀ q ∈ l, q.code.length ≤ 1000000000 ∧ q.store.length ≤ 1000000000) (a n : Nat) : (spendA l a n).code.length ≤ 1000000000 ∧ (spendA l a n).store.length ≤ 1000000000 := by
 unfold spendA
 dsimp only
 exact accF_sz hsz a
theorem plL_mem {l : List Ac} {x q : Ac} (h : q ∈ plL l x) : q ∈ l ∨ q = x := by
 unfold plL ltL gtL at h
 rcases List.mem_append.1 h with h | h
 ·rcases List.mem_append.1 h with h | h
  ·exact .inl (List.mem_filter.1 h).1
  ·split at h
   ·cases h
   ·exact .inr (List.mem_singleton.1 h)
 ·exact .inl (List.mem_filter.1 h).1
theorem putS_mem {l : List Ac} {a : Nat} {x q : Ac} (h : q ∈ (putS l a x).1) : q ∈ l ∨ q = x := by
 unfold putS at h
 split at h
 ·cases h
 ·split at h
  ·cases h
  ·exact plL_mem h
theorem putS_len (l : List Ac) (a : Nat) (x : Ac) : (putS l a x).1.length ≤ l.length + l.length + 1 := by
 unfold putS
 split
 ·simp
 ·split
  ·simp
  ·exact plL_len l x
set_option maxRecDepth 100000 in
theorem gainsPut_any (sv : Value) (l : List Ac) (a n gn : Nat) (w : World) (hs : Acs w sv l) (ha : a < 18446744073709551616) (hl : l.length ≤ 10000) (hsz : ∀ q ∈ l, q.code.length ≤ 1000000000 ∧ q.store.length ≤ 1000000000) (hn : n < M256) (hw : Wd w gn 31 n) :
  Calls Try.prog 78 #[.agg #[sv], .int .u64 (a : Nat), .func (.func 122) #[] #[.pointer (some ⟨gn, 0, none⟩)]] w (RetS w (putS l a (gainA l a n))) := by
 have hok := accF_ok hs a ha
 have hm : ∀ k : Nat, k % M256 < M256 := fun k => Nat.mod_lt k (by decide)
 unfold gainA
 refine statePut_any sv l a _ _ _ w hs ha hl hsz ⟨hok.1, hm _, hok.2.2⟩ (accF_sz hsz a) (enters_of Try.func122 (by kernel_rfl) rfl) (fun W lo u v hE h1 h2 ho => ?_)
 refine (gains1_any (accF l a).1 u v n gn W hok (bs_one ho.1.bs) (pks_one ho.2.pks) hn (Cs.ext hw hE)).mono ?_
 rintro e w' ⟨rfl, he⟩
 exact ⟨u, v, rfl, ho.1.bs.ext he, ho.2.pks.ext he, he.mono h2⟩
set_option maxRecDepth 100000 in
theorem spendsPut_any (sv : Value) (l : List Ac) (a n gn : Nat) (w : World) (hs : Acs w sv l) (ha : a < 18446744073709551616) (hl : l.length ≤ 10000) (hsz : ∀ q ∈ l, q.code.length ≤ 1000000000 ∧ q.store.length ≤ 1000000000) (hn : n < M256) (hw : Wd w gn 31 n) :
  Calls Try.prog 78 #[.agg #[sv], .int .u64 (a : Nat), .func (.func 124) #[] #[.pointer (some ⟨gn, 0, none⟩)]] w (RetS w (putS l a (spendA l a n))) := by
 have hok := accF_ok hs a ha
 have hm : ∀ k : Nat, k % M256 < M256 := fun k => Nat.mod_lt k (by decide)
 unfold spendA
 refine statePut_any sv l a _ _ _ w hs ha hl hsz ⟨hok.1, hm _, hok.2.2⟩ (accF_sz hsz a) (enters_of Try.func124 (by kernel_rfl) rfl) (fun W lo u v hE h1 h2 ho => ?_)
 refine (spends1_any (accF l a).1 u v n gn W hok (bs_one ho.1.bs) (pks_one ho.2.pks) hn (Cs.ext hw hE)).mono ?_
 rintro e w' ⟨rfl, he⟩
 exact ⟨u, v, rfl, ho.1.bs.ext he, ho.2.pks.ext he, he.mono h2⟩
def FnP (F n : Nat) (W : World) (val : Value) : Prop := ∃ g, val = .func (.func F) #[] #[.pointer (some ⟨g, 0, none⟩)] ∧ Wd W g 31 n
theorem FnP.ext {F n : Nat} {W W' : World} {val : Value} (h : FnP F n W val) (he : Ext W W') : FnP F n W' val := by
 obtain ⟨g, h1, h2⟩ := h
 exact ⟨g, h1, Cs.ext h2 he⟩
def PuR (lo : Nat) (r : List Ac × Int) (W : World) (val : Value) : Prop := ∃ A c, val = .tuple #[.agg #[.slice A r.1.length c], .int .i64 r.2] ∧ RwA lo W (.slice A r.1.length c) (.slice none 0 0) r.1
theorem PuR.ext {lo : Nat} {r : List Ac × Int} {W W' : World} {val : Value} (h : PuR lo r W val) (he : Ext W W') : PuR lo r W' val := by
 obtain ⟨A, c, h1, h2⟩ := h
 exact ⟨A, c, h1, h2.ext he⟩
theorem PuR.new {lo : Nat} {r : List Ac × Int} {W : World} {v' : Value} (h : RwA lo W v' (.slice none 0 0) r.1) : PuR lo r W (.tuple #[.agg #[v'], .int .i64 r.2]) := by
 obtain ⟨A, c, rfl⟩ := h.shape
 exact ⟨A, c, rfl, h⟩
def StV (lo : Nat) (r : List Ac × Int) (W : World) (val : Value) : Prop := ∃ A c, val = .agg #[.slice A r.1.length c] ∧ RwA lo W (.slice A r.1.length c) (.slice none 0 0) r.1
theorem StV.ext {lo : Nat} {r : List Ac × Int} {W W' : World} {val : Value} (h : StV lo r W val) (he : Ext W W') : StV lo r W' val := by
 obtain ⟨A, c, h1, h2⟩ := h
 exact ⟨A, c, h1, h2.ext he⟩
def MnJ (w : World) (g3 g5 g6 : Nat) (sv : Value) (n : Nat) (W : World) : Prop := Cs W g3 24 #[sv] ∧ Wd W g5 31 n ∧ Cs W g6 24 #[.slice none 0 0] ∧ Ext w W
theorem MnJ.ext {w : World} {g3 g5 g6 : Nat} {sv : Value} {n : Nat} {W W' : World} (h : MnJ w g3 g5 g6 sv n W) (he : Ext W W') : MnJ w g3 g5 g6 sv n W' := ⟨Cs.ext h.1 he, Cs.ext h.2.1 he, Cs.ext h.2.2.1 he, h.2.2.2.trans he⟩
def MnE (w : World) (g6 : Nat) (r : List Ac × Int) (W : World) : Prop := ∃ A c, Cs W g6 24 #[.slice A r.1.length c] ∧ RwA w.heap.size W (.slice A r.1.length c) (.slice none 0 0) r.1 ∧ Ext w W
theorem MnE.ext {w : World} {g6 : Nat} {r : List Ac × Int} {W W' : World} (h : MnE w g6 r W) (he : Ext W W') : MnE w g6 r W' := by
 obtain ⟨A, c, h1, h2, h3⟩ := h
 exact ⟨A, c, Cs.ext h1 he, h2.ext he, h3.trans he⟩
def MnB (w wb : World) (g3 g5 g6 : Nat) (sv : Value) (n : Nat) (W : World) : Prop := MnJ w g3 g5 g6 sv n W ∧ Ext wb W
theorem MnB.ext {w wb : World} {g3 g5 g6 : Nat} {sv : Value} {n : Nat} {W W' : World} (h : MnB w wb g3 g5 g6 sv n W) (he : Ext W W') : MnB w wb g3 g5 g6 sv n W' := ⟨h.1.ext he, h.2.trans he⟩
def NwS (w : World) (W : World) (val : Value) : Prop := ∃ g, val = .pointer (some ⟨g, 0, none⟩) ∧ Cs W g 24 #[.slice none 0 0] ∧ w.heap.size + 1 + 1 < g
theorem NwS.ext {w W W' : World} {val : Value} (h : NwS w W val) (he : Ext W W') : NwS w W' val := by
 obtain ⟨g, h1, h2, h3⟩ := h
 exact ⟨g, h1, Cs.ext h2 he, h3⟩
def SpT (r : List Ac × Int) (val : Value) : Prop := ∃ x, val = .tuple #[x, .int .i64 r.2]
theorem keepP {P : Prop} {W W' : World} (h : P) (_ : Ext W W') : P := h
theorem StV.of {lo : Nat} {r : List Ac × Int} {W : World} {v5 v4 x y : Value} (h : v5 = v4) (h5 : v5 = .tuple #[x, y]) (h4 : PuR lo r W v4) : StV lo r W x := by
 obtain ⟨A, c, h4, hr⟩ := h4
 rw [h5, h4] at h
 injection h with h
 injection h with h
 injection h with h _
 exact ⟨A, c, h, hr⟩
def MvK (w : World) (g3 g5 g6 : Nat) (sv : Value) (n : Nat) (r : List Ac × Int) (W : World) (val : Value) : Prop :=
 MnJ w g3 g5 g6 sv n W ∧ ∃ g A c, val = .pointer (some ⟨g, 0, none⟩) ∧ Cs W g 24 #[.slice A r.1.length c] ∧ RwA w.heap.size W (.slice A r.1.length c) (.slice none 0 0) r.1
theorem MvK.ext {w : World} {g3 g5 g6 : Nat} {sv : Value} {n : Nat} {r : List Ac × Int} {W W' : World} {val : Value} (h : MvK w g3 g5 g6 sv n r W val) (he : Ext W W') : MvK w g3 g5 g6 sv n r W' val := by
 obtain ⟨h0, g, A, c, h1, h2, h3⟩ := h
 exact ⟨h0.ext he, g, A, c, h1, Cs.ext h2 he, h3.ext he⟩
theorem MnJ.lay {w : World} {g3 g5 g6 : Nat} {sv : Value} {n : Nat} {r : List Ac × Int} {A : Option Addr} {c g : Nat} {W : World} (h : MnJ w g3 g5 g6 sv n W) (h3 : g3 < g) (h5 : g5 < g) (h6 : g6 < g) (h0 : w.heap.size ≤ g) (hg : Cs W g 24 #[.slice none 0 0]) (hr : RwA w.heap.size W (.slice A r.1.length c) (.slice none 0 0) r.1) : MvK w g3 g5 g6 sv n r (W.setCell ⟨g, 0, none⟩ (.slice A r.1.length c)) (.pointer (some ⟨g, 0, none⟩)) :=
 ⟨⟨Cs.kept h.1 (grown_set _ _ _ _) (some_ne (by omega)), Cs.kept h.2.1 (grown_set _ _ _ _) (some_ne (by omega)), Cs.kept h.2.2.1 (grown_set _ _ _ _) (some_ne (by omega)), h.2.2.2.grown (grown_set _ _ _ _) h0⟩, g, A, c, rfl, by simpa using Cs.set hg 0 (.slice A r.1.length c), hr.keptS (grown_set _ _ _ _) hg⟩
theorem MnJ.done {w : World} {g3 g5 g6 : Nat} {sv : Value} {n : Nat} {r : List Ac × Int} {A : Option Addr} {c : Nat} {W : World} (h : MnJ w g3 g5 g6 sv n W) (hg : w.heap.size ≤ g6) (hr : RwA w.heap.size W (.slice A r.1.length c) (.slice none 0 0) r.1) : MnE w g6 r (W.setCell ⟨g6, 0, none⟩ (.slice A r.1.length c)) :=
 ⟨A, c, by simpa using Cs.set h.2.2.1 0 (.slice A r.1.length c), hr.keptS (grown_set _ _ _ _) h.2.2.1, h.2.2.2.grown (grown_set _ _ _ _) hg⟩
theorem ws_one (w : World) (n : Nat) (hn : n < M256) : Ws (w.alloc (.cells (wc n) 31)) (.slice (some ⟨w.heap.size, 0, none⟩) 1 1) [n] :=
 own_ws (base := 0) (t := 31) (n := 1) ⟨by simp [wcs, wc], .inr ⟨w.heap.size, 1, wc n, rfl, Nat.zero_le _, heap_alloc_new _ _, Nat.le_refl _, by unfold maxLen; omega, rfl, by simp [wcs, wc]⟩⟩ rfl (fun x hx => by rw [List.mem_singleton.1 hx]; exact hn)

def mintS (l : List Ac) (a n : Nat) : List Ac × Int := if rightL l = false then ([], 160) else if (sumW ([n] ++ bals l)).2 = true ∨ a = 0 then ([], 2) else putS l a (gainA l a n)
set_option maxRecDepth 100000 in
set_option maxHeartbeats 4000000 in
theorem stateMint_any (sv : Value) (l : List Ac) (a n : Nat) (w : World) (hs : Acs w sv l) (hl : l.length ≤ 1000) (hsz : ∀ q ∈ l, q.code.length ≤ 1000000000 ∧ q.store.length ≤ 1000000000) (hn : n < M256) (ha : a < 18446744073709551616) :
  Calls Try.prog 35 #[.agg #[sv], .int .u64 (a : Nat), wv n] w (RetS w (mintS l a n)) := by
 have HDEF : Hid (mintS l a n = if rightL l = false then ([], 160) else if (sumW ([n] ++ bals l)).2 = true ∨ a = 0 then ([], 2) else putS l a (gainA l a n)) := Lib.hid rfl
 have HS := Lib.hid hs
 have HSZ := Lib.hid hsz
 obtain ⟨A0, c0, rfl, h1, h2⟩ := hs.len
 obtain ⟨w0, hw0⟩ : ∃ w0, (((w.alloc (.cells #[.slice A0 l.length c0] 24)).alloc (.cells (wc n) 31)).alloc (.cells #[.slice none 0 0] 24)) = w0 := ⟨_, rfl⟩
 have HJ0 : Hid (MnJ w w.heap.size (w.heap.size + 1) (w.heap.size + 1 + 1) (.slice A0 l.length c0) n w0) := by
  rw [← hw0]
  exact Lib.hid ⟨Cs.alloc (Cs.alloc (Cs.new _ _ _ _ rfl) _) _, Cs.alloc (Cs.new _ _ _ _ (by simp)) _, Cs.new _ _ _ _ (by simp), (((Ext.refl w).alloc _).alloc _).alloc _⟩
 have HW0 := Lib.hid hw0
 have q0 : ((((w.alloc (.cells #[.slice A0 l.length c0] 24)).alloc (.cells (wc n) 31)).alloc (.cells #[.slice none 0 0] 24))).cell? ⟨w.heap.size, 0, none⟩ = some (.slice A0 l.length c0) := by rw [hw0]; exact HJ0.out.1.cell 0 _ rfl
 have HCE : Hid (chkE l = if rightL l then 0 else 160) := Lib.hid rfl
 clear hs hsz hw0
 unfold wv
 go_enter Try.func35, Try.ntmps35
 go_wp2_with fail
 rw [HW0.out]
 refine (stateCheck_any _ l _ (HS.out.ext HJ0.out.2.2.2) (by omega)).mono ?_
 rintro e w1 ⟨rfl, he⟩
 have HJ1 := Lib.hid (HJ0.out.ext he)
 have q1 : w1.cell? ⟨w.heap.size, 0, none⟩ = some (.slice A0 l.length c0) := HJ1.out.1.cell 0 _ rfl
 have r1 : w1.cell? ⟨w.heap.size + 1 + 1, 0, none⟩ = some (.slice none 0 0) := HJ1.out.2.2.1.cell 0 _ rfl
 have p1 : w1.frozen? ⟨w.heap.size + 1 + 1, 0, none⟩ = false := HJ1.out.2.2.1.frozen 0
 clear he HJ0 q0 HW0
 rw [HCE.out]
 cases hr : rightL l with
 | false =>
  rw [hr] at HDEF
  have HF := Lib.hid (show mintS l a n = ([], 160) by rw [HDEF.out]; rfl)
  clear hr HDEF
  go_wp2_with fail
  refine bodyPost_ret (results_st_err Try.results35 _ _ (w.heap.size + 1 + 1) (.slice none 0 0) rfl (by simpa using Cs.set HJ1.out.2.2.1 0 (.slice none 0 0))) rfl ?_
  exact ⟨_, by rw [HF.out]; rfl, by rw [HF.out]; exact RwA.nil _ _ _, HJ1.out.2.2.2.grown (grown_set _ _ _ _) (by omega)⟩
 | true =>
  rw [hr] at HDEF
  clear hr
  go_wp2_with (first
   | ((with_reducible refine wpList_load_word ?_ 31 28 (.tmp 5) ?_ Try.underlying31 winfo (w.heap.size + 1) n ?_ ?_ ?_); (exact rfl); (exact rfl); (exact rfl); (exact HJ1.out.2.1))
   | ((with_reducible refine wpList_build_word ?_ (.tmp 16) ?_ n ?_ ?_); (exact rfl); (exact rfl); (exact rfl)))
  have HX1 := Lib.hid ((Ext.refl w1).alloc (.cells (wc n) 31))
  have HWS := Lib.hid (ws_one w1 n hn)
  refine (stateSum_any _ _ l [n] _ (HS.out.ext (HJ1.out.2.2.2.trans HX1.out)) HWS.out (by omega) (by simp)).mono ?_
  rintro e w2 ⟨rfl, he⟩
  have HJ2 := Lib.hid ((HJ1.out.ext HX1.out).ext he)
  clear he HX1 HWS HJ1 q1 r1 p1
  obtain ⟨⟨sm, ob⟩, hsm⟩ : ∃ sm, sumW ([n] ++ bals l) = sm := ⟨_, rfl⟩
  rw [hsm] at HDEF ⊢
  clear hsm
  dsimp only at HDEF ⊢
  cases ob with
  | true =>
   have HF := Lib.hid (show mintS l a n = ([], 2) by rw [HDEF.out]; simp)
   clear HDEF
   go_wp2_with ((with_reducible refine wpList_store_word ?_ ?_ 31 (.tmp 8) (.tmp 19) ?_ winfo w2.heap.size (wc 0) sm ?_ ?_ ?_ ?_ ?_); (exact rfl); (exact rfl); (exact rfl); (exact rfl); (exact rfl); (exact Cs.new _ _ _ _ rfl); (exact rfl); intro w3 k3 g3; have HJ3 := Lib.hid (HJ2.out.ext (((Ext.refl w2).alloc _).grown g3 (Nat.le_refl _))); have q3 : w3.cell? ⟨w.heap.size, 0, none⟩ = some (.slice A0 l.length c0) := HJ3.out.1.cell 0 _ rfl; have r3 : w3.cell? ⟨w.heap.size + 1 + 1, 0, none⟩ = some (.slice none 0 0) := HJ3.out.2.2.1.cell 0 _ rfl; have p3 : w3.frozen? ⟨w.heap.size + 1 + 1, 0, none⟩ = false := HJ3.out.2.2.1.frozen 0; clear k3 g3)
   refine bodyPost_ret (results_st_err Try.results35 _ _ (w.heap.size + 1 + 1) (.slice none 0 0) rfl (by simpa using Cs.set HJ3.out.2.2.1 0 (.slice none 0 0))) rfl ?_
   exact ⟨_, by rw [HF.out]; rfl, by rw [HF.out]; exact RwA.nil _ _ _, HJ3.out.2.2.2.grown (grown_set _ _ _ _) (by omega)⟩
  | false =>
   by_cases ea : a = 0
   ·have HF := Lib.hid (show mintS l a n = ([], 2) by rw [HDEF.out]; simp [ea])
    have d1 : ((a : Int) == 0) = true := by simp [ea]
    have d2 : (a == 0) = true := by simp [ea]
    clear HDEF ea
    go_wp2_with ((with_reducible refine wpList_store_word ?_ ?_ 31 (.tmp 8) (.tmp 19) ?_ winfo w2.heap.size (wc 0) sm ?_ ?_ ?_ ?_ ?_); (exact rfl); (exact rfl); (exact rfl); (exact rfl); (exact rfl); (exact Cs.new _ _ _ _ rfl); (exact rfl); intro w3 k3 g3; have HJ3 := Lib.hid (HJ2.out.ext (((Ext.refl w2).alloc _).grown g3 (Nat.le_refl _))); have q3 : w3.cell? ⟨w.heap.size, 0, none⟩ = some (.slice A0 l.length c0) := HJ3.out.1.cell 0 _ rfl; have r3 : w3.cell? ⟨w.heap.size + 1 + 1, 0, none⟩ = some (.slice none 0 0) := HJ3.out.2.2.1.cell 0 _ rfl; have p3 : w3.frozen? ⟨w.heap.size + 1 + 1, 0, none⟩ = false := HJ3.out.2.2.1.frozen 0; clear k3 g3)
    refine bodyPost_ret (results_st_err Try.results35 _ _ (w.heap.size + 1 + 1) (.slice none 0 0) rfl (by simpa using Cs.set HJ3.out.2.2.1 0 (.slice none 0 0))) rfl ?_
    exact ⟨_, by rw [HF.out]; rfl, by rw [HF.out]; exact RwA.nil _ _ _, HJ3.out.2.2.2.grown (grown_set _ _ _ _) (by omega)⟩
   ·have HF := Lib.hid (show mintS l a n = putS l a (gainA l a n) by rw [HDEF.out]; simp [ea])
    have d1 : ((a : Int) == 0) = false := by simp; omega
    have d2 : (a == 0) = false := by simpa using ea
    clear HDEF ea
    have HPT := Lib.hid (fun W g (h : Ext w W) (hw : Wd W g 31 n) => gainsPut_any (.slice A0 l.length c0) l a n g W (HS.out.ext h) ha (by omega) HSZ.out hn hw)
    generalize putS l a (gainA l a n) = r at *
    go_upto_region 6 with ((with_reducible refine wpList_store_word ?_ ?_ 31 (.tmp 8) (.tmp 19) ?_ winfo w2.heap.size (wc 0) sm ?_ ?_ ?_ ?_ ?_); (exact rfl); (exact rfl); (exact rfl); (exact rfl); (exact rfl); (exact Cs.new _ _ _ _ rfl); (exact rfl); intro w3 k3 g3; have HJ3 := Lib.hid (HJ2.out.ext (((Ext.refl w2).alloc _).grown g3 (Nat.le_refl _))); have q3 : w3.cell? ⟨w.heap.size, 0, none⟩ = some (.slice A0 l.length c0) := HJ3.out.1.cell 0 _ rfl; have r3 : w3.cell? ⟨w.heap.size + 1 + 1, 0, none⟩ = some (.slice none 0 0) := HJ3.out.2.2.1.cell 0 _ rfl; have p3 : w3.frozen? ⟨w.heap.size + 1 + 1, 0, none⟩ = false := HJ3.out.2.2.1.frozen 0; clear k3 g3)
    refine wp_named fun a0 ha0 => ?_
    obtain ⟨fr, hfr⟩ : ∃ fr : (Nat → Value) → Act, ∀ V, fr V = ((((((((a0.put (some 27) (V 0)).put (some 28) (V 1)).put (some 29) (V 2)).put (some 30) (V 3)).put (some 31) (V 4)).put (some 32) (V 5)).put (some 33) (V 6)).put (some 7) (V 8)) := ⟨_, fun _ => rfl⟩
    rw [ha0] at hfr
    simp only [Act.put, List.setIfInBounds_toArray, List.set_cons_zero, List.set_cons_succ] at hfr
    have HFR := Lib.hid hfr
    clear hfr
    refine wp_region_inv (by kernel_rfl) (by kernel_rfl) (fun L A W => ∃ V : Nat → Value, A = fr V ∧ Vals (fun j => ([some (.agg #[.slice A0 l.length c0]), some (.int .u64 (a : Nat)), some (wv n), none, none, none, some (.int .i64 r.2), none, some (.int .i64 r.2)] : List (Option Value)).getD j none) L V ∧ (L 7 = false → MnB w w (w.heap.size) (w.heap.size + 1) (w.heap.size + 1 + 1) (.slice A0 l.length c0) n W) ∧ (L 7 = true → MnE w (w.heap.size + 1 + 1) r W) ∧ (L 7 = false → L 3 = true → FnP 122 n W (V 3)) ∧ (L 7 = false → L 4 = true → PuR w.heap.size r W (V 4)) ∧ (L 7 = false → L 5 = true → StV w.heap.size r W (V 5))) ?_ ⟨?_, ?_, ?_, ?_, ?_, ?_, ?_, ?_, ?_, trivial⟩ ?_
    ·refine ⟨fun j => a0.tmps.getD (([27, 28, 29, 30, 31, 32, 33, 0, 7] : List Nat).getD j 0) undef, ?_, Vals.no _ _ _ (far_none _ _ rfl), fun _ => ⟨HJ3.out.ext (Ext.refl _).drew, (HJ3.out.2.2.2.trans (Ext.refl _).drew)⟩, fun h0 => absurd h0 (by decide), fun h0 h1 => absurd h1 (by decide), fun h0 h1 => absurd h1 (by decide), fun h0 h1 => absurd h1 (by decide)⟩
     rw [HFR.out, ha0]
     rfl
    all_goals clear ha0
    ·rintro L A W K hL hC hW ⟨V, rfl, HV, s0, s1, f3, f4, f5⟩ hK
     have hB := s0 (hC.no (hC.no (hC.no hL 4 _ rfl rfl) 5 _ rfl rfl) 7 _ rfl rfl)
     have H := Lib.hid (show ∀ W', Ext W W' → K (fr (upd V 0 (.agg #[.slice A0 l.length c0]))) W' from fun W' he => hK _ _ ⟨_, rfl, HV.us 0 _ rfl, fun h0 => MnB.ext (s0 (mnf h0 rfl)) he, fun h0 => MnE.ext (s1 (more_ne h0 rfl)) he, fun h0 h1 => FnP.ext (f3 (mnf h0 rfl) (more_ne h1 rfl)) he, fun h0 h1 => PuR.ext (f4 (mnf h0 rfl) (more_ne h1 rfl)) he, fun h0 h1 => StV.ext (f5 (mnf h0 rfl) (more_ne h1 rfl)) he⟩)
     clear hK hC hW hL HV s0 s1 f3 f4 f5
     rw [HFR.out]
     have hcl : W.cell? ⟨w.heap.size, 0, none⟩ = some (.slice A0 l.length c0) := hB.1.1.cell 0 _ rfl
     clear hB
     go_wp2_with fail
     show K _ _; have := H.out _ (Ext.refl _); rw [HFR.out] at this
     exact this
    ·rintro L A W K hL hC hW ⟨V, rfl, HV, s0, s1, f3, f4, f5⟩ hK
     have H := Lib.hid (show ∀ W', Ext W W' → K (fr (upd V 1 (.int .u64 (a : Nat)))) W' from fun W' he => hK _ _ ⟨_, rfl, HV.us 1 _ rfl, fun h0 => MnB.ext (s0 (mnf h0 rfl)) he, fun h0 => MnE.ext (s1 (more_ne h0 rfl)) he, fun h0 h1 => FnP.ext (f3 (mnf h0 rfl) (more_ne h1 rfl)) he, fun h0 h1 => PuR.ext (f4 (mnf h0 rfl) (more_ne h1 rfl)) he, fun h0 h1 => StV.ext (f5 (mnf h0 rfl) (more_ne h1 rfl)) he⟩)
     clear hK hC hW hL HV s0 s1 f3 f4 f5
     rw [HFR.out]
     go_wp2_with fail
     show K _ _; have := H.out _ (Ext.refl _); rw [HFR.out] at this
     exact this
    ·rintro L A W K hL hC hW ⟨V, rfl, HV, s0, s1, f3, f4, f5⟩ hK
     have hB := s0 (hC.no (hC.no (hC.no (hC.no hL 3 _ rfl rfl) 4 _ rfl rfl) 5 _ rfl rfl) 7 _ rfl rfl)
     have H := Lib.hid (show ∀ W', Ext W W' → K (fr (upd V 2 (wv n))) W' from fun W' he => hK _ _ ⟨_, rfl, HV.us 2 _ rfl, fun h0 => MnB.ext (s0 (mnf h0 rfl)) he, fun h0 => MnE.ext (s1 (more_ne h0 rfl)) he, fun h0 h1 => FnP.ext (f3 (mnf h0 rfl) (more_ne h1 rfl)) he, fun h0 h1 => PuR.ext (f4 (mnf h0 rfl) (more_ne h1 rfl)) he, fun h0 h1 => StV.ext (f5 (mnf h0 rfl) (more_ne h1 rfl)) he⟩)
     clear hK hC hW hL HV s0 s1 f3 f4 f5
     rw [HFR.out]
     have HWD := Lib.hid hB.1.2.1
     clear hB
     refine wpList_load_word rfl 31 28 (.tmp 5) rfl Try.underlying31 winfo (w.heap.size + 1) n rfl HWD.out ?_
     show K _ _; have := H.out _ (Ext.refl _); rw [HFR.out] at this
     exact this
    ·rintro L A W K hL hC hW ⟨V, rfl, HV, s0, s1, f3, f4, f5⟩ hK
     have e2 := HV 2 _ rfl (hW 2 rfl)
     have hB := s0 (hC.no (hC.no (hC.no hL 4 _ rfl rfl) 5 _ rfl rfl) 7 _ rfl rfl)
     have H := Lib.hid (show ∀ v W', Ext W W' → (FnP 122 n W' v) → K (fr (upd V 3 v)) W' from fun v W' he hp => hK _ _ ⟨_, rfl, HV.un 3 _ rfl, fun h0 => MnB.ext (s0 (mnf h0 rfl)) he, fun h0 => MnE.ext (s1 (more_ne h0 rfl)) he, fun h0 h1 => hp, fun h0 h1 => PuR.ext (f4 (mnf h0 rfl) (more_ne h1 rfl)) he, fun h0 h1 => StV.ext (f5 (mnf h0 rfl) (more_ne h1 rfl)) he⟩)
     have HU := Lib.hid (show ∀ v, (upd V 3 v) 2 = wv n from fun v => e2)
     clear hK hC hW hL HV s0 s1 f3 f4 f5
     rw [HFR.out, e2]
     clear e2
     clear hB
     go_wp2_with fail
     refine (gains_any n _).mono ?_
     rintro e wx ⟨rfl, hw, he⟩
     have := H.out _ _ he (⟨_, rfl, hw⟩)
     clear H
     go_wp2_with fail
     show K _ _
     rw [HFR.out] at this
     obtain u2 := HU.out _
     rw [u2] at this
     exact this
    ·rintro L A W K hL hC hW ⟨V, rfl, HV, s0, s1, f3, f4, f5⟩ hK
     have e0 := HV 0 _ rfl (hW 0 rfl)
     have e1 := HV 1 _ rfl (hW 1 rfl)
     have hB := s0 (hC.no (hC.no hL 5 _ rfl rfl) 7 _ rfl rfl)
     have q3 := f3 (hC.no (hC.no hL 5 _ rfl rfl) 7 _ rfl rfl) (hW 3 rfl)
     obtain ⟨g3, e3, k3⟩ := q3
     have H := Lib.hid (show ∀ v W', Ext W W' → (PuR w.heap.size r W' v) → K (fr (upd V 4 v)) W' from fun v W' he hp => hK _ _ ⟨_, rfl, HV.un 4 _ rfl, fun h0 => MnB.ext (s0 (mnf h0 rfl)) he, fun h0 => MnE.ext (s1 (more_ne h0 rfl)) he, fun h0 h1 => FnP.ext (f3 (mnf h0 rfl) (more_ne h1 rfl)) he, fun h0 h1 => hp, fun h0 h1 => StV.ext (f5 (mnf h0 rfl) (more_ne h1 rfl)) he⟩)
     have HU := Lib.hid (show ∀ v, (upd V 4 v) 0 = .agg #[.slice A0 l.length c0] ∧ (upd V 4 v) 1 = .int .u64 (a : Nat) ∧ (upd V 4 v) 3 = .func (.func 122) #[] #[.pointer (some ⟨g3, 0, none⟩)] from fun v => ⟨e0, e1, e3⟩)
     clear hK hC hW hL HV s0 s1 f3 f4 f5
     rw [HFR.out, e0, e1, e3]
     clear e0 e1 e3
     have HB := Lib.hid hB
     clear hB
     go_wp2_with fail
     refine (HPT.out _ g3 HB.out.2 k3).mono ?_
     rintro e wx ⟨v', rfl, hr, he⟩
     have := H.out _ _ he (PuR.new (hr.low HB.out.1.2.2.2.size))
     clear H
     go_wp2_with fail
     show K _ _
     rw [HFR.out] at this
     obtain ⟨u0, u1, u3⟩ := HU.out _
     rw [u0, u1, u3] at this
     exact this
    ·rintro L A W K hL hC hW ⟨V, rfl, HV, s0, s1, f3, f4, f5⟩ hK
     have q4 := f4 (hC.no hL 7 _ rfl rfl) (hW 4 rfl)
     obtain ⟨A4, c4, e4, k4⟩ := q4
     have H := Lib.hid (show ∀ v W', Ext W W' → (StV w.heap.size r W' v) → K (fr (upd V 5 v)) W' from fun v W' he hp => hK _ _ ⟨_, rfl, HV.un 5 _ rfl, fun h0 => MnB.ext (s0 (mnf h0 rfl)) he, fun h0 => MnE.ext (s1 (more_ne h0 rfl)) he, fun h0 h1 => FnP.ext (f3 (mnf h0 rfl) (more_ne h1 rfl)) he, fun h0 h1 => PuR.ext (f4 (mnf h0 rfl) (more_ne h1 rfl)) he, fun h0 h1 => hp⟩)
     have HU := Lib.hid (show ∀ v, (upd V 5 v) 4 = .tuple #[.agg #[.slice A4 r.1.length c4], .int .i64 r.2] from fun v => e4)
     clear hK hC hW hL HV s0 s1 f3 f4 f5
     rw [HFR.out, e4]
     clear e4
     go_wp2_with fail
     show K _ _; have := H.out (.agg #[.slice A4 r.1.length c4]) _ (Ext.refl _) (⟨_, _, rfl, k4⟩); rw [HFR.out] at this
     obtain u4 := HU.out _
     rw [u4] at this
     exact this
    ·rintro L A W K hL hC hW ⟨V, rfl, HV, s0, s1, f3, f4, f5⟩ hK
     have q4 := f4 (hC.no hL 7 _ rfl rfl) (hW 4 rfl)
     obtain ⟨A4, c4, e4, k4⟩ := q4
     have H := Lib.hid (show ∀ W', Ext W W' → K (fr (upd V 6 (.int .i64 r.2))) W' from fun W' he => hK _ _ ⟨_, rfl, HV.us 6 _ rfl, fun h0 => MnB.ext (s0 (mnf h0 rfl)) he, fun h0 => MnE.ext (s1 (more_ne h0 rfl)) he, fun h0 h1 => FnP.ext (f3 (mnf h0 rfl) (more_ne h1 rfl)) he, fun h0 h1 => PuR.ext (f4 (mnf h0 rfl) (more_ne h1 rfl)) he, fun h0 h1 => StV.ext (f5 (mnf h0 rfl) (more_ne h1 rfl)) he⟩)
     have HU := Lib.hid (show (upd V 6 (.int .i64 r.2)) 4 = .tuple #[.agg #[.slice A4 r.1.length c4], .int .i64 r.2] from e4)
     clear hK hC hW hL HV s0 s1 f3 f4 f5
     rw [HFR.out, e4]
     clear e4
     go_wp2_with fail
     show K _ _; have := H.out _ (Ext.refl _); rw [HFR.out] at this
     obtain u4 := HU.out
     rw [u4] at this
     exact this
    ·rintro L A W K hL hC hW ⟨V, rfl, HV, s0, s1, f3, f4, f5⟩ hK
     have hB := s0 hL
     have q5 := f5 hL (hW 5 rfl)
     obtain ⟨A5, c5, e5, k5⟩ := q5
     have H := Lib.hid (show ∀ W', (MnE w (w.heap.size + 1 + 1) r W') → K (fr (V)) W' from fun W' hA => hK _ _ ⟨V, rfl, HV.st 7 rfl, fun h0 => msf h0, fun h0 => hA, fun h0 h1 => msf h0, fun h0 h1 => msf h0, fun h0 h1 => msf h0⟩)
     have HU := Lib.hid (show (V) 5 = .agg #[.slice A5 r.1.length c5] from e5)
     clear hK hC hW hL HV s0 s1 f3 f4 f5
     rw [HFR.out, e5]
     clear e5
     have HB := Lib.hid hB
     have KH := Lib.hid k5
     have hc : W.cell? ⟨w.heap.size + 1 + 1, 0, none⟩ = some (.slice none 0 0) := hB.1.2.2.1.cell 0 _ rfl
     have hf : W.frozen? ⟨w.heap.size + 1 + 1, 0, none⟩ = false := hB.1.2.2.1.frozen 0
     clear hB k5
     go_wp2_with fail
     have HA := Lib.hid (HB.out.1.done (r := r) (by omega) KH.out)
     show K _ _; have := H.out _ HA.out; rw [HFR.out] at this
     obtain u5 := HU.out
     rw [u5] at this
     exact this
    ·rintro L A W K hL hC hW ⟨V, rfl, HV, s0, s1, f3, f4, f5⟩ hK
     have e6 := HV 6 _ rfl (hW 6 rfl)
     have H := Lib.hid (show ∀ W', Ext W W' → K (fr (upd V 8 (.int .i64 r.2))) W' from fun W' he => hK _ _ ⟨_, rfl, HV.us 8 _ rfl, fun h0 => MnB.ext (s0 (mnf h0 rfl)) he, fun h0 => MnE.ext (s1 (more_ne h0 rfl)) he, fun h0 h1 => FnP.ext (f3 (mnf h0 rfl) (more_ne h1 rfl)) he, fun h0 h1 => PuR.ext (f4 (mnf h0 rfl) (more_ne h1 rfl)) he, fun h0 h1 => StV.ext (f5 (mnf h0 rfl) (more_ne h1 rfl)) he⟩)
     have HU := Lib.hid (show (upd V 8 (.int .i64 r.2)) 6 = .int .i64 r.2 from e6)
     clear hK hC hW hL HV s0 s1 f3 f4 f5
     rw [HFR.out, e6]
     clear e6
     go_wp2_with fail
     show K _ _; have := H.out _ (Ext.refl _); rw [HFR.out] at this
     obtain u6 := HU.out
     rw [u6] at this
     exact this
    ·rintro L A W hL ⟨V, rfl, HV, s0, s1, f3, f4, f5⟩
     have e0 := HV 0 _ rfl (hL 0 (by simp))
     have e1 := HV 1 _ rfl (hL 1 (by simp))
     have e2 := HV 2 _ rfl (hL 2 (by simp))
     have e6 := HV 6 _ rfl (hL 6 (by simp))
     have e8 := HV 8 _ rfl (hL 8 (by simp))
     have hA := s1 (hL 7 (by simp))
     rw [HFR.out, e0, e1, e2, e6, e8]
     clear hL HV HFR e0 e1 e2 e6 e8 s0 s1 f3 f4 f5
     obtain ⟨A9, c9, h1', h2', h3'⟩ := hA
     have H1 := Lib.hid h1'
     have H2 := Lib.hid h2'
     have H3 := Lib.hid h3'
     clear h1' h2' h3'
     go_wp2_with fail
     refine bodyPost_ret (results_st_err Try.results35 _ _ (w.heap.size + 1 + 1) (.slice A9 r.1.length c9) rfl H1.out) rfl ?_
     exact ⟨_, by rw [HF.out]; rfl, by rw [HF.out]; exact H2.out, H3.out⟩

def burnS (l : List Ac) (a n : Nat) : List Ac × Int := if rightL l = false then ([], 160) else if a = 0 then ([], 2) else if n ≤ (accF l a).1.bal then putS l a (spendA l a n) else ([], 162)
set_option maxRecDepth 100000 in
set_option maxHeartbeats 4000000 in
theorem stateBurn_any (sv : Value) (l : List Ac) (a n : Nat) (w : World) (hs : Acs w sv l) (hl : l.length ≤ 1000) (hsz : ∀ q ∈ l, q.code.length ≤ 1000000000 ∧ q.store.length ≤ 1000000000) (hn : n < M256) (ha : a < 18446744073709551616) :
  Calls Try.prog 42 #[.agg #[sv], .int .u64 (a : Nat), wv n] w (RetS w (burnS l a n)) := by
 have HDEF : Hid (burnS l a n = if rightL l = false then ([], 160) else if a = 0 then ([], 2) else if n ≤ (accF l a).1.bal then putS l a (spendA l a n) else ([], 162)) := Lib.hid rfl
 have HS := Lib.hid hs
 have HSZ := Lib.hid hsz
 obtain ⟨A0, c0, rfl, h1, h2⟩ := hs.len
 obtain ⟨w0, hw0⟩ : ∃ w0, (((w.alloc (.cells #[.slice A0 l.length c0] 24)).alloc (.cells (wc n) 31)).alloc (.cells #[.slice none 0 0] 24)) = w0 := ⟨_, rfl⟩
 have HJ0 : Hid (MnJ w w.heap.size (w.heap.size + 1) (w.heap.size + 1 + 1) (.slice A0 l.length c0) n w0) := by
  rw [← hw0]
  exact Lib.hid ⟨Cs.alloc (Cs.alloc (Cs.new _ _ _ _ rfl) _) _, Cs.alloc (Cs.new _ _ _ _ (by simp)) _, Cs.new _ _ _ _ (by simp), (((Ext.refl w).alloc _).alloc _).alloc _⟩
 have HW0 := Lib.hid hw0
 have q0 : ((((w.alloc (.cells #[.slice A0 l.length c0] 24)).alloc (.cells (wc n) 31)).alloc (.cells #[.slice none 0 0] 24))).cell? ⟨w.heap.size, 0, none⟩ = some (.slice A0 l.length c0) := by rw [hw0]; exact HJ0.out.1.cell 0 _ rfl
 have HCE : Hid (chkE l = if rightL l then 0 else 160) := Lib.hid rfl
 clear hs hsz hw0
 unfold wv
 go_enter Try.func42, Try.ntmps42
 go_wp2_with fail
 rw [HW0.out]
 refine (stateCheck_any _ l _ (HS.out.ext HJ0.out.2.2.2) (by omega)).mono ?_
 rintro e w1 ⟨rfl, he⟩
 have HJ1 := Lib.hid (HJ0.out.ext he)
 have q1 : w1.cell? ⟨w.heap.size, 0, none⟩ = some (.slice A0 l.length c0) := HJ1.out.1.cell 0 _ rfl
 have r1 : w1.cell? ⟨w.heap.size + 1 + 1, 0, none⟩ = some (.slice none 0 0) := HJ1.out.2.2.1.cell 0 _ rfl
 have p1 : w1.frozen? ⟨w.heap.size + 1 + 1, 0, none⟩ = false := HJ1.out.2.2.1.frozen 0
 clear he HJ0 q0 HW0
 rw [HCE.out]
 cases hr : rightL l with
 | false =>
  rw [hr] at HDEF
  have HF := Lib.hid (show burnS l a n = ([], 160) by rw [HDEF.out]; rfl)
  clear hr HDEF
  go_wp2_with fail
  refine bodyPost_ret (results_st_err Try.results42 _ _ (w.heap.size + 1 + 1) (.slice none 0 0) rfl (by simpa using Cs.set HJ1.out.2.2.1 0 (.slice none 0 0))) rfl ?_
  exact ⟨_, by rw [HF.out]; rfl, by rw [HF.out]; exact RwA.nil _ _ _, HJ1.out.2.2.2.grown (grown_set _ _ _ _) (by omega)⟩
 | true =>
  rw [hr] at HDEF
  clear hr
  by_cases ea : a = 0
  ·have HF := Lib.hid (show burnS l a n = ([], 2) by rw [HDEF.out]; simp [ea])
   have d1 : ((a : Int) == 0) = true := by simp [ea]
   have d2 : (a == 0) = true := by simp [ea]
   clear HDEF ea
   go_wp2_with fail
   refine bodyPost_ret (results_st_err Try.results42 _ _ (w.heap.size + 1 + 1) (.slice none 0 0) rfl (by simpa using Cs.set HJ1.out.2.2.1 0 (.slice none 0 0))) rfl ?_
   exact ⟨_, by rw [HF.out]; rfl, by rw [HF.out]; exact RwA.nil _ _ _, HJ1.out.2.2.2.grown (grown_set _ _ _ _) (by omega)⟩
  ·have d1 : ((a : Int) == 0) = false := by simp; omega
   have d2 : (a == 0) = false := by simpa using ea
   go_wp2_with ((with_reducible refine wpList_load_word ?_ 31 28 (.tmp 5) ?_ Try.underlying31 winfo (w.heap.size + 1) n ?_ ?_ ?_); (exact rfl); (exact rfl); (exact rfl); (exact HJ1.out.2.1))
   refine (funds_any _ l a n _ (HS.out.ext HJ1.out.2.2.2) ha hn).mono ?_
   rintro e w2 ⟨rfl, he⟩
   have HJ2 := Lib.hid (HJ1.out.ext he)
   have q2 : w2.cell? ⟨w.heap.size, 0, none⟩ = some (.slice A0 l.length c0) := HJ2.out.1.cell 0 _ rfl
   have r2 : w2.cell? ⟨w.heap.size + 1 + 1, 0, none⟩ = some (.slice none 0 0) := HJ2.out.2.2.1.cell 0 _ rfl
   have p2 : w2.frozen? ⟨w.heap.size + 1 + 1, 0, none⟩ = false := HJ2.out.2.2.1.frozen 0
   clear he HJ1 q1 r1 p1
   by_cases ef : n ≤ (accF l a).1.bal
   ·have HF := Lib.hid (show burnS l a n = putS l a (spendA l a n) by rw [HDEF.out]; simp [ea, ef])
    rw [decide_eq_true ef]
    clear HDEF ea ef
    have HPT := Lib.hid (fun W g (h : Ext w W) (hw : Wd W g 31 n) => spendsPut_any (.slice A0 l.length c0) l a n g W (HS.out.ext h) ha (by omega) HSZ.out hn hw)
    generalize putS l a (spendA l a n) = r at *
    go_upto_region 7 with fail
    refine wp_named fun a0 ha0 => ?_
    obtain ⟨fr, hfr⟩ : ∃ fr : (Nat → Value) → Act, ∀ V, fr V = ((((((((a0.put (some 24) (V 0)).put (some 25) (V 1)).put (some 26) (V 2)).put (some 27) (V 3)).put (some 28) (V 4)).put (some 29) (V 5)).put (some 30) (V 6)).put (some 7) (V 8)) := ⟨_, fun _ => rfl⟩
    rw [ha0] at hfr
    simp only [Act.put, List.setIfInBounds_toArray, List.set_cons_zero, List.set_cons_succ] at hfr
    have HFR := Lib.hid hfr
    clear hfr
    refine wp_region_inv (by kernel_rfl) (by kernel_rfl) (fun L A W => ∃ V : Nat → Value, A = fr V ∧ Vals (fun j => ([some (.agg #[.slice A0 l.length c0]), some (.int .u64 (a : Nat)), some (wv n), none, none, none, some (.int .i64 r.2), none, some (.int .i64 r.2)] : List (Option Value)).getD j none) L V ∧ (L 7 = false → MnB w w (w.heap.size) (w.heap.size + 1) (w.heap.size + 1 + 1) (.slice A0 l.length c0) n W) ∧ (L 7 = true → MnE w (w.heap.size + 1 + 1) r W) ∧ (L 7 = false → L 3 = true → FnP 124 n W (V 3)) ∧ (L 7 = false → L 4 = true → PuR w.heap.size r W (V 4)) ∧ (L 7 = false → L 5 = true → StV w.heap.size r W (V 5))) ?_ ⟨?_, ?_, ?_, ?_, ?_, ?_, ?_, ?_, ?_, trivial⟩ ?_
    ·refine ⟨fun j => a0.tmps.getD (([24, 25, 26, 27, 28, 29, 30, 0, 7] : List Nat).getD j 0) undef, ?_, Vals.no _ _ _ (far_none _ _ rfl), fun _ => ⟨HJ2.out.ext (Ext.refl _).drew, (HJ2.out.2.2.2.trans (Ext.refl _).drew)⟩, fun h0 => absurd h0 (by decide), fun h0 h1 => absurd h1 (by decide), fun h0 h1 => absurd h1 (by decide), fun h0 h1 => absurd h1 (by decide)⟩
     rw [HFR.out, ha0]
     rfl
    all_goals clear ha0
    ·rintro L A W K hL hC hW ⟨V, rfl, HV, s0, s1, f3, f4, f5⟩ hK
     have hB := s0 (hC.no (hC.no (hC.no hL 4 _ rfl rfl) 5 _ rfl rfl) 7 _ rfl rfl)
     have H := Lib.hid (show ∀ W', Ext W W' → K (fr (upd V 0 (.agg #[.slice A0 l.length c0]))) W' from fun W' he => hK _ _ ⟨_, rfl, HV.us 0 _ rfl, fun h0 => MnB.ext (s0 (mnf h0 rfl)) he, fun h0 => MnE.ext (s1 (more_ne h0 rfl)) he, fun h0 h1 => FnP.ext (f3 (mnf h0 rfl) (more_ne h1 rfl)) he, fun h0 h1 => PuR.ext (f4 (mnf h0 rfl) (more_ne h1 rfl)) he, fun h0 h1 => StV.ext (f5 (mnf h0 rfl) (more_ne h1 rfl)) he⟩)
     clear hK hC hW hL HV s0 s1 f3 f4 f5
     rw [HFR.out]
     have hcl : W.cell? ⟨w.heap.size, 0, none⟩ = some (.slice A0 l.length c0) := hB.1.1.cell 0 _ rfl
     clear hB
     go_wp2_with fail
     show K _ _; have := H.out _ (Ext.refl _); rw [HFR.out] at this
     exact this
    ·rintro L A W K hL hC hW ⟨V, rfl, HV, s0, s1, f3, f4, f5⟩ hK
     have H := Lib.hid (show ∀ W', Ext W W' → K (fr (upd V 1 (.int .u64 (a : Nat)))) W' from fun W' he => hK _ _ ⟨_, rfl, HV.us 1 _ rfl, fun h0 => MnB.ext (s0 (mnf h0 rfl)) he, fun h0 => MnE.ext (s1 (more_ne h0 rfl)) he, fun h0 h1 => FnP.ext (f3 (mnf h0 rfl) (more_ne h1 rfl)) he, fun h0 h1 => PuR.ext (f4 (mnf h0 rfl) (more_ne h1 rfl)) he, fun h0 h1 => StV.ext (f5 (mnf h0 rfl) (more_ne h1 rfl)) he⟩)
     clear hK hC hW hL HV s0 s1 f3 f4 f5
     rw [HFR.out]
     go_wp2_with fail
     show K _ _; have := H.out _ (Ext.refl _); rw [HFR.out] at this
     exact this
    ·rintro L A W K hL hC hW ⟨V, rfl, HV, s0, s1, f3, f4, f5⟩ hK
     have hB := s0 (hC.no (hC.no (hC.no (hC.no hL 3 _ rfl rfl) 4 _ rfl rfl) 5 _ rfl rfl) 7 _ rfl rfl)
     have H := Lib.hid (show ∀ W', Ext W W' → K (fr (upd V 2 (wv n))) W' from fun W' he => hK _ _ ⟨_, rfl, HV.us 2 _ rfl, fun h0 => MnB.ext (s0 (mnf h0 rfl)) he, fun h0 => MnE.ext (s1 (more_ne h0 rfl)) he, fun h0 h1 => FnP.ext (f3 (mnf h0 rfl) (more_ne h1 rfl)) he, fun h0 h1 => PuR.ext (f4 (mnf h0 rfl) (more_ne h1 rfl)) he, fun h0 h1 => StV.ext (f5 (mnf h0 rfl) (more_ne h1 rfl)) he⟩)
     clear hK hC hW hL HV s0 s1 f3 f4 f5
     rw [HFR.out]
     have HWD := Lib.hid hB.1.2.1
     clear hB
     refine wpList_load_word rfl 31 28 (.tmp 5) rfl Try.underlying31 winfo (w.heap.size + 1) n rfl HWD.out ?_
     show K _ _; have := H.out _ (Ext.refl _); rw [HFR.out] at this
     exact this
    ·rintro L A W K hL hC hW ⟨V, rfl, HV, s0, s1, f3, f4, f5⟩ hK
     have e2 := HV 2 _ rfl (hW 2 rfl)
     have hB := s0 (hC.no (hC.no (hC.no hL 4 _ rfl rfl) 5 _ rfl rfl) 7 _ rfl rfl)
     have H := Lib.hid (show ∀ v W', Ext W W' → (FnP 124 n W' v) → K (fr (upd V 3 v)) W' from fun v W' he hp => hK _ _ ⟨_, rfl, HV.un 3 _ rfl, fun h0 => MnB.ext (s0 (mnf h0 rfl)) he, fun h0 => MnE.ext (s1 (more_ne h0 rfl)) he, fun h0 h1 => hp, fun h0 h1 => PuR.ext (f4 (mnf h0 rfl) (more_ne h1 rfl)) he, fun h0 h1 => StV.ext (f5 (mnf h0 rfl) (more_ne h1 rfl)) he⟩)
     have HU := Lib.hid (show ∀ v, (upd V 3 v) 2 = wv n from fun v => e2)
     clear hK hC hW hL HV s0 s1 f3 f4 f5
     rw [HFR.out, e2]
     clear e2
     clear hB
     go_wp2_with fail
     refine (spends_any n _).mono ?_
     rintro e wx ⟨rfl, hw, he⟩
     have := H.out _ _ he (⟨_, rfl, hw⟩)
     clear H
     go_wp2_with fail
     show K _ _
     rw [HFR.out] at this
     obtain u2 := HU.out _
     rw [u2] at this
     exact this
    ·rintro L A W K hL hC hW ⟨V, rfl, HV, s0, s1, f3, f4, f5⟩ hK
     have e0 := HV 0 _ rfl (hW 0 rfl)
     have e1 := HV 1 _ rfl (hW 1 rfl)
     have hB := s0 (hC.no (hC.no hL 5 _ rfl rfl) 7 _ rfl rfl)
     have q3 := f3 (hC.no (hC.no hL 5 _ rfl rfl) 7 _ rfl rfl) (hW 3 rfl)
     obtain ⟨g3, e3, k3⟩ := q3
     have H := Lib.hid (show ∀ v W', Ext W W' → (PuR w.heap.size r W' v) → K (fr (upd V 4 v)) W' from fun v W' he hp => hK _ _ ⟨_, rfl, HV.un 4 _ rfl, fun h0 => MnB.ext (s0 (mnf h0 rfl)) he, fun h0 => MnE.ext (s1 (more_ne h0 rfl)) he, fun h0 h1 => FnP.ext (f3 (mnf h0 rfl) (more_ne h1 rfl)) he, fun h0 h1 => hp, fun h0 h1 => StV.ext (f5 (mnf h0 rfl) (more_ne h1 rfl)) he⟩)
     have HU := Lib.hid (show ∀ v, (upd V 4 v) 0 = .agg #[.slice A0 l.length c0] ∧ (upd V 4 v) 1 = .int .u64 (a : Nat) ∧ (upd V 4 v) 3 = .func (.func 124) #[] #[.pointer (some ⟨g3, 0, none⟩)] from fun v => ⟨e0, e1, e3⟩)
     clear hK hC hW hL HV s0 s1 f3 f4 f5
     rw [HFR.out, e0, e1, e3]
     clear e0 e1 e3
     have HB := Lib.hid hB
     clear hB
     go_wp2_with fail
     refine (HPT.out _ g3 HB.out.2 k3).mono ?_
     rintro e wx ⟨v', rfl, hr, he⟩
     have := H.out _ _ he (PuR.new (hr.low HB.out.1.2.2.2.size))
     clear H
     go_wp2_with fail
     show K _ _
     rw [HFR.out] at this
     obtain ⟨u0, u1, u3⟩ := HU.out _
     rw [u0, u1, u3] at this
     exact this
    ·rintro L A W K hL hC hW ⟨V, rfl, HV, s0, s1, f3, f4, f5⟩ hK
     have q4 := f4 (hC.no hL 7 _ rfl rfl) (hW 4 rfl)
     obtain ⟨A4, c4, e4, k4⟩ := q4
     have H := Lib.hid (show ∀ v W', Ext W W' → (StV w.heap.size r W' v) → K (fr (upd V 5 v)) W' from fun v W' he hp => hK _ _ ⟨_, rfl, HV.un 5 _ rfl, fun h0 => MnB.ext (s0 (mnf h0 rfl)) he, fun h0 => MnE.ext (s1 (more_ne h0 rfl)) he, fun h0 h1 => FnP.ext (f3 (mnf h0 rfl) (more_ne h1 rfl)) he, fun h0 h1 => PuR.ext (f4 (mnf h0 rfl) (more_ne h1 rfl)) he, fun h0 h1 => hp⟩)
     have HU := Lib.hid (show ∀ v, (upd V 5 v) 4 = .tuple #[.agg #[.slice A4 r.1.length c4], .int .i64 r.2] from fun v => e4)
     clear hK hC hW hL HV s0 s1 f3 f4 f5
     rw [HFR.out, e4]
     clear e4
     go_wp2_with fail
     show K _ _; have := H.out (.agg #[.slice A4 r.1.length c4]) _ (Ext.refl _) (⟨_, _, rfl, k4⟩); rw [HFR.out] at this
     obtain u4 := HU.out _
     rw [u4] at this
     exact this
    ·rintro L A W K hL hC hW ⟨V, rfl, HV, s0, s1, f3, f4, f5⟩ hK
     have q4 := f4 (hC.no hL 7 _ rfl rfl) (hW 4 rfl)
     obtain ⟨A4, c4, e4, k4⟩ := q4
     have H := Lib.hid (show ∀ W', Ext W W' → K (fr (upd V 6 (.int .i64 r.2))) W' from fun W' he => hK _ _ ⟨_, rfl, HV.us 6 _ rfl, fun h0 => MnB.ext (s0 (mnf h0 rfl)) he, fun h0 => MnE.ext (s1 (more_ne h0 rfl)) he, fun h0 h1 => FnP.ext (f3 (mnf h0 rfl) (more_ne h1 rfl)) he, fun h0 h1 => PuR.ext (f4 (mnf h0 rfl) (more_ne h1 rfl)) he, fun h0 h1 => StV.ext (f5 (mnf h0 rfl) (more_ne h1 rfl)) he⟩)
     have HU := Lib.hid (show (upd V 6 (.int .i64 r.2)) 4 = .tuple #[.agg #[.slice A4 r.1.length c4], .int .i64 r.2] from e4)
     clear hK hC hW hL HV s0 s1 f3 f4 f5
     rw [HFR.out, e4]
     clear e4
     go_wp2_with fail
     show K _ _; have := H.out _ (Ext.refl _); rw [HFR.out] at this
     obtain u4 := HU.out
     rw [u4] at this
     exact this
    ·rintro L A W K hL hC hW ⟨V, rfl, HV, s0, s1, f3, f4, f5⟩ hK
     have hB := s0 hL
     have q5 := f5 hL (hW 5 rfl)
     obtain ⟨A5, c5, e5, k5⟩ := q5
     have H := Lib.hid (show ∀ W', (MnE w (w.heap.size + 1 + 1) r W') → K (fr (V)) W' from fun W' hA => hK _ _ ⟨V, rfl, HV.st 7 rfl, fun h0 => msf h0, fun h0 => hA, fun h0 h1 => msf h0, fun h0 h1 => msf h0, fun h0 h1 => msf h0⟩)
     have HU := Lib.hid (show (V) 5 = .agg #[.slice A5 r.1.length c5] from e5)
     clear hK hC hW hL HV s0 s1 f3 f4 f5
     rw [HFR.out, e5]
     clear e5
     have HB := Lib.hid hB
     have KH := Lib.hid k5
     have hc : W.cell? ⟨w.heap.size + 1 + 1, 0, none⟩ = some (.slice none 0 0) := hB.1.2.2.1.cell 0 _ rfl
     have hf : W.frozen? ⟨w.heap.size + 1 + 1, 0, none⟩ = false := hB.1.2.2.1.frozen 0
     clear hB k5
     go_wp2_with fail
     have HA := Lib.hid (HB.out.1.done (r := r) (by omega) KH.out)
     show K _ _; have := H.out _ HA.out; rw [HFR.out] at this
     obtain u5 := HU.out
     rw [u5] at this
     exact this
    ·rintro L A W K hL hC hW ⟨V, rfl, HV, s0, s1, f3, f4, f5⟩ hK
     have e6 := HV 6 _ rfl (hW 6 rfl)
     have H := Lib.hid (show ∀ W', Ext W W' → K (fr (upd V 8 (.int .i64 r.2))) W' from fun W' he => hK _ _ ⟨_, rfl, HV.us 8 _ rfl, fun h0 => MnB.ext (s0 (mnf h0 rfl)) he, fun h0 => MnE.ext (s1 (more_ne h0 rfl)) he, fun h0 h1 => FnP.ext (f3 (mnf h0 rfl) (more_ne h1 rfl)) he, fun h0 h1 => PuR.ext (f4 (mnf h0 rfl) (more_ne h1 rfl)) he, fun h0 h1 => StV.ext (f5 (mnf h0 rfl) (more_ne h1 rfl)) he⟩)
     have HU := Lib.hid (show (upd V 8 (.int .i64 r.2)) 6 = .int .i64 r.2 from e6)
     clear hK hC hW hL HV s0 s1 f3 f4 f5
     rw [HFR.out, e6]
     clear e6
     go_wp2_with fail
     show K _ _; have := H.out _ (Ext.refl _); rw [HFR.out] at this
     obtain u6 := HU.out
     rw [u6] at this
     exact this
    ·rintro L A W hL ⟨V, rfl, HV, s0, s1, f3, f4, f5⟩
     have e0 := HV 0 _ rfl (hL 0 (by simp))
     have e1 := HV 1 _ rfl (hL 1 (by simp))
     have e2 := HV 2 _ rfl (hL 2 (by simp))
     have e6 := HV 6 _ rfl (hL 6 (by simp))
     have e8 := HV 8 _ rfl (hL 8 (by simp))
     have hA := s1 (hL 7 (by simp))
     rw [HFR.out, e0, e1, e2, e6, e8]
     clear hL HV HFR e0 e1 e2 e6 e8 s0 s1 f3 f4 f5
     obtain ⟨A9, c9, h1', h2', h3'⟩ := hA
     have H1 := Lib.hid h1'
     have H2 := Lib.hid h2'
     have H3 := Lib.hid h3'
     clear h1' h2' h3'
     go_wp2_with fail
     refine bodyPost_ret (results_st_err Try.results42 _ _ (w.heap.size + 1 + 1) (.slice A9 r.1.length c9) rfl H1.out) rfl ?_
     exact ⟨_, by rw [HF.out]; rfl, by rw [HF.out]; exact H2.out, H3.out⟩
   ·have HF := Lib.hid (show burnS l a n = ([], 162) by rw [HDEF.out]; simp [ea, ef])
    rw [decide_eq_false ef]
    clear HDEF ea ef
    go_wp2_with fail
    refine bodyPost_ret (results_st_err Try.results42 _ _ (w.heap.size + 1 + 1) (.slice none 0 0) rfl (by simpa using Cs.set HJ2.out.2.2.1 0 (.slice none 0 0))) rfl ?_
    exact ⟨_, by rw [HF.out]; rfl, by rw [HF.out]; exact RwA.nil _ _ _, HJ2.out.2.2.2.grown (grown_set _ _ _ _) (by omega)⟩

def moveS (l : List Ac) (f a n : Nat) : List Ac × Int := if rightL l = false then ([], 160) else if f = 0 ∨ a = 0 then ([], 2) else if n ≤ (accF l f).1.bal then (if n ≠ 0 ∧ roomB l a = false then ([], 6) else putS (putS l f (spendA l f n)).1 a (gainA (putS l f (spendA l f n)).1 a n)) else ([], 162)
set_option maxRecDepth 100000 in
set_option maxHeartbeats 4000000 in
theorem stateMove_any (sv : Value) (l : List Ac) (f a n : Nat) (w : World) (hs : Acs w sv l) (hl : l.length ≤ 1000) (hsz : ∀ q ∈ l, q.code.length ≤ 1000000000 ∧ q.store.length ≤ 1000000000) (hn : n < M256) (hf : f < 18446744073709551616) (ha : a < 18446744073709551616) :
  Calls Try.prog 36 #[.agg #[sv], .int .u64 (f : Nat), .int .u64 (a : Nat), wv n] w (RetS w (moveS l f a n)) := by
 have HDEF : Hid (moveS l f a n = if rightL l = false then ([], 160) else if f = 0 ∨ a = 0 then ([], 2) else if n ≤ (accF l f).1.bal then (if n ≠ 0 ∧ roomB l a = false then ([], 6) else putS (putS l f (spendA l f n)).1 a (gainA (putS l f (spendA l f n)).1 a n)) else ([], 162)) := Lib.hid rfl
 have HS := Lib.hid hs
 have HSZ := Lib.hid hsz
 obtain ⟨A0, c0, rfl, h1, h2⟩ := hs.len
 obtain ⟨w0, hw0⟩ : ∃ w0, (((w.alloc (.cells #[.slice A0 l.length c0] 24)).alloc (.cells (wc n) 31)).alloc (.cells #[.slice none 0 0] 24)) = w0 := ⟨_, rfl⟩
 have HJ0 : Hid (MnJ w w.heap.size (w.heap.size + 1) (w.heap.size + 1 + 1) (.slice A0 l.length c0) n w0) := by
  rw [← hw0]
  exact Lib.hid ⟨Cs.alloc (Cs.alloc (Cs.new _ _ _ _ rfl) _) _, Cs.alloc (Cs.new _ _ _ _ (by simp)) _, Cs.new _ _ _ _ (by simp), (((Ext.refl w).alloc _).alloc _).alloc _⟩
 have HW0 := Lib.hid hw0
 have q0 : ((((w.alloc (.cells #[.slice A0 l.length c0] 24)).alloc (.cells (wc n) 31)).alloc (.cells #[.slice none 0 0] 24))).cell? ⟨w.heap.size, 0, none⟩ = some (.slice A0 l.length c0) := by rw [hw0]; exact HJ0.out.1.cell 0 _ rfl
 have HCE : Hid (chkE l = if rightL l then 0 else 160) := Lib.hid rfl
 clear hs hsz hw0
 unfold wv
 go_enter Try.func36, Try.ntmps36
 go_wp2_with fail
 rw [HW0.out]
 refine (stateCheck_any _ l _ (HS.out.ext HJ0.out.2.2.2) (by omega)).mono ?_
 rintro e w1 ⟨rfl, he⟩
 have HJ1 := Lib.hid (HJ0.out.ext he)
 have q1 : w1.cell? ⟨w.heap.size, 0, none⟩ = some (.slice A0 l.length c0) := HJ1.out.1.cell 0 _ rfl
 have r1 : w1.cell? ⟨w.heap.size + 1 + 1, 0, none⟩ = some (.slice none 0 0) := HJ1.out.2.2.1.cell 0 _ rfl
 have p1 : w1.frozen? ⟨w.heap.size + 1 + 1, 0, none⟩ = false := HJ1.out.2.2.1.frozen 0
 clear he HJ0 q0 HW0
 rw [HCE.out]
 cases hr : rightL l with
 | false =>
  rw [hr] at HDEF
  have HF := Lib.hid (show moveS l f a n = ([], 160) by rw [HDEF.out]; rfl)
  clear hr HDEF
  go_wp2_with fail
  refine bodyPost_ret (results_st_err Try.results36 _ _ (w.heap.size + 1 + 1) (.slice none 0 0) rfl (by simpa using Cs.set HJ1.out.2.2.1 0 (.slice none 0 0))) rfl ?_
  exact ⟨_, by rw [HF.out]; rfl, by rw [HF.out]; exact RwA.nil _ _ _, HJ1.out.2.2.2.grown (grown_set _ _ _ _) (by omega)⟩
 | true =>
  rw [hr] at HDEF
  clear hr
  by_cases ef0 : f = 0
  ·have HF := Lib.hid (show moveS l f a n = ([], 2) by rw [HDEF.out]; simp [ef0])
   have d1 : ((f : Int) == 0) = true := by simp [ef0]
   have d2 : (f == 0) = true := by simp [ef0]
   clear HDEF ef0
   go_wp2_with fail
   refine bodyPost_ret (results_st_err Try.results36 _ _ (w.heap.size + 1 + 1) (.slice none 0 0) rfl (by simpa using Cs.set HJ1.out.2.2.1 0 (.slice none 0 0))) rfl ?_
   exact ⟨_, by rw [HF.out]; rfl, by rw [HF.out]; exact RwA.nil _ _ _, HJ1.out.2.2.2.grown (grown_set _ _ _ _) (by omega)⟩
  ·have d1 : ((f : Int) == 0) = false := by simp; omega
   have d2 : (f == 0) = false := by simpa using ef0
   by_cases ea : a = 0
   ·have HF := Lib.hid (show moveS l f a n = ([], 2) by rw [HDEF.out]; simp [ea])
    have d3 : ((a : Int) == 0) = true := by simp [ea]
    have d4 : (a == 0) = true := by simp [ea]
    clear HDEF ea
    go_wp2_with fail
    refine bodyPost_ret (results_st_err Try.results36 _ _ (w.heap.size + 1 + 1) (.slice none 0 0) rfl (by simpa using Cs.set HJ1.out.2.2.1 0 (.slice none 0 0))) rfl ?_
    exact ⟨_, by rw [HF.out]; rfl, by rw [HF.out]; exact RwA.nil _ _ _, HJ1.out.2.2.2.grown (grown_set _ _ _ _) (by omega)⟩
   ·have d3 : ((a : Int) == 0) = false := by simp; omega
    have d4 : (a == 0) = false := by simpa using ea
    go_wp2_with ((with_reducible refine wpList_load_word ?_ 31 28 (.tmp 7) ?_ Try.underlying31 winfo (w.heap.size + 1) n ?_ ?_ ?_); (exact rfl); (exact rfl); (exact rfl); (exact HJ1.out.2.1))
    refine (funds_any _ l f n _ (HS.out.ext HJ1.out.2.2.2) hf hn).mono ?_
    rintro e w2 ⟨rfl, he⟩
    have HJ2 := Lib.hid (HJ1.out.ext he)
    have q2 : w2.cell? ⟨w.heap.size, 0, none⟩ = some (.slice A0 l.length c0) := HJ2.out.1.cell 0 _ rfl
    have r2 : w2.cell? ⟨w.heap.size + 1 + 1, 0, none⟩ = some (.slice none 0 0) := HJ2.out.2.2.1.cell 0 _ rfl
    have p2 : w2.frozen? ⟨w.heap.size + 1 + 1, 0, none⟩ = false := HJ2.out.2.2.1.frozen 0
    clear he HJ1 q1 r1 p1
    by_cases ef : n ≤ (accF l f).1.bal
    ·rw [decide_eq_true ef]
     by_cases en : n = 0
     ·have hnz : (n != 0) = false := by simp [en]
      have HNZ := Lib.hid hnz
      have HF := Lib.hid (show moveS l f a n = putS (putS l f (spendA l f n)).1 a (gainA (putS l f (spendA l f n)).1 a n) by rw [HDEF.out]; simp [ef0, ea, en])
      clear HDEF ef hnz en
      have HJ3 := HJ2
      go_upto_region 9 with (first
       | ((with_reducible refine wpList_load_word ?_ 31 28 (.tmp 7) ?_ Try.underlying31 winfo (w.heap.size + 1) n ?_ ?_ ?_); (exact rfl); (exact rfl); (exact rfl); (exact HJ2.out.2.1))
       | ((with_reducible refine wpList_neq_word ?_ (.tmp 33) (.tmp 34) ?_ n 0 hn (by decide) ?_ ?_ ?_); (exact rfl); (exact rfl); (exact rfl); (exact rfl); rw [HNZ.out]))
      have HPT := Lib.hid (fun W g (h : Ext w W) (hw : Wd W g 31 n) => spendsPut_any (.slice A0 l.length c0) l f n g W (HS.out.ext h) hf (by omega) HSZ.out hn hw)
      have HLR := Lib.hid (putS_len l f (spendA l f n))
      have HSR := Lib.hid (show ∀ q ∈ (putS l f (spendA l f n)).1, q.code.length ≤ 1000000000 ∧ q.store.length ≤ 1000000000 from fun q hq => by
       rcases putS_mem hq with h | h
       ·exact HSZ.out q h
       ·rw [h]; exact spendA_sz HSZ.out f n)
      obtain ⟨r, hr⟩ : ∃ r, putS l f (spendA l f n) = r := ⟨_, rfl⟩
      rw [hr] at HF HPT HLR HSR
      clear hr
      refine wp_named fun a0 ha0 => ?_
      obtain ⟨fr, hfr⟩ : ∃ fr : (Nat → Value) → Act, ∀ V, fr V = ((((((((((a0.put (some 44) (V 0)).put (some 45) (V 1)).put (some 46) (V 2)).put (some 47) (V 3)).put (some 48) (V 4)).put (some 43) (V 5)).put (some 49) (V 6)).put (some 50) (V 7)).put (some 10) (V 8)).put (some 11) (V 10)) := ⟨_, fun _ => rfl⟩
      rw [ha0] at hfr
      simp only [Act.put, List.setIfInBounds_toArray, List.set_cons_zero, List.set_cons_succ] at hfr
      have HFR := Lib.hid hfr
      clear hfr
      refine wp_region_inv (by kernel_rfl) (by kernel_rfl) (fun L A W => ∃ V : Nat → Value, A = fr V ∧ Vals (fun j => ([some (.agg #[.slice A0 l.length c0]), some (.int .u64 (f : Nat)), some (wv n), none, none, none, none, some (.int .i64 r.2), none, none, some (.int .i64 r.2)] : List (Option Value)).getD j none) L V ∧ (L 9 = false → MnB w w (w.heap.size) (w.heap.size + 1) (w.heap.size + 1 + 1) (.slice A0 l.length c0) n W) ∧ (L 9 = true → MvK w (w.heap.size) (w.heap.size + 1) (w.heap.size + 1 + 1) (.slice A0 l.length c0) n r W (V 8)) ∧ (L 9 = false → L 3 = true → FnP 124 n W (V 3)) ∧ (L 9 = false → L 4 = true → PuR w.heap.size r W (V 4)) ∧ (L 5 = true → ((V 5) = (V 4) ∧ SpT r (V 5))) ∧ (L 9 = false → L 6 = true → StV w.heap.size r W (V 6)) ∧ (L 9 = false → L 8 = true → NwS w W (V 8))) ?_ ⟨?_, ?_, ?_, ?_, ?_, ?_, ?_, ?_, ?_, ?_, ?_, trivial⟩ ?_
      ·refine ⟨fun j => a0.tmps.getD (([44, 45, 46, 47, 48, 43, 49, 50, 10, 0, 11] : List Nat).getD j 0) undef, ?_, Vals.no _ _ _ (far_none _ _ rfl), fun _ => ⟨HJ3.out.ext (Ext.refl _).drew, (HJ3.out.2.2.2.trans (Ext.refl _).drew)⟩, fun h0 => absurd h0 (by decide), fun h0 h1 => absurd h1 (by decide), fun h0 h1 => absurd h1 (by decide), fun h0 => absurd h0 (by decide), fun h0 h1 => absurd h1 (by decide), fun h0 h1 => absurd h1 (by decide)⟩
       rw [HFR.out, ha0]
       rfl
      all_goals clear ha0
      ·rintro L A W K hL hC hW ⟨V, rfl, HV, s0, s1, f3, f4, f5, f6, f8⟩ hK
       have hB := s0 (hC.no (hC.no (hC.no (hC.no hL 4 _ rfl rfl) 5 _ rfl rfl) 6 _ rfl rfl) 9 _ rfl rfl)
       have H := Lib.hid (show ∀ W', Ext W W' → K (fr (upd V 0 (.agg #[.slice A0 l.length c0]))) W' from fun W' he => hK _ _ ⟨_, rfl, HV.us 0 _ rfl, fun h0 => MnB.ext (s0 (mnf h0 rfl)) he, fun h0 => MvK.ext (s1 (more_ne h0 rfl)) he, fun h0 h1 => FnP.ext (f3 (mnf h0 rfl) (more_ne h1 rfl)) he, fun h0 h1 => PuR.ext (f4 (mnf h0 rfl) (more_ne h1 rfl)) he, fun h0 => keepP (f5 (more_ne h0 rfl)) he, fun h0 h1 => StV.ext (f6 (mnf h0 rfl) (more_ne h1 rfl)) he, fun h0 h1 => NwS.ext (f8 (mnf h0 rfl) (more_ne h1 rfl)) he⟩)
       clear hK hC hW hL HV s0 s1 f3 f4 f5 f6 f8
       rw [HFR.out]
       have hcl : W.cell? ⟨w.heap.size, 0, none⟩ = some (.slice A0 l.length c0) := hB.1.1.cell 0 _ rfl
       clear hB
       go_wp2_with fail
       show K _ _; have := H.out _ (Ext.refl _); rw [HFR.out] at this
       exact this
      ·rintro L A W K hL hC hW ⟨V, rfl, HV, s0, s1, f3, f4, f5, f6, f8⟩ hK
       have H := Lib.hid (show ∀ W', Ext W W' → K (fr (upd V 1 (.int .u64 (f : Nat)))) W' from fun W' he => hK _ _ ⟨_, rfl, HV.us 1 _ rfl, fun h0 => MnB.ext (s0 (mnf h0 rfl)) he, fun h0 => MvK.ext (s1 (more_ne h0 rfl)) he, fun h0 h1 => FnP.ext (f3 (mnf h0 rfl) (more_ne h1 rfl)) he, fun h0 h1 => PuR.ext (f4 (mnf h0 rfl) (more_ne h1 rfl)) he, fun h0 => keepP (f5 (more_ne h0 rfl)) he, fun h0 h1 => StV.ext (f6 (mnf h0 rfl) (more_ne h1 rfl)) he, fun h0 h1 => NwS.ext (f8 (mnf h0 rfl) (more_ne h1 rfl)) he⟩)
       clear hK hC hW hL HV s0 s1 f3 f4 f5 f6 f8
       rw [HFR.out]
       go_wp2_with fail
       show K _ _; have := H.out _ (Ext.refl _); rw [HFR.out] at this
       exact this
      ·rintro L A W K hL hC hW ⟨V, rfl, HV, s0, s1, f3, f4, f5, f6, f8⟩ hK
       have hB := s0 (hC.no (hC.no (hC.no (hC.no (hC.no hL 3 _ rfl rfl) 4 _ rfl rfl) 5 _ rfl rfl) 6 _ rfl rfl) 9 _ rfl rfl)
       have H := Lib.hid (show ∀ W', Ext W W' → K (fr (upd V 2 (wv n))) W' from fun W' he => hK _ _ ⟨_, rfl, HV.us 2 _ rfl, fun h0 => MnB.ext (s0 (mnf h0 rfl)) he, fun h0 => MvK.ext (s1 (more_ne h0 rfl)) he, fun h0 h1 => FnP.ext (f3 (mnf h0 rfl) (more_ne h1 rfl)) he, fun h0 h1 => PuR.ext (f4 (mnf h0 rfl) (more_ne h1 rfl)) he, fun h0 => keepP (f5 (more_ne h0 rfl)) he, fun h0 h1 => StV.ext (f6 (mnf h0 rfl) (more_ne h1 rfl)) he, fun h0 h1 => NwS.ext (f8 (mnf h0 rfl) (more_ne h1 rfl)) he⟩)
       clear hK hC hW hL HV s0 s1 f3 f4 f5 f6 f8
       rw [HFR.out]
       have HWD := Lib.hid hB.1.2.1
       clear hB
       refine wpList_load_word rfl 31 28 (.tmp 7) rfl Try.underlying31 winfo (w.heap.size + 1) n rfl HWD.out ?_
       show K _ _; have := H.out _ (Ext.refl _); rw [HFR.out] at this
       exact this
      ·rintro L A W K hL hC hW ⟨V, rfl, HV, s0, s1, f3, f4, f5, f6, f8⟩ hK
       have e2 := HV 2 _ rfl (hW 2 rfl)
       have hB := s0 (hC.no (hC.no (hC.no (hC.no hL 4 _ rfl rfl) 5 _ rfl rfl) 6 _ rfl rfl) 9 _ rfl rfl)
       have H := Lib.hid (show ∀ v W', Ext W W' → (FnP 124 n W' v) → K (fr (upd V 3 v)) W' from fun v W' he hp => hK _ _ ⟨_, rfl, HV.un 3 _ rfl, fun h0 => MnB.ext (s0 (mnf h0 rfl)) he, fun h0 => MvK.ext (s1 (more_ne h0 rfl)) he, fun h0 h1 => hp, fun h0 h1 => PuR.ext (f4 (mnf h0 rfl) (more_ne h1 rfl)) he, fun h0 => keepP (f5 (more_ne h0 rfl)) he, fun h0 h1 => StV.ext (f6 (mnf h0 rfl) (more_ne h1 rfl)) he, fun h0 h1 => NwS.ext (f8 (mnf h0 rfl) (more_ne h1 rfl)) he⟩)
       have HU := Lib.hid (show ∀ v, (upd V 3 v) 2 = wv n from fun v => e2)
       clear hK hC hW hL HV s0 s1 f3 f4 f5 f6 f8
       rw [HFR.out, e2]
       clear e2
       clear hB
       go_wp2_with fail
       refine (spends_any n _).mono ?_
       rintro e wx ⟨rfl, hw, he⟩
       have := H.out _ _ he (⟨_, rfl, hw⟩)
       clear H
       go_wp2_with fail
       show K _ _
       rw [HFR.out] at this
       obtain u2 := HU.out _
       rw [u2] at this
       exact this
      ·rintro L A W K hL hC hW ⟨V, rfl, HV, s0, s1, f3, f4, f5, f6, f8⟩ hK
       have e0 := HV 0 _ rfl (hW 0 rfl)
       have e1 := HV 1 _ rfl (hW 1 rfl)
       have hB := s0 (hC.no (hC.no (hC.no hL 5 _ rfl rfl) 6 _ rfl rfl) 9 _ rfl rfl)
       have q3 := f3 (hC.no (hC.no (hC.no hL 5 _ rfl rfl) 6 _ rfl rfl) 9 _ rfl rfl) (hW 3 rfl)
       obtain ⟨g3, e3, k3⟩ := q3
       have H := Lib.hid (show ∀ v W', Ext W W' → (PuR w.heap.size r W' v) → K (fr (upd V 4 v)) W' from fun v W' he hp => hK _ _ ⟨_, rfl, HV.un 4 _ rfl, fun h0 => MnB.ext (s0 (mnf h0 rfl)) he, fun h0 => MvK.ext (s1 (more_ne h0 rfl)) he, fun h0 h1 => FnP.ext (f3 (mnf h0 rfl) (more_ne h1 rfl)) he, fun h0 h1 => hp, fun h0 => mtf (hC.no hL 5 _ rfl rfl) (more_ne h0 rfl), fun h0 h1 => StV.ext (f6 (mnf h0 rfl) (more_ne h1 rfl)) he, fun h0 h1 => NwS.ext (f8 (mnf h0 rfl) (more_ne h1 rfl)) he⟩)
       have HU := Lib.hid (show ∀ v, (upd V 4 v) 0 = .agg #[.slice A0 l.length c0] ∧ (upd V 4 v) 1 = .int .u64 (f : Nat) ∧ (upd V 4 v) 3 = .func (.func 124) #[] #[.pointer (some ⟨g3, 0, none⟩)] from fun v => ⟨e0, e1, e3⟩)
       clear hK hC hW hL HV s0 s1 f3 f4 f5 f6 f8
       rw [HFR.out, e0, e1, e3]
       clear e0 e1 e3
       have HB := Lib.hid hB
       clear hB
       go_wp2_with fail
       refine (HPT.out _ g3 HB.out.2 k3).mono ?_
       rintro e wx ⟨v', rfl, hr, he⟩
       have := H.out _ _ he (PuR.new (hr.low HB.out.1.2.2.2.size))
       clear H
       go_wp2_with fail
       show K _ _
       rw [HFR.out] at this
       obtain ⟨u0, u1, u3⟩ := HU.out _
       rw [u0, u1, u3] at this
       exact this
      ·rintro L A W K hL hC hW ⟨V, rfl, HV, s0, s1, f3, f4, f5, f6, f8⟩ hK
       have q4 := f4 (hC.no (hC.no hL 6 _ rfl rfl) 9 _ rfl rfl) (hW 4 rfl)
       obtain ⟨A4, c4, e4, k4⟩ := q4
       have H := Lib.hid (show ∀ v W', Ext W W' → ((v = (V 4) ∧ SpT r v)) → K (fr (upd V 5 v)) W' from fun v W' he hp => hK _ _ ⟨_, rfl, HV.un 5 _ rfl, fun h0 => MnB.ext (s0 (mnf h0 rfl)) he, fun h0 => MvK.ext (s1 (more_ne h0 rfl)) he, fun h0 h1 => FnP.ext (f3 (mnf h0 rfl) (more_ne h1 rfl)) he, fun h0 h1 => PuR.ext (f4 (mnf h0 rfl) (more_ne h1 rfl)) he, fun h0 => hp, fun h0 h1 => StV.ext (f6 (mnf h0 rfl) (more_ne h1 rfl)) he, fun h0 h1 => NwS.ext (f8 (mnf h0 rfl) (more_ne h1 rfl)) he⟩)
       have HU := Lib.hid (show ∀ v, (upd V 5 v) 4 = .tuple #[.agg #[.slice A4 r.1.length c4], .int .i64 r.2] from fun v => e4)
       clear hK hC hW hL HV s0 s1 f3 f4 f5 f6 f8
       rw [HFR.out, e4]
       clear e4
       go_wp2_with fail
       show K _ _; have := H.out (.tuple #[.agg #[.slice A4 r.1.length c4], .int .i64 r.2]) _ (Ext.refl _) (⟨(HU.out undef).symm, _, rfl⟩); rw [HFR.out] at this
       obtain u4 := HU.out _
       rw [u4] at this
       exact this
      ·rintro L A W K hL hC hW ⟨V, rfl, HV, s0, s1, f3, f4, f5, f6, f8⟩ hK
       have q4 := f4 (hC.no hL 9 _ rfl rfl) (hC 5 _ rfl (hW 5 rfl) 4 rfl)
       have q5 := f5 (hW 5 rfl)
       obtain ⟨x5, e5⟩ := q5.2
       have H := Lib.hid (show ∀ v W', Ext W W' → (StV w.heap.size r W' v) → K (fr (upd V 6 v)) W' from fun v W' he hp => hK _ _ ⟨_, rfl, HV.un 6 _ rfl, fun h0 => MnB.ext (s0 (mnf h0 rfl)) he, fun h0 => MvK.ext (s1 (more_ne h0 rfl)) he, fun h0 h1 => FnP.ext (f3 (mnf h0 rfl) (more_ne h1 rfl)) he, fun h0 h1 => PuR.ext (f4 (mnf h0 rfl) (more_ne h1 rfl)) he, fun h0 => keepP (f5 (more_ne h0 rfl)) he, fun h0 h1 => hp, fun h0 h1 => NwS.ext (f8 (mnf h0 rfl) (more_ne h1 rfl)) he⟩)
       have HU := Lib.hid (show ∀ v, (upd V 6 v) 5 = .tuple #[x5, .int .i64 r.2] from fun v => e5)
       clear hK hC hW hL HV s0 s1 f3 f4 f5 f6 f8
       rw [HFR.out, e5]
       clear e5
       go_wp2_with fail
       show K _ _; have := H.out (x5) _ (Ext.refl _) (StV.of q5.1 (HU.out undef) q4); rw [HFR.out] at this
       obtain u5 := HU.out _
       rw [u5] at this
       exact this
      ·rintro L A W K hL hC hW ⟨V, rfl, HV, s0, s1, f3, f4, f5, f6, f8⟩ hK
       have q5 := f5 (hW 5 rfl)
       obtain ⟨x5, e5⟩ := q5.2
       have H := Lib.hid (show ∀ W', Ext W W' → K (fr (upd V 7 (.int .i64 r.2))) W' from fun W' he => hK _ _ ⟨_, rfl, HV.us 7 _ rfl, fun h0 => MnB.ext (s0 (mnf h0 rfl)) he, fun h0 => MvK.ext (s1 (more_ne h0 rfl)) he, fun h0 h1 => FnP.ext (f3 (mnf h0 rfl) (more_ne h1 rfl)) he, fun h0 h1 => PuR.ext (f4 (mnf h0 rfl) (more_ne h1 rfl)) he, fun h0 => keepP (f5 (more_ne h0 rfl)) he, fun h0 h1 => StV.ext (f6 (mnf h0 rfl) (more_ne h1 rfl)) he, fun h0 h1 => NwS.ext (f8 (mnf h0 rfl) (more_ne h1 rfl)) he⟩)
       have HU := Lib.hid (show (upd V 7 (.int .i64 r.2)) 5 = .tuple #[x5, .int .i64 r.2] from e5)
       clear hK hC hW hL HV s0 s1 f3 f4 f5 f6 f8
       rw [HFR.out, e5]
       clear e5
       go_wp2_with fail
       show K _ _; have := H.out _ (Ext.refl _); rw [HFR.out] at this
       obtain u5 := HU.out
       rw [u5] at this
       exact this
      ·rintro L A W K hL hC hW ⟨V, rfl, HV, s0, s1, f3, f4, f5, f6, f8⟩ hK
       have hB := s0 (hC.no hL 9 _ rfl rfl)
       have H := Lib.hid (show ∀ v W', Ext W W' → (NwS w W' v) → K (fr (upd V 8 v)) W' from fun v W' he hp => hK _ _ ⟨_, rfl, HV.un 8 _ rfl, fun h0 => MnB.ext (s0 (mnf h0 rfl)) he, fun h0 => mtf (hC.no hL 9 _ rfl rfl) (more_ne h0 rfl), fun h0 h1 => FnP.ext (f3 (mnf h0 rfl) (more_ne h1 rfl)) he, fun h0 h1 => PuR.ext (f4 (mnf h0 rfl) (more_ne h1 rfl)) he, fun h0 => keepP (f5 (more_ne h0 rfl)) he, fun h0 h1 => StV.ext (f6 (mnf h0 rfl) (more_ne h1 rfl)) he, fun h0 h1 => hp⟩)
       clear hK hC hW hL HV s0 s1 f3 f4 f5 f6 f8
       rw [HFR.out]
       have HB := Lib.hid hB
       clear hB
       go_wp2_with fail
       show K _ _; have := H.out (.pointer (some ⟨W.heap.size, 0, none⟩)) _ ((Ext.refl W).alloc (.cells #[.slice none 0 0] 24)) (⟨_, rfl, Cs.new _ _ _ _ rfl, Cs.lt HB.out.1.2.2.1⟩); rw [HFR.out] at this
       exact this
      ·rintro L A W K hL hC hW ⟨V, rfl, HV, s0, s1, f3, f4, f5, f6, f8⟩ hK
       have hB := s0 hL
       have q8 := f8 hL (hW 8 rfl)
       obtain ⟨g8, e8, k8, z8⟩ := q8
       have q6 := f6 hL (hW 6 rfl)
       obtain ⟨A6, c6, e6, k6⟩ := q6
       have H := Lib.hid (show ∀ W', (MvK w (w.heap.size) (w.heap.size + 1) (w.heap.size + 1 + 1) (.slice A0 l.length c0) n r W' (V 8)) → K (fr (V)) W' from fun W' hA => hK _ _ ⟨V, rfl, HV.st 9 rfl, fun h0 => msf h0, fun h0 => hA, fun h0 h1 => msf h0, fun h0 h1 => msf h0, fun h0 => (f5 (more_ne h0 rfl)), fun h0 h1 => msf h0, fun h0 h1 => msf h0⟩)
       have HU := Lib.hid (show (V) 8 = .pointer (some ⟨g8, 0, none⟩) ∧ (V) 6 = .agg #[.slice A6 r.1.length c6] from ⟨e8, e6⟩)
       clear hK hC hW hL HV s0 s1 f3 f4 f5 f6 f8
       rw [HFR.out, e8, e6]
       clear e8 e6
       have HB := Lib.hid hB
       have K1 := Lib.hid k8
       have K2 := Lib.hid k6
       have Z1 := Lib.hid z8
       have hc : W.cell? ⟨g8, 0, none⟩ = some (.slice none 0 0) := k8.cell 0 _ rfl
       have hf : W.frozen? ⟨g8, 0, none⟩ = false := k8.frozen 0
       clear hB k8 k6 z8
       go_wp2_with fail
       have HA := Lib.hid (show MvK w (w.heap.size) (w.heap.size + 1) (w.heap.size + 1 + 1) (.slice A0 l.length c0) n r (W.setCell ⟨g8, 0, none⟩ (.slice A6 r.1.length c6)) (V 8) from by rw [HU.out.1]; have hz := Z1.out; exact HB.out.1.lay (by omega) (by omega) (by omega) (by omega) K1.out K2.out)
       show K _ _; have := H.out _ HA.out; rw [HFR.out] at this
       obtain ⟨u8, u6⟩ := HU.out
       rw [u8, u6] at this
       exact this
      ·rintro L A W K hL hC hW ⟨V, rfl, HV, s0, s1, f3, f4, f5, f6, f8⟩ hK
       have e7 := HV 7 _ rfl (hW 7 rfl)
       have H := Lib.hid (show ∀ W', Ext W W' → K (fr (upd V 10 (.int .i64 r.2))) W' from fun W' he => hK _ _ ⟨_, rfl, HV.us 10 _ rfl, fun h0 => MnB.ext (s0 (mnf h0 rfl)) he, fun h0 => MvK.ext (s1 (more_ne h0 rfl)) he, fun h0 h1 => FnP.ext (f3 (mnf h0 rfl) (more_ne h1 rfl)) he, fun h0 h1 => PuR.ext (f4 (mnf h0 rfl) (more_ne h1 rfl)) he, fun h0 => keepP (f5 (more_ne h0 rfl)) he, fun h0 h1 => StV.ext (f6 (mnf h0 rfl) (more_ne h1 rfl)) he, fun h0 h1 => NwS.ext (f8 (mnf h0 rfl) (more_ne h1 rfl)) he⟩)
       have HU := Lib.hid (show (upd V 10 (.int .i64 r.2)) 7 = .int .i64 r.2 from e7)
       clear hK hC hW hL HV s0 s1 f3 f4 f5 f6 f8
       rw [HFR.out, e7]
       clear e7
       go_wp2_with fail
       show K _ _; have := H.out _ (Ext.refl _); rw [HFR.out] at this
       obtain u7 := HU.out
       rw [u7] at this
       exact this
      ·rintro L A W hL ⟨V, rfl, HV, s0, s1, f3, f4, f5, f6, f8⟩
       have e0 := HV 0 _ rfl (hL 0 (by simp))
       have e1 := HV 1 _ rfl (hL 1 (by simp))
       have e2 := HV 2 _ rfl (hL 2 (by simp))
       have e7 := HV 7 _ rfl (hL 7 (by simp))
       have e10 := HV 10 _ rfl (hL 10 (by simp))
       have hA := s1 (hL 9 (by simp))
       have p43 := f5 (hL 5 (by simp))
       rw [HFR.out, e0, e1, e2, e7, e10]
       clear hL HV HFR e0 e1 e2 e7 e10 s0 s1 f3 f4 f5 f6 f8
       clear p43
       obtain ⟨hJ4, g10, A4, c4, hv4, h4a, h4b⟩ := hA
       have HJ4 := Lib.hid hJ4
       have HB4 := Lib.hid h4a
       have HR4 := Lib.hid h4b
       clear HPT hJ4 h4a h4b
       obtain ⟨wA, rfl⟩ : ∃ wA, wA = W := ⟨_, rfl⟩
       rw [hv4]
       have HPT := Lib.hid (fun W g (h : Ext wA W) (hw : Wd W g 31 n) => gainsPut_any (.slice A4 r.1.length c4) r.1 a n g W (HR4.out.acs.ext h) ha (by have := HLR.out; omega) HSR.out hn hw)
       have HJ5 := Lib.hid (show MnB w wA g10 (w.heap.size + 1) (w.heap.size + 1 + 1) (.slice A4 r.1.length c4) n wA from ⟨⟨HB4.out, HJ4.out.2.1, HJ4.out.2.2.1, HJ4.out.2.2.2⟩, Ext.refl _⟩)
       clear HJ4 HB4 HLR HSR hv4
       generalize r.1.length = r1l at *
       generalize putS r.1 a (gainA r.1 a n) = r at *
       go_upto_region 10 with fail
       refine wp_named fun a0 ha0 => ?_
       obtain ⟨fr, hfr⟩ : ∃ fr : (Nat → Value) → Act, ∀ V, fr V = ((((((((a0.put (some 51) (V 0)).put (some 52) (V 1)).put (some 53) (V 2)).put (some 54) (V 3)).put (some 55) (V 4)).put (some 56) (V 5)).put (some 57) (V 6)).put (some 9) (V 8)) := ⟨_, fun _ => rfl⟩
       rw [ha0] at hfr
       simp only [Act.put, List.setIfInBounds_toArray, List.set_cons_zero, List.set_cons_succ] at hfr
       have HFR := Lib.hid hfr
       clear hfr
       refine wp_region_inv (by kernel_rfl) (by kernel_rfl) (fun L A W => ∃ V : Nat → Value, A = fr V ∧ Vals (fun j => ([some (.agg #[.slice A4 r1l c4]), some (.int .u64 (a : Nat)), some (wv n), none, none, none, some (.int .i64 r.2), none, some (.int .i64 r.2)] : List (Option Value)).getD j none) L V ∧ (L 7 = false → MnB w wA (g10) (w.heap.size + 1) (w.heap.size + 1 + 1) (.slice A4 r1l c4) n W) ∧ (L 7 = true → MnE w (w.heap.size + 1 + 1) r W) ∧ (L 7 = false → L 3 = true → FnP 122 n W (V 3)) ∧ (L 7 = false → L 4 = true → PuR w.heap.size r W (V 4)) ∧ (L 7 = false → L 5 = true → StV w.heap.size r W (V 5))) ?_ ⟨?_, ?_, ?_, ?_, ?_, ?_, ?_, ?_, ?_, trivial⟩ ?_
       ·refine ⟨fun j => a0.tmps.getD (([51, 52, 53, 54, 55, 56, 57, 0, 9] : List Nat).getD j 0) undef, ?_, Vals.no _ _ _ (far_none _ _ rfl), fun _ => HJ5.out.ext (Ext.refl _).drew, fun h0 => absurd h0 (by decide), fun h0 h1 => absurd h1 (by decide), fun h0 h1 => absurd h1 (by decide), fun h0 h1 => absurd h1 (by decide)⟩
        rw [HFR.out, ha0]
        rfl
       all_goals clear ha0
       ·rintro L A W K hL hC hW ⟨V, rfl, HV, s0, s1, f3, f4, f5⟩ hK
        have hB := s0 (hC.no (hC.no (hC.no hL 4 _ rfl rfl) 5 _ rfl rfl) 7 _ rfl rfl)
        have H := Lib.hid (show ∀ W', Ext W W' → K (fr (upd V 0 (.agg #[.slice A4 r1l c4]))) W' from fun W' he => hK _ _ ⟨_, rfl, HV.us 0 _ rfl, fun h0 => MnB.ext (s0 (mnf h0 rfl)) he, fun h0 => MnE.ext (s1 (more_ne h0 rfl)) he, fun h0 h1 => FnP.ext (f3 (mnf h0 rfl) (more_ne h1 rfl)) he, fun h0 h1 => PuR.ext (f4 (mnf h0 rfl) (more_ne h1 rfl)) he, fun h0 h1 => StV.ext (f5 (mnf h0 rfl) (more_ne h1 rfl)) he⟩)
        clear hK hC hW hL HV s0 s1 f3 f4 f5
        rw [HFR.out]
        have hcl : W.cell? ⟨g10, 0, none⟩ = some (.slice A4 r1l c4) := hB.1.1.cell 0 _ rfl
        clear hB
        go_wp2_with fail
        show K _ _; have := H.out _ (Ext.refl _); rw [HFR.out] at this
        exact this
       ·rintro L A W K hL hC hW ⟨V, rfl, HV, s0, s1, f3, f4, f5⟩ hK
        have H := Lib.hid (show ∀ W', Ext W W' → K (fr (upd V 1 (.int .u64 (a : Nat)))) W' from fun W' he => hK _ _ ⟨_, rfl, HV.us 1 _ rfl, fun h0 => MnB.ext (s0 (mnf h0 rfl)) he, fun h0 => MnE.ext (s1 (more_ne h0 rfl)) he, fun h0 h1 => FnP.ext (f3 (mnf h0 rfl) (more_ne h1 rfl)) he, fun h0 h1 => PuR.ext (f4 (mnf h0 rfl) (more_ne h1 rfl)) he, fun h0 h1 => StV.ext (f5 (mnf h0 rfl) (more_ne h1 rfl)) he⟩)
        clear hK hC hW hL HV s0 s1 f3 f4 f5
        rw [HFR.out]
        go_wp2_with fail
        show K _ _; have := H.out _ (Ext.refl _); rw [HFR.out] at this
        exact this
       ·rintro L A W K hL hC hW ⟨V, rfl, HV, s0, s1, f3, f4, f5⟩ hK
        have hB := s0 (hC.no (hC.no (hC.no (hC.no hL 3 _ rfl rfl) 4 _ rfl rfl) 5 _ rfl rfl) 7 _ rfl rfl)
        have H := Lib.hid (show ∀ W', Ext W W' → K (fr (upd V 2 (wv n))) W' from fun W' he => hK _ _ ⟨_, rfl, HV.us 2 _ rfl, fun h0 => MnB.ext (s0 (mnf h0 rfl)) he, fun h0 => MnE.ext (s1 (more_ne h0 rfl)) he, fun h0 h1 => FnP.ext (f3 (mnf h0 rfl) (more_ne h1 rfl)) he, fun h0 h1 => PuR.ext (f4 (mnf h0 rfl) (more_ne h1 rfl)) he, fun h0 h1 => StV.ext (f5 (mnf h0 rfl) (more_ne h1 rfl)) he⟩)
        clear hK hC hW hL HV s0 s1 f3 f4 f5
        rw [HFR.out]
        have HWD := Lib.hid hB.1.2.1
        clear hB
        refine wpList_load_word rfl 31 28 (.tmp 7) rfl Try.underlying31 winfo (w.heap.size + 1) n rfl HWD.out ?_
        show K _ _; have := H.out _ (Ext.refl _); rw [HFR.out] at this
        exact this
       ·rintro L A W K hL hC hW ⟨V, rfl, HV, s0, s1, f3, f4, f5⟩ hK
        have e2 := HV 2 _ rfl (hW 2 rfl)
        have hB := s0 (hC.no (hC.no (hC.no hL 4 _ rfl rfl) 5 _ rfl rfl) 7 _ rfl rfl)
        have H := Lib.hid (show ∀ v W', Ext W W' → (FnP 122 n W' v) → K (fr (upd V 3 v)) W' from fun v W' he hp => hK _ _ ⟨_, rfl, HV.un 3 _ rfl, fun h0 => MnB.ext (s0 (mnf h0 rfl)) he, fun h0 => MnE.ext (s1 (more_ne h0 rfl)) he, fun h0 h1 => hp, fun h0 h1 => PuR.ext (f4 (mnf h0 rfl) (more_ne h1 rfl)) he, fun h0 h1 => StV.ext (f5 (mnf h0 rfl) (more_ne h1 rfl)) he⟩)
        have HU := Lib.hid (show ∀ v, (upd V 3 v) 2 = wv n from fun v => e2)
        clear hK hC hW hL HV s0 s1 f3 f4 f5
        rw [HFR.out, e2]
        clear e2
        clear hB
        go_wp2_with fail
        refine (gains_any n _).mono ?_
        rintro e wx ⟨rfl, hw, he⟩
        have := H.out _ _ he (⟨_, rfl, hw⟩)
        clear H
        go_wp2_with fail
        show K _ _
        rw [HFR.out] at this
        obtain u2 := HU.out _
        rw [u2] at this
        exact this
       ·rintro L A W K hL hC hW ⟨V, rfl, HV, s0, s1, f3, f4, f5⟩ hK
        have e0 := HV 0 _ rfl (hW 0 rfl)
        have e1 := HV 1 _ rfl (hW 1 rfl)
        have hB := s0 (hC.no (hC.no hL 5 _ rfl rfl) 7 _ rfl rfl)
        have q3 := f3 (hC.no (hC.no hL 5 _ rfl rfl) 7 _ rfl rfl) (hW 3 rfl)
        obtain ⟨g3, e3, k3⟩ := q3
        have H := Lib.hid (show ∀ v W', Ext W W' → (PuR w.heap.size r W' v) → K (fr (upd V 4 v)) W' from fun v W' he hp => hK _ _ ⟨_, rfl, HV.un 4 _ rfl, fun h0 => MnB.ext (s0 (mnf h0 rfl)) he, fun h0 => MnE.ext (s1 (more_ne h0 rfl)) he, fun h0 h1 => FnP.ext (f3 (mnf h0 rfl) (more_ne h1 rfl)) he, fun h0 h1 => hp, fun h0 h1 => StV.ext (f5 (mnf h0 rfl) (more_ne h1 rfl)) he⟩)
        have HU := Lib.hid (show ∀ v, (upd V 4 v) 0 = .agg #[.slice A4 r1l c4] ∧ (upd V 4 v) 1 = .int .u64 (a : Nat) ∧ (upd V 4 v) 3 = .func (.func 122) #[] #[.pointer (some ⟨g3, 0, none⟩)] from fun v => ⟨e0, e1, e3⟩)
        clear hK hC hW hL HV s0 s1 f3 f4 f5
        rw [HFR.out, e0, e1, e3]
        clear e0 e1 e3
        have HB := Lib.hid hB
        clear hB
        go_wp2_with fail
        refine (HPT.out _ g3 HB.out.2 k3).mono ?_
        rintro e wx ⟨v', rfl, hr, he⟩
        have := H.out _ _ he (PuR.new (hr.low HB.out.1.2.2.2.size))
        clear H
        go_wp2_with fail
        show K _ _
        rw [HFR.out] at this
        obtain ⟨u0, u1, u3⟩ := HU.out _
        rw [u0, u1, u3] at this
        exact this
       ·rintro L A W K hL hC hW ⟨V, rfl, HV, s0, s1, f3, f4, f5⟩ hK
        have q4 := f4 (hC.no hL 7 _ rfl rfl) (hW 4 rfl)
        obtain ⟨A4, c4, e4, k4⟩ := q4
        have H := Lib.hid (show ∀ v W', Ext W W' → (StV w.heap.size r W' v) → K (fr (upd V 5 v)) W' from fun v W' he hp => hK _ _ ⟨_, rfl, HV.un 5 _ rfl, fun h0 => MnB.ext (s0 (mnf h0 rfl)) he, fun h0 => MnE.ext (s1 (more_ne h0 rfl)) he, fun h0 h1 => FnP.ext (f3 (mnf h0 rfl) (more_ne h1 rfl)) he, fun h0 h1 => PuR.ext (f4 (mnf h0 rfl) (more_ne h1 rfl)) he, fun h0 h1 => hp⟩)
        have HU := Lib.hid (show ∀ v, (upd V 5 v) 4 = .tuple #[.agg #[.slice A4 r.1.length c4], .int .i64 r.2] from fun v => e4)
        clear hK hC hW hL HV s0 s1 f3 f4 f5
        rw [HFR.out, e4]
        clear e4
        go_wp2_with fail
        show K _ _; have := H.out (.agg #[.slice A4 r.1.length c4]) _ (Ext.refl _) (⟨_, _, rfl, k4⟩); rw [HFR.out] at this
        obtain u4 := HU.out _
        rw [u4] at this
        exact this
       ·rintro L A W K hL hC hW ⟨V, rfl, HV, s0, s1, f3, f4, f5⟩ hK
        have q4 := f4 (hC.no hL 7 _ rfl rfl) (hW 4 rfl)
        obtain ⟨A4, c4, e4, k4⟩ := q4
        have H := Lib.hid (show ∀ W', Ext W W' → K (fr (upd V 6 (.int .i64 r.2))) W' from fun W' he => hK _ _ ⟨_, rfl, HV.us 6 _ rfl, fun h0 => MnB.ext (s0 (mnf h0 rfl)) he, fun h0 => MnE.ext (s1 (more_ne h0 rfl)) he, fun h0 h1 => FnP.ext (f3 (mnf h0 rfl) (more_ne h1 rfl)) he, fun h0 h1 => PuR.ext (f4 (mnf h0 rfl) (more_ne h1 rfl)) he, fun h0 h1 => StV.ext (f5 (mnf h0 rfl) (more_ne h1 rfl)) he⟩)
        have HU := Lib.hid (show (upd V 6 (.int .i64 r.2)) 4 = .tuple #[.agg #[.slice A4 r.1.length c4], .int .i64 r.2] from e4)
        clear hK hC hW hL HV s0 s1 f3 f4 f5
        rw [HFR.out, e4]
        clear e4
        go_wp2_with fail
        show K _ _; have := H.out _ (Ext.refl _); rw [HFR.out] at this
        obtain u4 := HU.out
        rw [u4] at this
        exact this
       ·rintro L A W K hL hC hW ⟨V, rfl, HV, s0, s1, f3, f4, f5⟩ hK
        have hB := s0 hL
        have q5 := f5 hL (hW 5 rfl)
        obtain ⟨A5, c5, e5, k5⟩ := q5
        have H := Lib.hid (show ∀ W', (MnE w (w.heap.size + 1 + 1) r W') → K (fr (V)) W' from fun W' hA => hK _ _ ⟨V, rfl, HV.st 7 rfl, fun h0 => msf h0, fun h0 => hA, fun h0 h1 => msf h0, fun h0 h1 => msf h0, fun h0 h1 => msf h0⟩)
        have HU := Lib.hid (show (V) 5 = .agg #[.slice A5 r.1.length c5] from e5)
        clear hK hC hW hL HV s0 s1 f3 f4 f5
        rw [HFR.out, e5]
        clear e5
        have HB := Lib.hid hB
        have KH := Lib.hid k5
        have hc : W.cell? ⟨w.heap.size + 1 + 1, 0, none⟩ = some (.slice none 0 0) := hB.1.2.2.1.cell 0 _ rfl
        have hf : W.frozen? ⟨w.heap.size + 1 + 1, 0, none⟩ = false := hB.1.2.2.1.frozen 0
        clear hB k5
        go_wp2_with fail
        have HA := Lib.hid (HB.out.1.done (r := r) (by omega) KH.out)
        show K _ _; have := H.out _ HA.out; rw [HFR.out] at this
        obtain u5 := HU.out
        rw [u5] at this
        exact this
       ·rintro L A W K hL hC hW ⟨V, rfl, HV, s0, s1, f3, f4, f5⟩ hK
        have e6 := HV 6 _ rfl (hW 6 rfl)
        have H := Lib.hid (show ∀ W', Ext W W' → K (fr (upd V 8 (.int .i64 r.2))) W' from fun W' he => hK _ _ ⟨_, rfl, HV.us 8 _ rfl, fun h0 => MnB.ext (s0 (mnf h0 rfl)) he, fun h0 => MnE.ext (s1 (more_ne h0 rfl)) he, fun h0 h1 => FnP.ext (f3 (mnf h0 rfl) (more_ne h1 rfl)) he, fun h0 h1 => PuR.ext (f4 (mnf h0 rfl) (more_ne h1 rfl)) he, fun h0 h1 => StV.ext (f5 (mnf h0 rfl) (more_ne h1 rfl)) he⟩)
        have HU := Lib.hid (show (upd V 8 (.int .i64 r.2)) 6 = .int .i64 r.2 from e6)
        clear hK hC hW hL HV s0 s1 f3 f4 f5
        rw [HFR.out, e6]
        clear e6
        go_wp2_with fail
        show K _ _; have := H.out _ (Ext.refl _); rw [HFR.out] at this
        obtain u6 := HU.out
        rw [u6] at this
        exact this
       ·rintro L A W hL ⟨V, rfl, HV, s0, s1, f3, f4, f5⟩
        have e0 := HV 0 _ rfl (hL 0 (by simp))
        have e1 := HV 1 _ rfl (hL 1 (by simp))
        have e2 := HV 2 _ rfl (hL 2 (by simp))
        have e6 := HV 6 _ rfl (hL 6 (by simp))
        have e8 := HV 8 _ rfl (hL 8 (by simp))
        have hA := s1 (hL 7 (by simp))
        rw [HFR.out, e0, e1, e2, e6, e8]
        clear hL HV HFR e0 e1 e2 e6 e8 s0 s1 f3 f4 f5
        obtain ⟨A9, c9, h1', h2', h3'⟩ := hA
        have H1 := Lib.hid h1'
        have H2 := Lib.hid h2'
        have H3 := Lib.hid h3'
        clear h1' h2' h3'
        go_wp2_with fail
        refine bodyPost_ret (results_st_err Try.results36 _ _ (w.heap.size + 1 + 1) (.slice A9 r.1.length c9) rfl H1.out) rfl ?_
        exact ⟨_, by rw [HF.out]; rfl, by rw [HF.out]; exact H2.out, H3.out⟩
     ·have hnz : (n != 0) = true := by simpa using en
      have HNZ := Lib.hid hnz
      go_wp2_with (first
       | ((with_reducible refine wpList_load_word ?_ 31 28 (.tmp 7) ?_ Try.underlying31 winfo (w.heap.size + 1) n ?_ ?_ ?_); (exact rfl); (exact rfl); (exact rfl); (exact HJ2.out.2.1))
       | ((with_reducible refine wpList_neq_word ?_ (.tmp 33) (.tmp 34) ?_ n 0 hn (by decide) ?_ ?_ ?_); (exact rfl); (exact rfl); (exact rfl); (exact rfl); rw [HNZ.out]))
      refine (roomFor_any _ l a _ (HS.out.ext HJ2.out.2.2.2) ha (by omega)).mono ?_
      rintro e w3 ⟨rfl, he⟩
      have HJ3 := Lib.hid (HJ2.out.ext he)
      have q3 : w3.cell? ⟨w.heap.size, 0, none⟩ = some (.slice A0 l.length c0) := HJ3.out.1.cell 0 _ rfl
      have r3 : w3.cell? ⟨w.heap.size + 1 + 1, 0, none⟩ = some (.slice none 0 0) := HJ3.out.2.2.1.cell 0 _ rfl
      have p3 : w3.frozen? ⟨w.heap.size + 1 + 1, 0, none⟩ = false := HJ3.out.2.2.1.frozen 0
      clear he HJ2 q2 r2 p2
      cases hrb : roomB l a with
      | true =>
       have HF := Lib.hid (show moveS l f a n = putS (putS l f (spendA l f n)).1 a (gainA (putS l f (spendA l f n)).1 a n) by rw [HDEF.out]; simp [ef0, ea, ef, hrb])
       clear HDEF ef hnz en hrb
       go_upto_region 9 with fail
       have HPT := Lib.hid (fun W g (h : Ext w W) (hw : Wd W g 31 n) => spendsPut_any (.slice A0 l.length c0) l f n g W (HS.out.ext h) hf (by omega) HSZ.out hn hw)
       have HLR := Lib.hid (putS_len l f (spendA l f n))
       have HSR := Lib.hid (show ∀ q ∈ (putS l f (spendA l f n)).1, q.code.length ≤ 1000000000 ∧ q.store.length ≤ 1000000000 from fun q hq => by
        rcases putS_mem hq with h | h
        ·exact HSZ.out q h
        ·rw [h]; exact spendA_sz HSZ.out f n)
       obtain ⟨r, hr⟩ : ∃ r, putS l f (spendA l f n) = r := ⟨_, rfl⟩
       rw [hr] at HF HPT HLR HSR
       clear hr
       refine wp_named fun a0 ha0 => ?_
       obtain ⟨fr, hfr⟩ : ∃ fr : (Nat → Value) → Act, ∀ V, fr V = ((((((((((a0.put (some 44) (V 0)).put (some 45) (V 1)).put (some 46) (V 2)).put (some 47) (V 3)).put (some 48) (V 4)).put (some 43) (V 5)).put (some 49) (V 6)).put (some 50) (V 7)).put (some 10) (V 8)).put (some 11) (V 10)) := ⟨_, fun _ => rfl⟩
       rw [ha0] at hfr
       simp only [Act.put, List.setIfInBounds_toArray, List.set_cons_zero, List.set_cons_succ] at hfr
       have HFR := Lib.hid hfr
       clear hfr
       refine wp_region_inv (by kernel_rfl) (by kernel_rfl) (fun L A W => ∃ V : Nat → Value, A = fr V ∧ Vals (fun j => ([some (.agg #[.slice A0 l.length c0]), some (.int .u64 (f : Nat)), some (wv n), none, none, none, none, some (.int .i64 r.2), none, none, some (.int .i64 r.2)] : List (Option Value)).getD j none) L V ∧ (L 9 = false → MnB w w (w.heap.size) (w.heap.size + 1) (w.heap.size + 1 + 1) (.slice A0 l.length c0) n W) ∧ (L 9 = true → MvK w (w.heap.size) (w.heap.size + 1) (w.heap.size + 1 + 1) (.slice A0 l.length c0) n r W (V 8)) ∧ (L 9 = false → L 3 = true → FnP 124 n W (V 3)) ∧ (L 9 = false → L 4 = true → PuR w.heap.size r W (V 4)) ∧ (L 5 = true → ((V 5) = (V 4) ∧ SpT r (V 5))) ∧ (L 9 = false → L 6 = true → StV w.heap.size r W (V 6)) ∧ (L 9 = false → L 8 = true → NwS w W (V 8))) ?_ ⟨?_, ?_, ?_, ?_, ?_, ?_, ?_, ?_, ?_, ?_, ?_, trivial⟩ ?_
       ·refine ⟨fun j => a0.tmps.getD (([44, 45, 46, 47, 48, 43, 49, 50, 10, 0, 11] : List Nat).getD j 0) undef, ?_, Vals.no _ _ _ (far_none _ _ rfl), fun _ => ⟨HJ3.out.ext (Ext.refl _).drew, (HJ3.out.2.2.2.trans (Ext.refl _).drew)⟩, fun h0 => absurd h0 (by decide), fun h0 h1 => absurd h1 (by decide), fun h0 h1 => absurd h1 (by decide), fun h0 => absurd h0 (by decide), fun h0 h1 => absurd h1 (by decide), fun h0 h1 => absurd h1 (by decide)⟩
        rw [HFR.out, ha0]
        rfl
       all_goals clear ha0
       ·rintro L A W K hL hC hW ⟨V, rfl, HV, s0, s1, f3, f4, f5, f6, f8⟩ hK
        have hB := s0 (hC.no (hC.no (hC.no (hC.no hL 4 _ rfl rfl) 5 _ rfl rfl) 6 _ rfl rfl) 9 _ rfl rfl)
        have H := Lib.hid (show ∀ W', Ext W W' → K (fr (upd V 0 (.agg #[.slice A0 l.length c0]))) W' from fun W' he => hK _ _ ⟨_, rfl, HV.us 0 _ rfl, fun h0 => MnB.ext (s0 (mnf h0 rfl)) he, fun h0 => MvK.ext (s1 (more_ne h0 rfl)) he, fun h0 h1 => FnP.ext (f3 (mnf h0 rfl) (more_ne h1 rfl)) he, fun h0 h1 => PuR.ext (f4 (mnf h0 rfl) (more_ne h1 rfl)) he, fun h0 => keepP (f5 (more_ne h0 rfl)) he, fun h0 h1 => StV.ext (f6 (mnf h0 rfl) (more_ne h1 rfl)) he, fun h0 h1 => NwS.ext (f8 (mnf h0 rfl) (more_ne h1 rfl)) he⟩)
        clear hK hC hW hL HV s0 s1 f3 f4 f5 f6 f8
        rw [HFR.out]
        have hcl : W.cell? ⟨w.heap.size, 0, none⟩ = some (.slice A0 l.length c0) := hB.1.1.cell 0 _ rfl
        clear hB
        go_wp2_with fail
        show K _ _; have := H.out _ (Ext.refl _); rw [HFR.out] at this
        exact this
       ·rintro L A W K hL hC hW ⟨V, rfl, HV, s0, s1, f3, f4, f5, f6, f8⟩ hK
        have H := Lib.hid (show ∀ W', Ext W W' → K (fr (upd V 1 (.int .u64 (f : Nat)))) W' from fun W' he => hK _ _ ⟨_, rfl, HV.us 1 _ rfl, fun h0 => MnB.ext (s0 (mnf h0 rfl)) he, fun h0 => MvK.ext (s1 (more_ne h0 rfl)) he, fun h0 h1 => FnP.ext (f3 (mnf h0 rfl) (more_ne h1 rfl)) he, fun h0 h1 => PuR.ext (f4 (mnf h0 rfl) (more_ne h1 rfl)) he, fun h0 => keepP (f5 (more_ne h0 rfl)) he, fun h0 h1 => StV.ext (f6 (mnf h0 rfl) (more_ne h1 rfl)) he, fun h0 h1 => NwS.ext (f8 (mnf h0 rfl) (more_ne h1 rfl)) he⟩)
        clear hK hC hW hL HV s0 s1 f3 f4 f5 f6 f8
        rw [HFR.out]
        go_wp2_with fail
        show K _ _; have := H.out _ (Ext.refl _); rw [HFR.out] at this
        exact this
       ·rintro L A W K hL hC hW ⟨V, rfl, HV, s0, s1, f3, f4, f5, f6, f8⟩ hK
        have hB := s0 (hC.no (hC.no (hC.no (hC.no (hC.no hL 3 _ rfl rfl) 4 _ rfl rfl) 5 _ rfl rfl) 6 _ rfl rfl) 9 _ rfl rfl)
        have H := Lib.hid (show ∀ W', Ext W W' → K (fr (upd V 2 (wv n))) W' from fun W' he => hK _ _ ⟨_, rfl, HV.us 2 _ rfl, fun h0 => MnB.ext (s0 (mnf h0 rfl)) he, fun h0 => MvK.ext (s1 (more_ne h0 rfl)) he, fun h0 h1 => FnP.ext (f3 (mnf h0 rfl) (more_ne h1 rfl)) he, fun h0 h1 => PuR.ext (f4 (mnf h0 rfl) (more_ne h1 rfl)) he, fun h0 => keepP (f5 (more_ne h0 rfl)) he, fun h0 h1 => StV.ext (f6 (mnf h0 rfl) (more_ne h1 rfl)) he, fun h0 h1 => NwS.ext (f8 (mnf h0 rfl) (more_ne h1 rfl)) he⟩)
        clear hK hC hW hL HV s0 s1 f3 f4 f5 f6 f8
        rw [HFR.out]
        have HWD := Lib.hid hB.1.2.1
        clear hB
        refine wpList_load_word rfl 31 28 (.tmp 7) rfl Try.underlying31 winfo (w.heap.size + 1) n rfl HWD.out ?_
        show K _ _; have := H.out _ (Ext.refl _); rw [HFR.out] at this
        exact this
       ·rintro L A W K hL hC hW ⟨V, rfl, HV, s0, s1, f3, f4, f5, f6, f8⟩ hK
        have e2 := HV 2 _ rfl (hW 2 rfl)
        have hB := s0 (hC.no (hC.no (hC.no (hC.no hL 4 _ rfl rfl) 5 _ rfl rfl) 6 _ rfl rfl) 9 _ rfl rfl)
        have H := Lib.hid (show ∀ v W', Ext W W' → (FnP 124 n W' v) → K (fr (upd V 3 v)) W' from fun v W' he hp => hK _ _ ⟨_, rfl, HV.un 3 _ rfl, fun h0 => MnB.ext (s0 (mnf h0 rfl)) he, fun h0 => MvK.ext (s1 (more_ne h0 rfl)) he, fun h0 h1 => hp, fun h0 h1 => PuR.ext (f4 (mnf h0 rfl) (more_ne h1 rfl)) he, fun h0 => keepP (f5 (more_ne h0 rfl)) he, fun h0 h1 => StV.ext (f6 (mnf h0 rfl) (more_ne h1 rfl)) he, fun h0 h1 => NwS.ext (f8 (mnf h0 rfl) (more_ne h1 rfl)) he⟩)
        have HU := Lib.hid (show ∀ v, (upd V 3 v) 2 = wv n from fun v => e2)
        clear hK hC hW hL HV s0 s1 f3 f4 f5 f6 f8
        rw [HFR.out, e2]
        clear e2
        clear hB
        go_wp2_with fail
        refine (spends_any n _).mono ?_
        rintro e wx ⟨rfl, hw, he⟩
        have := H.out _ _ he (⟨_, rfl, hw⟩)
        clear H
        go_wp2_with fail
        show K _ _
        rw [HFR.out] at this
        obtain u2 := HU.out _
        rw [u2] at this
        exact this
       ·rintro L A W K hL hC hW ⟨V, rfl, HV, s0, s1, f3, f4, f5, f6, f8⟩ hK
        have e0 := HV 0 _ rfl (hW 0 rfl)
        have e1 := HV 1 _ rfl (hW 1 rfl)
        have hB := s0 (hC.no (hC.no (hC.no hL 5 _ rfl rfl) 6 _ rfl rfl) 9 _ rfl rfl)
        have q3 := f3 (hC.no (hC.no (hC.no hL 5 _ rfl rfl) 6 _ rfl rfl) 9 _ rfl rfl) (hW 3 rfl)
        obtain ⟨g3, e3, k3⟩ := q3
        have H := Lib.hid (show ∀ v W', Ext W W' → (PuR w.heap.size r W' v) → K (fr (upd V 4 v)) W' from fun v W' he hp => hK _ _ ⟨_, rfl, HV.un 4 _ rfl, fun h0 => MnB.ext (s0 (mnf h0 rfl)) he, fun h0 => MvK.ext (s1 (more_ne h0 rfl)) he, fun h0 h1 => FnP.ext (f3 (mnf h0 rfl) (more_ne h1 rfl)) he, fun h0 h1 => hp, fun h0 => mtf (hC.no hL 5 _ rfl rfl) (more_ne h0 rfl), fun h0 h1 => StV.ext (f6 (mnf h0 rfl) (more_ne h1 rfl)) he, fun h0 h1 => NwS.ext (f8 (mnf h0 rfl) (more_ne h1 rfl)) he⟩)
        have HU := Lib.hid (show ∀ v, (upd V 4 v) 0 = .agg #[.slice A0 l.length c0] ∧ (upd V 4 v) 1 = .int .u64 (f : Nat) ∧ (upd V 4 v) 3 = .func (.func 124) #[] #[.pointer (some ⟨g3, 0, none⟩)] from fun v => ⟨e0, e1, e3⟩)
        clear hK hC hW hL HV s0 s1 f3 f4 f5 f6 f8
        rw [HFR.out, e0, e1, e3]
        clear e0 e1 e3
        have HB := Lib.hid hB
        clear hB
        go_wp2_with fail
        refine (HPT.out _ g3 HB.out.2 k3).mono ?_
        rintro e wx ⟨v', rfl, hr, he⟩
        have := H.out _ _ he (PuR.new (hr.low HB.out.1.2.2.2.size))
        clear H
        go_wp2_with fail
        show K _ _
        rw [HFR.out] at this
        obtain ⟨u0, u1, u3⟩ := HU.out _
        rw [u0, u1, u3] at this
        exact this
       ·rintro L A W K hL hC hW ⟨V, rfl, HV, s0, s1, f3, f4, f5, f6, f8⟩ hK
        have q4 := f4 (hC.no (hC.no hL 6 _ rfl rfl) 9 _ rfl rfl) (hW 4 rfl)
        obtain ⟨A4, c4, e4, k4⟩ := q4
        have H := Lib.hid (show ∀ v W', Ext W W' → ((v = (V 4) ∧ SpT r v)) → K (fr (upd V 5 v)) W' from fun v W' he hp => hK _ _ ⟨_, rfl, HV.un 5 _ rfl, fun h0 => MnB.ext (s0 (mnf h0 rfl)) he, fun h0 => MvK.ext (s1 (more_ne h0 rfl)) he, fun h0 h1 => FnP.ext (f3 (mnf h0 rfl) (more_ne h1 rfl)) he, fun h0 h1 => PuR.ext (f4 (mnf h0 rfl) (more_ne h1 rfl)) he, fun h0 => hp, fun h0 h1 => StV.ext (f6 (mnf h0 rfl) (more_ne h1 rfl)) he, fun h0 h1 => NwS.ext (f8 (mnf h0 rfl) (more_ne h1 rfl)) he⟩)
        have HU := Lib.hid (show ∀ v, (upd V 5 v) 4 = .tuple #[.agg #[.slice A4 r.1.length c4], .int .i64 r.2] from fun v => e4)
        clear hK hC hW hL HV s0 s1 f3 f4 f5 f6 f8
        rw [HFR.out, e4]
        clear e4
        go_wp2_with fail
        show K _ _; have := H.out (.tuple #[.agg #[.slice A4 r.1.length c4], .int .i64 r.2]) _ (Ext.refl _) (⟨(HU.out undef).symm, _, rfl⟩); rw [HFR.out] at this
        obtain u4 := HU.out _
        rw [u4] at this
        exact this
       ·rintro L A W K hL hC hW ⟨V, rfl, HV, s0, s1, f3, f4, f5, f6, f8⟩ hK
        have q4 := f4 (hC.no hL 9 _ rfl rfl) (hC 5 _ rfl (hW 5 rfl) 4 rfl)
        have q5 := f5 (hW 5 rfl)
        obtain ⟨x5, e5⟩ := q5.2
        have H := Lib.hid (show ∀ v W', Ext W W' → (StV w.heap.size r W' v) → K (fr (upd V 6 v)) W' from fun v W' he hp => hK _ _ ⟨_, rfl, HV.un 6 _ rfl, fun h0 => MnB.ext (s0 (mnf h0 rfl)) he, fun h0 => MvK.ext (s1 (more_ne h0 rfl)) he, fun h0 h1 => FnP.ext (f3 (mnf h0 rfl) (more_ne h1 rfl)) he, fun h0 h1 => PuR.ext (f4 (mnf h0 rfl) (more_ne h1 rfl)) he, fun h0 => keepP (f5 (more_ne h0 rfl)) he, fun h0 h1 => hp, fun h0 h1 => NwS.ext (f8 (mnf h0 rfl) (more_ne h1 rfl)) he⟩)
        have HU := Lib.hid (show ∀ v, (upd V 6 v) 5 = .tuple #[x5, .int .i64 r.2] from fun v => e5)
        clear hK hC hW hL HV s0 s1 f3 f4 f5 f6 f8
        rw [HFR.out, e5]
        clear e5
        go_wp2_with fail
        show K _ _; have := H.out (x5) _ (Ext.refl _) (StV.of q5.1 (HU.out undef) q4); rw [HFR.out] at this
        obtain u5 := HU.out _
        rw [u5] at this
        exact this
       ·rintro L A W K hL hC hW ⟨V, rfl, HV, s0, s1, f3, f4, f5, f6, f8⟩ hK
        have q5 := f5 (hW 5 rfl)
        obtain ⟨x5, e5⟩ := q5.2
        have H := Lib.hid (show ∀ W', Ext W W' → K (fr (upd V 7 (.int .i64 r.2))) W' from fun W' he => hK _ _ ⟨_, rfl, HV.us 7 _ rfl, fun h0 => MnB.ext (s0 (mnf h0 rfl)) he, fun h0 => MvK.ext (s1 (more_ne h0 rfl)) he, fun h0 h1 => FnP.ext (f3 (mnf h0 rfl) (more_ne h1 rfl)) he, fun h0 h1 => PuR.ext (f4 (mnf h0 rfl) (more_ne h1 rfl)) he, fun h0 => keepP (f5 (more_ne h0 rfl)) he, fun h0 h1 => StV.ext (f6 (mnf h0 rfl) (more_ne h1 rfl)) he, fun h0 h1 => NwS.ext (f8 (mnf h0 rfl) (more_ne h1 rfl)) he⟩)
        have HU := Lib.hid (show (upd V 7 (.int .i64 r.2)) 5 = .tuple #[x5, .int .i64 r.2] from e5)
        clear hK hC hW hL HV s0 s1 f3 f4 f5 f6 f8
        rw [HFR.out, e5]
        clear e5
        go_wp2_with fail
        show K _ _; have := H.out _ (Ext.refl _); rw [HFR.out] at this
        obtain u5 := HU.out
        rw [u5] at this
        exact this
       ·rintro L A W K hL hC hW ⟨V, rfl, HV, s0, s1, f3, f4, f5, f6, f8⟩ hK
        have hB := s0 (hC.no hL 9 _ rfl rfl)
        have H := Lib.hid (show ∀ v W', Ext W W' → (NwS w W' v) → K (fr (upd V 8 v)) W' from fun v W' he hp => hK _ _ ⟨_, rfl, HV.un 8 _ rfl, fun h0 => MnB.ext (s0 (mnf h0 rfl)) he, fun h0 => mtf (hC.no hL 9 _ rfl rfl) (more_ne h0 rfl), fun h0 h1 => FnP.ext (f3 (mnf h0 rfl) (more_ne h1 rfl)) he, fun h0 h1 => PuR.ext (f4 (mnf h0 rfl) (more_ne h1 rfl)) he, fun h0 => keepP (f5 (more_ne h0 rfl)) he, fun h0 h1 => StV.ext (f6 (mnf h0 rfl) (more_ne h1 rfl)) he, fun h0 h1 => hp⟩)
        clear hK hC hW hL HV s0 s1 f3 f4 f5 f6 f8
        rw [HFR.out]
        have HB := Lib.hid hB
        clear hB
        go_wp2_with fail
        show K _ _; have := H.out (.pointer (some ⟨W.heap.size, 0, none⟩)) _ ((Ext.refl W).alloc (.cells #[.slice none 0 0] 24)) (⟨_, rfl, Cs.new _ _ _ _ rfl, Cs.lt HB.out.1.2.2.1⟩); rw [HFR.out] at this
        exact this
       ·rintro L A W K hL hC hW ⟨V, rfl, HV, s0, s1, f3, f4, f5, f6, f8⟩ hK
        have hB := s0 hL
        have q8 := f8 hL (hW 8 rfl)
        obtain ⟨g8, e8, k8, z8⟩ := q8
        have q6 := f6 hL (hW 6 rfl)
        obtain ⟨A6, c6, e6, k6⟩ := q6
        have H := Lib.hid (show ∀ W', (MvK w (w.heap.size) (w.heap.size + 1) (w.heap.size + 1 + 1) (.slice A0 l.length c0) n r W' (V 8)) → K (fr (V)) W' from fun W' hA => hK _ _ ⟨V, rfl, HV.st 9 rfl, fun h0 => msf h0, fun h0 => hA, fun h0 h1 => msf h0, fun h0 h1 => msf h0, fun h0 => (f5 (more_ne h0 rfl)), fun h0 h1 => msf h0, fun h0 h1 => msf h0⟩)
        have HU := Lib.hid (show (V) 8 = .pointer (some ⟨g8, 0, none⟩) ∧ (V) 6 = .agg #[.slice A6 r.1.length c6] from ⟨e8, e6⟩)
        clear hK hC hW hL HV s0 s1 f3 f4 f5 f6 f8
        rw [HFR.out, e8, e6]
        clear e8 e6
        have HB := Lib.hid hB
        have K1 := Lib.hid k8
        have K2 := Lib.hid k6
        have Z1 := Lib.hid z8
        have hc : W.cell? ⟨g8, 0, none⟩ = some (.slice none 0 0) := k8.cell 0 _ rfl
        have hf : W.frozen? ⟨g8, 0, none⟩ = false := k8.frozen 0
        clear hB k8 k6 z8
        go_wp2_with fail
        have HA := Lib.hid (show MvK w (w.heap.size) (w.heap.size + 1) (w.heap.size + 1 + 1) (.slice A0 l.length c0) n r (W.setCell ⟨g8, 0, none⟩ (.slice A6 r.1.length c6)) (V 8) from by rw [HU.out.1]; have hz := Z1.out; exact HB.out.1.lay (by omega) (by omega) (by omega) (by omega) K1.out K2.out)
        show K _ _; have := H.out _ HA.out; rw [HFR.out] at this
        obtain ⟨u8, u6⟩ := HU.out
        rw [u8, u6] at this
        exact this
       ·rintro L A W K hL hC hW ⟨V, rfl, HV, s0, s1, f3, f4, f5, f6, f8⟩ hK
        have e7 := HV 7 _ rfl (hW 7 rfl)
        have H := Lib.hid (show ∀ W', Ext W W' → K (fr (upd V 10 (.int .i64 r.2))) W' from fun W' he => hK _ _ ⟨_, rfl, HV.us 10 _ rfl, fun h0 => MnB.ext (s0 (mnf h0 rfl)) he, fun h0 => MvK.ext (s1 (more_ne h0 rfl)) he, fun h0 h1 => FnP.ext (f3 (mnf h0 rfl) (more_ne h1 rfl)) he, fun h0 h1 => PuR.ext (f4 (mnf h0 rfl) (more_ne h1 rfl)) he, fun h0 => keepP (f5 (more_ne h0 rfl)) he, fun h0 h1 => StV.ext (f6 (mnf h0 rfl) (more_ne h1 rfl)) he, fun h0 h1 => NwS.ext (f8 (mnf h0 rfl) (more_ne h1 rfl)) he⟩)
        have HU := Lib.hid (show (upd V 10 (.int .i64 r.2)) 7 = .int .i64 r.2 from e7)
        clear hK hC hW hL HV s0 s1 f3 f4 f5 f6 f8
        rw [HFR.out, e7]
        clear e7
        go_wp2_with fail
        show K _ _; have := H.out _ (Ext.refl _); rw [HFR.out] at this
        obtain u7 := HU.out
        rw [u7] at this
        exact this
       ·rintro L A W hL ⟨V, rfl, HV, s0, s1, f3, f4, f5, f6, f8⟩
        have e0 := HV 0 _ rfl (hL 0 (by simp))
        have e1 := HV 1 _ rfl (hL 1 (by simp))
        have e2 := HV 2 _ rfl (hL 2 (by simp))
        have e7 := HV 7 _ rfl (hL 7 (by simp))
        have e10 := HV 10 _ rfl (hL 10 (by simp))
        have hA := s1 (hL 9 (by simp))
        have p43 := f5 (hL 5 (by simp))
        rw [HFR.out, e0, e1, e2, e7, e10]
        clear hL HV HFR e0 e1 e2 e7 e10 s0 s1 f3 f4 f5 f6 f8
        clear p43
        obtain ⟨hJ4, g10, A4, c4, hv4, h4a, h4b⟩ := hA
        have HJ4 := Lib.hid hJ4
        have HB4 := Lib.hid h4a
        have HR4 := Lib.hid h4b
        clear HPT hJ4 h4a h4b
        obtain ⟨wA, rfl⟩ : ∃ wA, wA = W := ⟨_, rfl⟩
        rw [hv4]
        have HPT := Lib.hid (fun W g (h : Ext wA W) (hw : Wd W g 31 n) => gainsPut_any (.slice A4 r.1.length c4) r.1 a n g W (HR4.out.acs.ext h) ha (by have := HLR.out; omega) HSR.out hn hw)
        have HJ5 := Lib.hid (show MnB w wA g10 (w.heap.size + 1) (w.heap.size + 1 + 1) (.slice A4 r.1.length c4) n wA from ⟨⟨HB4.out, HJ4.out.2.1, HJ4.out.2.2.1, HJ4.out.2.2.2⟩, Ext.refl _⟩)
        clear HJ4 HB4 HLR HSR hv4
        generalize r.1.length = r1l at *
        generalize putS r.1 a (gainA r.1 a n) = r at *
        go_upto_region 10 with fail
        refine wp_named fun a0 ha0 => ?_
        obtain ⟨fr, hfr⟩ : ∃ fr : (Nat → Value) → Act, ∀ V, fr V = ((((((((a0.put (some 51) (V 0)).put (some 52) (V 1)).put (some 53) (V 2)).put (some 54) (V 3)).put (some 55) (V 4)).put (some 56) (V 5)).put (some 57) (V 6)).put (some 9) (V 8)) := ⟨_, fun _ => rfl⟩
        rw [ha0] at hfr
        simp only [Act.put, List.setIfInBounds_toArray, List.set_cons_zero, List.set_cons_succ] at hfr
        have HFR := Lib.hid hfr
        clear hfr
        refine wp_region_inv (by kernel_rfl) (by kernel_rfl) (fun L A W => ∃ V : Nat → Value, A = fr V ∧ Vals (fun j => ([some (.agg #[.slice A4 r1l c4]), some (.int .u64 (a : Nat)), some (wv n), none, none, none, some (.int .i64 r.2), none, some (.int .i64 r.2)] : List (Option Value)).getD j none) L V ∧ (L 7 = false → MnB w wA (g10) (w.heap.size + 1) (w.heap.size + 1 + 1) (.slice A4 r1l c4) n W) ∧ (L 7 = true → MnE w (w.heap.size + 1 + 1) r W) ∧ (L 7 = false → L 3 = true → FnP 122 n W (V 3)) ∧ (L 7 = false → L 4 = true → PuR w.heap.size r W (V 4)) ∧ (L 7 = false → L 5 = true → StV w.heap.size r W (V 5))) ?_ ⟨?_, ?_, ?_, ?_, ?_, ?_, ?_, ?_, ?_, trivial⟩ ?_
        ·refine ⟨fun j => a0.tmps.getD (([51, 52, 53, 54, 55, 56, 57, 0, 9] : List Nat).getD j 0) undef, ?_, Vals.no _ _ _ (far_none _ _ rfl), fun _ => HJ5.out.ext (Ext.refl _).drew, fun h0 => absurd h0 (by decide), fun h0 h1 => absurd h1 (by decide), fun h0 h1 => absurd h1 (by decide), fun h0 h1 => absurd h1 (by decide)⟩
         rw [HFR.out, ha0]
         rfl
        all_goals clear ha0
        ·rintro L A W K hL hC hW ⟨V, rfl, HV, s0, s1, f3, f4, f5⟩ hK
         have hB := s0 (hC.no (hC.no (hC.no hL 4 _ rfl rfl) 5 _ rfl rfl) 7 _ rfl rfl)
         have H := Lib.hid (show ∀ W', Ext W W' → K (fr (upd V 0 (.agg #[.slice A4 r1l c4]))) W' from fun W' he => hK _ _ ⟨_, rfl, HV.us 0 _ rfl, fun h0 => MnB.ext (s0 (mnf h0 rfl)) he, fun h0 => MnE.ext (s1 (more_ne h0 rfl)) he, fun h0 h1 => FnP.ext (f3 (mnf h0 rfl) (more_ne h1 rfl)) he, fun h0 h1 => PuR.ext (f4 (mnf h0 rfl) (more_ne h1 rfl)) he, fun h0 h1 => StV.ext (f5 (mnf h0 rfl) (more_ne h1 rfl)) he⟩)
         clear hK hC hW hL HV s0 s1 f3 f4 f5
         rw [HFR.out]
         have hcl : W.cell? ⟨g10, 0, none⟩ = some (.slice A4 r1l c4) := hB.1.1.cell 0 _ rfl
         clear hB
         go_wp2_with fail
         show K _ _; have := H.out _ (Ext.refl _); rw [HFR.out] at this
         exact this
        ·rintro L A W K hL hC hW ⟨V, rfl, HV, s0, s1, f3, f4, f5⟩ hK
         have H := Lib.hid (show ∀ W', Ext W W' → K (fr (upd V 1 (.int .u64 (a : Nat)))) W' from fun W' he => hK _ _ ⟨_, rfl, HV.us 1 _ rfl, fun h0 => MnB.ext (s0 (mnf h0 rfl)) he, fun h0 => MnE.ext (s1 (more_ne h0 rfl)) he, fun h0 h1 => FnP.ext (f3 (mnf h0 rfl) (more_ne h1 rfl)) he, fun h0 h1 => PuR.ext (f4 (mnf h0 rfl) (more_ne h1 rfl)) he, fun h0 h1 => StV.ext (f5 (mnf h0 rfl) (more_ne h1 rfl)) he⟩)
         clear hK hC hW hL HV s0 s1 f3 f4 f5
         rw [HFR.out]
         go_wp2_with fail
         show K _ _; have := H.out _ (Ext.refl _); rw [HFR.out] at this
         exact this
        ·rintro L A W K hL hC hW ⟨V, rfl, HV, s0, s1, f3, f4, f5⟩ hK
         have hB := s0 (hC.no (hC.no (hC.no (hC.no hL 3 _ rfl rfl) 4 _ rfl rfl) 5 _ rfl rfl) 7 _ rfl rfl)
         have H := Lib.hid (show ∀ W', Ext W W' → K (fr (upd V 2 (wv n))) W' from fun W' he => hK _ _ ⟨_, rfl, HV.us 2 _ rfl, fun h0 => MnB.ext (s0 (mnf h0 rfl)) he, fun h0 => MnE.ext (s1 (more_ne h0 rfl)) he, fun h0 h1 => FnP.ext (f3 (mnf h0 rfl) (more_ne h1 rfl)) he, fun h0 h1 => PuR.ext (f4 (mnf h0 rfl) (more_ne h1 rfl)) he, fun h0 h1 => StV.ext (f5 (mnf h0 rfl) (more_ne h1 rfl)) he⟩)
         clear hK hC hW hL HV s0 s1 f3 f4 f5
         rw [HFR.out]
         have HWD := Lib.hid hB.1.2.1
         clear hB
         refine wpList_load_word rfl 31 28 (.tmp 7) rfl Try.underlying31 winfo (w.heap.size + 1) n rfl HWD.out ?_
         show K _ _; have := H.out _ (Ext.refl _); rw [HFR.out] at this
         exact this
        ·rintro L A W K hL hC hW ⟨V, rfl, HV, s0, s1, f3, f4, f5⟩ hK
         have e2 := HV 2 _ rfl (hW 2 rfl)
         have hB := s0 (hC.no (hC.no (hC.no hL 4 _ rfl rfl) 5 _ rfl rfl) 7 _ rfl rfl)
         have H := Lib.hid (show ∀ v W', Ext W W' → (FnP 122 n W' v) → K (fr (upd V 3 v)) W' from fun v W' he hp => hK _ _ ⟨_, rfl, HV.un 3 _ rfl, fun h0 => MnB.ext (s0 (mnf h0 rfl)) he, fun h0 => MnE.ext (s1 (more_ne h0 rfl)) he, fun h0 h1 => hp, fun h0 h1 => PuR.ext (f4 (mnf h0 rfl) (more_ne h1 rfl)) he, fun h0 h1 => StV.ext (f5 (mnf h0 rfl) (more_ne h1 rfl)) he⟩)
         have HU := Lib.hid (show ∀ v, (upd V 3 v) 2 = wv n from fun v => e2)
         clear hK hC hW hL HV s0 s1 f3 f4 f5
         rw [HFR.out, e2]
         clear e2
         clear hB
         go_wp2_with fail
         refine (gains_any n _).mono ?_
         rintro e wx ⟨rfl, hw, he⟩
         have := H.out _ _ he (⟨_, rfl, hw⟩)
         clear H
         go_wp2_with fail
         show K _ _
         rw [HFR.out] at this
         obtain u2 := HU.out _
         rw [u2] at this
         exact this
        ·rintro L A W K hL hC hW ⟨V, rfl, HV, s0, s1, f3, f4, f5⟩ hK
         have e0 := HV 0 _ rfl (hW 0 rfl)
         have e1 := HV 1 _ rfl (hW 1 rfl)
         have hB := s0 (hC.no (hC.no hL 5 _ rfl rfl) 7 _ rfl rfl)
         have q3 := f3 (hC.no (hC.no hL 5 _ rfl rfl) 7 _ rfl rfl) (hW 3 rfl)
         obtain ⟨g3, e3, k3⟩ := q3
         have H := Lib.hid (show ∀ v W', Ext W W' → (PuR w.heap.size r W' v) → K (fr (upd V 4 v)) W' from fun v W' he hp => hK _ _ ⟨_, rfl, HV.un 4 _ rfl, fun h0 => MnB.ext (s0 (mnf h0 rfl)) he, fun h0 => MnE.ext (s1 (more_ne h0 rfl)) he, fun h0 h1 => FnP.ext (f3 (mnf h0 rfl) (more_ne h1 rfl)) he, fun h0 h1 => hp, fun h0 h1 => StV.ext (f5 (mnf h0 rfl) (more_ne h1 rfl)) he⟩)
         have HU := Lib.hid (show ∀ v, (upd V 4 v) 0 = .agg #[.slice A4 r1l c4] ∧ (upd V 4 v) 1 = .int .u64 (a : Nat) ∧ (upd V 4 v) 3 = .func (.func 122) #[] #[.pointer (some ⟨g3, 0, none⟩)] from fun v => ⟨e0, e1, e3⟩)
         clear hK hC hW hL HV s0 s1 f3 f4 f5
         rw [HFR.out, e0, e1, e3]
         clear e0 e1 e3
         have HB := Lib.hid hB
         clear hB
         go_wp2_with fail
         refine (HPT.out _ g3 HB.out.2 k3).mono ?_
         rintro e wx ⟨v', rfl, hr, he⟩
         have := H.out _ _ he (PuR.new (hr.low HB.out.1.2.2.2.size))
         clear H
         go_wp2_with fail
         show K _ _
         rw [HFR.out] at this
         obtain ⟨u0, u1, u3⟩ := HU.out _
         rw [u0, u1, u3] at this
         exact this
        ·rintro L A W K hL hC hW ⟨V, rfl, HV, s0, s1, f3, f4, f5⟩ hK
         have q4 := f4 (hC.no hL 7 _ rfl rfl) (hW 4 rfl)
         obtain ⟨A4, c4, e4, k4⟩ := q4
         have H := Lib.hid (show ∀ v W', Ext W W' → (StV w.heap.size r W' v) → K (fr (upd V 5 v)) W' from fun v W' he hp => hK _ _ ⟨_, rfl, HV.un 5 _ rfl, fun h0 => MnB.ext (s0 (mnf h0 rfl)) he, fun h0 => MnE.ext (s1 (more_ne h0 rfl)) he, fun h0 h1 => FnP.ext (f3 (mnf h0 rfl) (more_ne h1 rfl)) he, fun h0 h1 => PuR.ext (f4 (mnf h0 rfl) (more_ne h1 rfl)) he, fun h0 h1 => hp⟩)
         have HU := Lib.hid (show ∀ v, (upd V 5 v) 4 = .tuple #[.agg #[.slice A4 r.1.length c4], .int .i64 r.2] from fun v => e4)
         clear hK hC hW hL HV s0 s1 f3 f4 f5
         rw [HFR.out, e4]
         clear e4
         go_wp2_with fail
         show K _ _; have := H.out (.agg #[.slice A4 r.1.length c4]) _ (Ext.refl _) (⟨_, _, rfl, k4⟩); rw [HFR.out] at this
         obtain u4 := HU.out _
         rw [u4] at this
         exact this
        ·rintro L A W K hL hC hW ⟨V, rfl, HV, s0, s1, f3, f4, f5⟩ hK
         have q4 := f4 (hC.no hL 7 _ rfl rfl) (hW 4 rfl)
         obtain ⟨A4, c4, e4, k4⟩ := q4
         have H := Lib.hid (show ∀ W', Ext W W' → K (fr (upd V 6 (.int .i64 r.2))) W' from fun W' he => hK _ _ ⟨_, rfl, HV.us 6 _ rfl, fun h0 => MnB.ext (s0 (mnf h0 rfl)) he, fun h0 => MnE.ext (s1 (more_ne h0 rfl)) he, fun h0 h1 => FnP.ext (f3 (mnf h0 rfl) (more_ne h1 rfl)) he, fun h0 h1 => PuR.ext (f4 (mnf h0 rfl) (more_ne h1 rfl)) he, fun h0 h1 => StV.ext (f5 (mnf h0 rfl) (more_ne h1 rfl)) he⟩)
         have HU := Lib.hid (show (upd V 6 (.int .i64 r.2)) 4 = .tuple #[.agg #[.slice A4 r.1.length c4], .int .i64 r.2] from e4)
         clear hK hC hW hL HV s0 s1 f3 f4 f5
         rw [HFR.out, e4]
         clear e4
         go_wp2_with fail
         show K _ _; have := H.out _ (Ext.refl _); rw [HFR.out] at this
         obtain u4 := HU.out
         rw [u4] at this
         exact this
        ·rintro L A W K hL hC hW ⟨V, rfl, HV, s0, s1, f3, f4, f5⟩ hK
         have hB := s0 hL
         have q5 := f5 hL (hW 5 rfl)
         obtain ⟨A5, c5, e5, k5⟩ := q5
         have H := Lib.hid (show ∀ W', (MnE w (w.heap.size + 1 + 1) r W') → K (fr (V)) W' from fun W' hA => hK _ _ ⟨V, rfl, HV.st 7 rfl, fun h0 => msf h0, fun h0 => hA, fun h0 h1 => msf h0, fun h0 h1 => msf h0, fun h0 h1 => msf h0⟩)
         have HU := Lib.hid (show (V) 5 = .agg #[.slice A5 r.1.length c5] from e5)
         clear hK hC hW hL HV s0 s1 f3 f4 f5
         rw [HFR.out, e5]
         clear e5
         have HB := Lib.hid hB
         have KH := Lib.hid k5
         have hc : W.cell? ⟨w.heap.size + 1 + 1, 0, none⟩ = some (.slice none 0 0) := hB.1.2.2.1.cell 0 _ rfl
         have hf : W.frozen? ⟨w.heap.size + 1 + 1, 0, none⟩ = false := hB.1.2.2.1.frozen 0
         clear hB k5
         go_wp2_with fail
         have HA := Lib.hid (HB.out.1.done (r := r) (by omega) KH.out)
         show K _ _; have := H.out _ HA.out; rw [HFR.out] at this
         obtain u5 := HU.out
         rw [u5] at this
         exact this
        ·rintro L A W K hL hC hW ⟨V, rfl, HV, s0, s1, f3, f4, f5⟩ hK
         have e6 := HV 6 _ rfl (hW 6 rfl)
         have H := Lib.hid (show ∀ W', Ext W W' → K (fr (upd V 8 (.int .i64 r.2))) W' from fun W' he => hK _ _ ⟨_, rfl, HV.us 8 _ rfl, fun h0 => MnB.ext (s0 (mnf h0 rfl)) he, fun h0 => MnE.ext (s1 (more_ne h0 rfl)) he, fun h0 h1 => FnP.ext (f3 (mnf h0 rfl) (more_ne h1 rfl)) he, fun h0 h1 => PuR.ext (f4 (mnf h0 rfl) (more_ne h1 rfl)) he, fun h0 h1 => StV.ext (f5 (mnf h0 rfl) (more_ne h1 rfl)) he⟩)
         have HU := Lib.hid (show (upd V 8 (.int .i64 r.2)) 6 = .int .i64 r.2 from e6)
         clear hK hC hW hL HV s0 s1 f3 f4 f5
         rw [HFR.out, e6]
         clear e6
         go_wp2_with fail
         show K _ _; have := H.out _ (Ext.refl _); rw [HFR.out] at this
         obtain u6 := HU.out
         rw [u6] at this
         exact this
        ·rintro L A W hL ⟨V, rfl, HV, s0, s1, f3, f4, f5⟩
         have e0 := HV 0 _ rfl (hL 0 (by simp))
         have e1 := HV 1 _ rfl (hL 1 (by simp))
         have e2 := HV 2 _ rfl (hL 2 (by simp))
         have e6 := HV 6 _ rfl (hL 6 (by simp))
         have e8 := HV 8 _ rfl (hL 8 (by simp))
         have hA := s1 (hL 7 (by simp))
         rw [HFR.out, e0, e1, e2, e6, e8]
         clear hL HV HFR e0 e1 e2 e6 e8 s0 s1 f3 f4 f5
         obtain ⟨A9, c9, h1', h2', h3'⟩ := hA
         have H1 := Lib.hid h1'
         have H2 := Lib.hid h2'
         have H3 := Lib.hid h3'
         clear h1' h2' h3'
         go_wp2_with fail
         refine bodyPost_ret (results_st_err Try.results36 _ _ (w.heap.size + 1 + 1) (.slice A9 r.1.length c9) rfl H1.out) rfl ?_
         exact ⟨_, by rw [HF.out]; rfl, by rw [HF.out]; exact H2.out, H3.out⟩
      | false =>
       have HF := Lib.hid (show moveS l f a n = ([], 6) by rw [HDEF.out]; simp [ef0, ea, ef, hrb, en])
       clear HDEF ef hnz en hrb
       go_wp2_with fail
       refine bodyPost_ret (results_st_err Try.results36 _ _ (w.heap.size + 1 + 1) (.slice none 0 0) rfl (by simpa using Cs.set HJ3.out.2.2.1 0 (.slice none 0 0))) rfl ?_
       exact ⟨_, by rw [HF.out]; rfl, by rw [HF.out]; exact RwA.nil _ _ _, HJ3.out.2.2.2.grown (grown_set _ _ _ _) (by omega)⟩
    ·have HF := Lib.hid (show moveS l f a n = ([], 162) by rw [HDEF.out]; simp [ef0, ea, ef])
     rw [decide_eq_false ef]
     clear HDEF ea ef
     go_wp2_with fail
     refine bodyPost_ret (results_st_err Try.results36 _ _ (w.heap.size + 1 + 1) (.slice none 0 0) rfl (by simpa using Cs.set HJ2.out.2.2.1 0 (.slice none 0 0))) rfl ?_
     exact ⟨_, by rw [HF.out]; rfl, by rw [HF.out]; exact RwA.nil _ _ _, HJ2.out.2.2.2.grown (grown_set _ _ _ _) (by omega)⟩
end Go.Proofs.Ytiojfpdjnblkhaa
