/- Package access: New. -/
import Derived.Test.YtjampleddeidaaaAem
import Derived.Test.YtjampleddeidaaaAds
namespace Go.Proofs.Ytjampleddeidaaa
open Go.ChangeShapes Go.WideShapes Go.ChangeAt Go.RowKit Go.Shelf

instance : DecidableEq Ax := fun x y => if h : sameX x y = true then isTrue (sameX_iff.1 h) else isFalse fun e => h (sameX_iff.2 e)
/-- Addresses, put one behind the other into a row that rises. -/
def srX (l : List Pe) : List Pe := l.foldl plX []
set_option maxRecDepth 100000 in
theorem foldl_rise : ∀ (l m : List Pe), RiseX m → RiseX (l.foldl plX m)
  | [], _, h => h
  | p :: l, _, h => foldl_rise l _ (plX_rise h p)
set_option maxRecDepth 100000 in
theorem rise_nil : RiseX [] := fun _ j _ hj => absurd hj (by simp)
set_option maxRecDepth 100000 in
theorem srX_rise (l : List Pe) : RiseX (srX l) := foldl_rise l [] rise_nil
set_option maxRecDepth 100000 in
theorem cod_eq {p q : Pe} (hp : okA p) (hq : okA q) (h : p.cod = q.cod) : p = q := eq_addr hp hq (by
  obtain ⟨h1, _⟩ := cdN_inj (a := p.addr) (k := p.key) (b := q.addr) (j := q.key) (by rw [hp.2.1]; decide) (by rw [hq.2.1]; decide) h
  exact h1)
set_option maxRecDepth 100000 in
theorem mem_plA {l : List Pe} {p q : Pe} (hl : ∀ r ∈ l, okA r) (hp : okA p) : q ∈ plX l p ↔ q = p ∨ q ∈ l := by
  rw [mem_plX]
  refine ⟨fun h => h.elim .inl (fun h => .inr h.1), fun h => h.elim .inl (fun h => ?_)⟩
  by_cases e : q.cod = p.cod
  · exact .inl (cod_eq (hl q h) hp e)
  · exact .inr ⟨h, e⟩
set_option maxRecDepth 100000 in
theorem foldl_mem : ∀ (l m : List Pe), (∀ p ∈ l, okA p) → (∀ p ∈ m, okA p) → ∀ q, q ∈ l.foldl plX m ↔ q ∈ l ∨ q ∈ m
  | [], m, _, _, q => by simp
  | p :: l, m, hl, hm, q => by
    have hp := hl p (List.mem_cons_self ..)
    rw [List.foldl_cons, foldl_mem l _ (fun r hr => hl r (List.mem_cons_of_mem _ hr)) (fun r hr => by
      rcases (mem_plA hm hp).1 hr with rfl | h
      · exact hp
      · exact hm r h), mem_plA hm hp, List.mem_cons]
    constructor
    · rintro (h | h | h)
      · exact .inl (.inr h)
      · exact .inl (.inl h)
      · exact .inr h
    · rintro ((h | h) | h)
      · exact .inr (.inl h)
      · exact .inl h
      · exact .inr (.inr h)
set_option maxRecDepth 100000 in
theorem mem_srX {l : List Pe} (hl : ∀ p ∈ l, okA p) (q : Pe) : q ∈ srX l ↔ q ∈ l := by
  unfold srX
  rw [foldl_mem l [] hl (fun _ h => nomatch h)]
  simp
def adI (p : Pe) : Int := (p.addr : Int)
set_option maxRecDepth 100000 in
theorem fA_az (l : List Pe) : fA l = (l.map adI).map az := by
  unfold fA
  induction l with
  | nil => rfl
  | cons p l ih => rw [List.map_cons, List.map_cons, List.map_cons, List.flatten_cons, ih]; rfl
set_option maxRecDepth 100000 in
theorem cod_adI {p q : Pe} (hp : okA p) (hq : okA q) : p.cod < q.cod ↔ adI p < adI q := by
  have h := cdN_lt (a := p.addr) (k := p.key) (b := q.addr) (j := q.key) (by rw [hp.2.1]; decide) (by rw [hq.2.1]; decide)
  have e1 := hp.2.1
  have e2 := hq.2.1
  unfold adI
  unfold Pe.cod
  rw [h]
  omega
set_option maxRecDepth 100000 in
theorem pairA {l : List Pe} (h : RiseX l) (ho : ∀ p ∈ l, okA p) : (l.map adI).Pairwise (· < ·) := by
  rw [List.pairwise_map]
  exact ((riseX_iff l).1 h).imp_of_mem (fun ha hb hlt => (cod_adI (ho _ ha) (ho _ hb)).1 hlt)
set_option maxRecDepth 100000 in
theorem srX_SR {l : List Pe} (hl : ∀ p ∈ l, okA p) : SR (l.map adI) ((srX l).map adI) :=
  ⟨pairA (srX_rise l) (fun p hp => hl p ((mem_srX hl p).1 hp)), fun x => by
    rw [List.mem_map, List.mem_map]
    exact ⟨fun ⟨p, hp, e⟩ => ⟨p, (mem_srX hl p).1 hp, e⟩, fun ⟨p, hp, e⟩ => ⟨p, (mem_srX hl p).2 hp, e⟩⟩⟩
set_option maxRecDepth 100000 in
theorem XA.az {w : World} {v : Value} {l : List Pe} (h : XA w v l) : Az w v (l.map adI) := by
  have := h.rs
  rw [fA_az] at this
  unfold Az
  rw [List.length_map]
  exact this
set_option maxRecDepth 100000 in
theorem XA.oks2 {w : World} {v : Value} {l : List Pe} (h : XA w v l) : ∀ p ∈ l, okA p := h.oks
set_option maxRecDepth 100000 in
theorem sortedX_any (v : Value) (l : List Pe) (w : World) (hs : XA w v l) (hl : l.length ≤ 1000000) : Calls Try.prog 42 #[v] w fun e w' => ∃ v', e = .returned v' ∧ OwnA w' w.heap.size v' (srX l) ∧ Ext w w' := by
  refine (sorted_any v (l.map adI) w hs.az (by rw [List.length_map]; exact hl)).mono ?_
  rintro e w' ⟨v', r, rfl, hr, ho, he⟩
  have hr2 := hr.unique (srX_SR hs.oks2)
  subst hr2
  refine ⟨v', rfl, ⟨?_, fun p hp => hs.oks2 p ((mem_srX hs.oks2 p).1 hp)⟩, he⟩
  have := ho
  unfold AzO at this
  rw [List.length_map, ← fA_az] at this
  exact this
def newX (l : List Pe) : Ax × Int := if 400 < (srX l).length then (ax0, 6) else (⟨srX l, [], []⟩, 0)
set_option maxRecDepth 100000 in
set_option maxHeartbeats 8000000 in
theorem newX_any (v : Value) (l : List Pe) (w : World) (hs : XA w v l) (hl : l.length ≤ 1000000) : Calls Try.prog 19 #[v] w fun e w' => ∃ v', e = .returned (.tuple #[v', .int .i64 (newX l).2]) ∧ RetX w.heap.size w' v' (newX l).1 ∧ Ext w w' := by
  obtain ⟨w0, hw0⟩ : ∃ w0, w.alloc (.cells #[.slice none 0 0, .slice none 0 0, .slice none 0 0] 26) = w0 := ⟨_, rfl⟩
  have HR0 : Hid (Cs w0 w.heap.size 26 #[.slice none 0 0, .slice none 0 0, .slice none 0 0]) := Lib.hid (by rw [← hw0]; exact Cs.new _ _ _ _ rfl)
  have HE0 : Hid (Ext w w0) := Lib.hid (by rw [← hw0]; exact (Ext.refl w).alloc _)
  have HW0 := Lib.hid hw0
  have HSO := Lib.hid (sortedX_any v l w0 (hs.ext HE0.out) hl)
  have HDF : Hid (newX l = if 400 < (srX l).length then (ax0, 6) else (⟨srX l, [], []⟩, 0)) := Lib.hid rfl
  clear hs hw0
  go_enter Try.func19, Try.ntmps19
  go_upto_region 1 with fail
  rw [HW0.out]
  clear HW0
  go_wp2_with fail
  refine HSO.out.mono ?_
  rintro e w1 ⟨v1, rfl, ho, he⟩
  have HO := Lib.hid ho
  have HR1 := Lib.hid (Cs.ext HR0.out he)
  have HE1 := Lib.hid (HE0.out.trans he)
  obtain ⟨A1, c1, rfl, _, _⟩ := ho.sl
  clear ho he HSO HR0
  generalize srX l = m at *
  by_cases h : 400 < m.length
  · have d1 : decide ((400 : Int) < (m.length : Int)) = true := decide_eq_true (by omega)
    have HF := Lib.hid (show newX l = (ax0, 6) by rw [HDF.out, if_pos h])
    clear h
    go_wp2_with ((with_reducible refine wpList_storeX ?_ ?_ (.tmp 2) (.tmp 10) ?_ w.heap.size (.slice none 0 0) (.slice none 0 0) (.slice none 0 0) (.slice none 0 0) (.slice none 0 0) (.slice none 0 0) ?_ ?_ rfl rfl rfl HR1.out ?_); (exact rfl); (exact rfl); (exact rfl); (exact rfl); (exact rfl); intro w3 k3 g3; have K3 := Lib.hid k3; have G3 := Lib.hid g3; clear k3 g3)
    refine bodyPost_ret (results_ax2 Try.results19 _ _ w.heap.size _ _ _ rfl K3.out) rfl ?_
    rw [HF.out]
    exact ⟨_, rfl, RetX.nil _ _, HE1.out.grown G3.out (Nat.le_refl _)⟩
  · have d1 : decide ((400 : Int) < (m.length : Int)) = false := decide_eq_false (by omega)
    have HF := Lib.hid (show newX l = (⟨m, [], []⟩, 0) by rw [HDF.out, if_neg h])
    have HL := Lib.hid (show m.length ≤ 1000000000 by omega)
    clear h
    go_wp2_with fail
    refine (ownA_any _ m _ HO.out.xs HL.out).mono ?_
    rintro e w2 ⟨v2, rfl, ho, he⟩
    have HO2 := Lib.hid (ho.mono HE1.out.size)
    have HR2 := Lib.hid (Cs.ext HR1.out he)
    have HE2 := Lib.hid (HE1.out.trans he)
    obtain ⟨A2, c2, rfl, _, _⟩ := ho.sl
    clear ho he
    go_wp2_with ((with_reducible refine wpList_storeX ?_ ?_ (.tmp 2) (.tmp 13) ?_ w.heap.size (.slice none 0 0) (.slice none 0 0) (.slice none 0 0) (.slice A2 m.length c2) (.slice none 0 0) (.slice none 0 0) ?_ ?_ rfl rfl rfl HR2.out ?_); (exact rfl); (exact rfl); (exact rfl); (exact rfl); (exact rfl); intro w3 k3 g3; have K3 := Lib.hid k3; have G3 := Lib.hid g3; clear k3 g3)
    refine bodyPost_ret (results_ax2 Try.results19 _ _ w.heap.size _ _ _ rfl K3.out) rfl ?_
    rw [HF.out]
    exact ⟨_, rfl, ⟨_, _, _, rfl, HO2.out.keptT G3.out HR2.out (by decide), OwnS.nil _ _, OwnP.nil _ _⟩, HE2.out.grown G3.out (Nat.le_refl _)⟩
end Go.Proofs.Ytjampleddeidaaa
