/- Package access: New. Package access: the laws' wakes. -/
import Derived.Test.YtjampleddeidaaaQAem
import Derived.Test.YtjampleddeidaaaQAds
namespace Go.Proofs.Ytjampleddeidaaa
open Go.ChangeShapes Go.WideShapes Go.ChangeAt Go.RowKit Go.Shelf

instance : DecidableEq Ax := fun x y => if h : sameX x y = true then isTrue (sameX_iff.1 h) else isFalse fun e => h (sameX_iff.2 e)
def srX (l : List Pe) : List Pe := l.foldl plX []
set_option maxRecDepth 100000 in
theorem foldl_rise : ∀ (l m : List Pe), RiseX m → RiseX (l.foldl plX m)
  | [], _, h => h
  | p :: l, _, h => foldl_rise l _ (plX_rise h p)
set_option maxRecDepth 100000 in
theorem rise_nil : RiseX [] := fun _ j _ hj => absurd hj (by simp)
set_option maxRecDepth 100000 in
theorem srX_rise (l : List Pe) : RiseX (srX l) := foldl_rise l [] rise_nil
set_option maxRecDepth 100000 in
theorem cod_eq {p q : Pe} (hp : okA p) (hq : okA q) (h : p.cod = q.cod) : p = q := eq_addr hp hq (by
  obtain ⟨h1, _⟩ := cdN_inj (a := p.addr) (k := p.key) (b := q.addr) (j := q.key) (by rw [hp.2.1]; decide) (by rw [hq.2.1]; decide) h
  exact h1)
set_option maxRecDepth 100000 in
theorem mem_plA {l : List Pe} {p q : Pe} (hl : ∀ r ∈ l, okA r) (hp : okA p) : q ∈ plX l p ↔ q = p ∨ q ∈ l := by
  rw [mem_plX]
  refine ⟨fun h => h.elim .inl (fun h => .inr h.1), fun h => h.elim .inl (fun h => ?_)⟩
  by_cases e : q.cod = p.cod
  · exact .inl (cod_eq (hl q h) hp e)
  · exact .inr ⟨h, e⟩
set_option maxRecDepth 100000 in
theorem foldl_mem : ∀ (l m : List Pe), (∀ p ∈ l, okA p) → (∀ p ∈ m, okA p) → ∀ q, q ∈ l.foldl plX m ↔ q ∈ l ∨ q ∈ m
  | [], m, _, _, q => by simp
  | p :: l, m, hl, hm, q => by
    have hp := hl p (List.mem_cons_self ..)
    rw [List.foldl_cons, foldl_mem l _ (fun r hr => hl r (List.mem_cons_of_mem _ hr)) (fun r hr => by
      rcases (mem_plA hm hp).1 hr with rfl | h
      · exact hp
      · exact hm r h), mem_plA hm hp, List.mem_cons]
    constructor
    · rintro (h | h | h)
      · exact .inl (.inr h)
      · exact .inl (.inl h)
      · exact .inr h
    · rintro ((h | h) | h)
      · exact .inr (.inl h)
      · exact .inl h
      · exact .inr (.inr h)
set_option maxRecDepth 100000 in
theorem mem_srX {l : List Pe} (hl : ∀ p ∈ l, okA p) (q : Pe) : q ∈ srX l ↔ q ∈ l := by
  unfold srX
  rw [foldl_mem l [] hl (fun _ h => nomatch h)]
  simp
def adI (p : Pe) : Int := (p.addr : Int)
set_option maxRecDepth 100000 in
theorem fA_az (l : List Pe) : fA l = (l.map adI).map az := by
  unfold fA
  induction l with
  | nil => rfl
  | cons p l ih => rw [List.map_cons, List.map_cons, List.map_cons, List.flatten_cons, ih]; rfl
set_option maxRecDepth 100000 in
theorem cod_adI {p q : Pe} (hp : okA p) (hq : okA q) : p.cod < q.cod ↔ adI p < adI q := by
  have h := cdN_lt (a := p.addr) (k := p.key) (b := q.addr) (j := q.key) (by rw [hp.2.1]; decide) (by rw [hq.2.1]; decide)
  have e1 := hp.2.1
  have e2 := hq.2.1
  unfold adI
  unfold Pe.cod
  rw [h]
  omega
set_option maxRecDepth 100000 in
theorem pairA {l : List Pe} (h : RiseX l) (ho : ∀ p ∈ l, okA p) : (l.map adI).Pairwise (· < ·) := by
  rw [List.pairwise_map]
  exact ((riseX_iff l).1 h).imp_of_mem (fun ha hb hlt => (cod_adI (ho _ ha) (ho _ hb)).1 hlt)
set_option maxRecDepth 100000 in
theorem srX_SR {l : List Pe} (hl : ∀ p ∈ l, okA p) : SR (l.map adI) ((srX l).map adI) :=
  ⟨pairA (srX_rise l) (fun p hp => hl p ((mem_srX hl p).1 hp)), fun x => by
    rw [List.mem_map, List.mem_map]
    exact ⟨fun ⟨p, hp, e⟩ => ⟨p, (mem_srX hl p).1 hp, e⟩, fun ⟨p, hp, e⟩ => ⟨p, (mem_srX hl p).2 hp, e⟩⟩⟩
set_option maxRecDepth 100000 in
theorem XA.az {w : World} {v : Value} {l : List Pe} (h : XA w v l) : Az w v (l.map adI) := by
  have := h.rs
  rw [fA_az] at this
  unfold Az
  rw [List.length_map]
  exact this
set_option maxRecDepth 100000 in
theorem XA.oks2 {w : World} {v : Value} {l : List Pe} (h : XA w v l) : ∀ p ∈ l, okA p := h.oks
set_option maxRecDepth 100000 in
theorem sortedX_any (v : Value) (l : List Pe) (w : World) (hs : XA w v l) (hl : l.length ≤ 1000000) : Calls Try.prog 42 #[v] w fun e w' => ∃ v', e = .returned v' ∧ OwnA w' w.heap.size v' (srX l) ∧ Ext w w' := by
  refine (sorted_any v (l.map adI) w hs.az (by rw [List.length_map]; exact hl)).mono ?_
  rintro e w' ⟨v', r, rfl, hr, ho, he⟩
  have hr2 := hr.unique (srX_SR hs.oks2)
  subst hr2
  refine ⟨v', rfl, ⟨?_, fun p hp => hs.oks2 p ((mem_srX hs.oks2 p).1 hp)⟩, he⟩
  have := ho
  unfold AzO at this
  rw [List.length_map, ← fA_az] at this
  exact this
def newX (l : List Pe) : Ax × Int := if 400 < (srX l).length then (ax0, 6) else (⟨srX l, [], []⟩, 0)
set_option maxRecDepth 100000 in
set_option maxHeartbeats 8000000 in
theorem newX_any (v : Value) (l : List Pe) (w : World) (hs : XA w v l) (hl : l.length ≤ 1000000) : Calls Try.prog 19 #[v] w fun e w' => ∃ v', e = .returned (.tuple #[v', .int .i64 (newX l).2]) ∧ RetX w.heap.size w' v' (newX l).1 ∧ Ext w w' := by
  obtain ⟨w0, hw0⟩ : ∃ w0, w.alloc (.cells #[.slice none 0 0, .slice none 0 0, .slice none 0 0] 26) = w0 := ⟨_, rfl⟩
  have HR0 : Hid (Cs w0 w.heap.size 26 #[.slice none 0 0, .slice none 0 0, .slice none 0 0]) := Lib.hid (by rw [← hw0]; exact Cs.new _ _ _ _ rfl)
  have HE0 : Hid (Ext w w0) := Lib.hid (by rw [← hw0]; exact (Ext.refl w).alloc _)
  have HW0 := Lib.hid hw0
  have HSO := Lib.hid (sortedX_any v l w0 (hs.ext HE0.out) hl)
  have HDF : Hid (newX l = if 400 < (srX l).length then (ax0, 6) else (⟨srX l, [], []⟩, 0)) := Lib.hid rfl
  clear hs hw0
  go_enter Try.func19, Try.ntmps19
  go_upto_region 1 with fail
  rw [HW0.out]
  clear HW0
  go_wp2_with fail
  refine HSO.out.mono ?_
  rintro e w1 ⟨v1, rfl, ho, he⟩
  have HO := Lib.hid ho
  have HR1 := Lib.hid (Cs.ext HR0.out he)
  have HE1 := Lib.hid (HE0.out.trans he)
  obtain ⟨A1, c1, rfl, _, _⟩ := ho.sl
  clear ho he HSO HR0
  generalize srX l = m at *
  by_cases h : 400 < m.length
  · have d1 : decide ((400 : Int) < (m.length : Int)) = true := decide_eq_true (by omega)
    have HF := Lib.hid (show newX l = (ax0, 6) by rw [HDF.out, if_pos h])
    clear h
    go_wp2_with ((with_reducible refine wpList_storeX ?_ ?_ (.tmp 2) (.tmp 10) ?_ w.heap.size (.slice none 0 0) (.slice none 0 0) (.slice none 0 0) (.slice none 0 0) (.slice none 0 0) (.slice none 0 0) ?_ ?_ rfl rfl rfl HR1.out ?_); (exact rfl); (exact rfl); (exact rfl); (exact rfl); (exact rfl); intro w3 k3 g3; have K3 := Lib.hid k3; have G3 := Lib.hid g3; clear k3 g3)
    refine bodyPost_ret (results_ax2 Try.results19 _ _ w.heap.size _ _ _ rfl K3.out) rfl ?_
    rw [HF.out]
    exact ⟨_, rfl, RetX.nil _ _, HE1.out.grown G3.out (Nat.le_refl _)⟩
  · have d1 : decide ((400 : Int) < (m.length : Int)) = false := decide_eq_false (by omega)
    have HF := Lib.hid (show newX l = (⟨m, [], []⟩, 0) by rw [HDF.out, if_neg h])
    have HL := Lib.hid (show m.length ≤ 1000000000 by omega)
    clear h
    go_wp2_with fail
    refine (ownA_any _ m _ HO.out.xs HL.out).mono ?_
    rintro e w2 ⟨v2, rfl, ho, he⟩
    have HO2 := Lib.hid (ho.mono HE1.out.size)
    have HR2 := Lib.hid (Cs.ext HR1.out he)
    have HE2 := Lib.hid (HE1.out.trans he)
    obtain ⟨A2, c2, rfl, _, _⟩ := ho.sl
    clear ho he
    go_wp2_with ((with_reducible refine wpList_storeX ?_ ?_ (.tmp 2) (.tmp 13) ?_ w.heap.size (.slice none 0 0) (.slice none 0 0) (.slice none 0 0) (.slice A2 m.length c2) (.slice none 0 0) (.slice none 0 0) ?_ ?_ rfl rfl rfl HR2.out ?_); (exact rfl); (exact rfl); (exact rfl); (exact rfl); (exact rfl); intro w3 k3 g3; have K3 := Lib.hid k3; have G3 := Lib.hid g3; clear k3 g3)
    refine bodyPost_ret (results_ax2 Try.results19 _ _ w.heap.size _ _ _ rfl K3.out) rfl ?_
    rw [HF.out]
    exact ⟨_, rfl, ⟨_, _, _, rfl, HO2.out.keptT G3.out HR2.out (by decide), OwnS.nil _ _, OwnP.nil _ _⟩, HE2.out.grown G3.out (Nat.le_refl _)⟩
end Go.Proofs.Ytjampleddeidaaa
namespace Go.Proofs.Ytjampleddeidaaa
open Go.ChangeShapes Go.WideShapes Go.ChangeAt Go.RowKit Go.Shelf

set_option maxRecDepth 100000 in
theorem RetX.ax {lo : Nat} {W : World} {v : Value} {x : Ax} (h : RetX lo W v x) : ∃ a s p, v = .agg #[a, s, p] ∧ AxR W a s p x ∧ a.oneCell' = true ∧ s.oneCell' = true ∧ p.oneCell' = true := by
  obtain ⟨a, s, p, e, h1, h2, h3⟩ := h
  exact ⟨a, s, p, e, ⟨h1.xs, h2.xs, h3.xs⟩, h1.one, h2.one, h3.one⟩
def wkL : List Pe := [⟨3, 0, 0⟩, ⟨1, 0, 0⟩, ⟨3, 0, 0⟩]
def wkA : Ax := ⟨[⟨1, 0, 0⟩, ⟨3, 0, 0⟩], [], []⟩
def wkB : Ax := ⟨[⟨1, 0, 0⟩, ⟨2, 0, 0⟩, ⟨3, 0, 0⟩], [], []⟩
set_option maxRecDepth 100000 in
theorem wk_row {w : World} {g : Nat} (h : w.heap[g]? = some (.cells #[.int .u64 3, .int .u64 1, .int .u64 3] 28 (0, 0))) : XA w (.slice (some ⟨g, 0, none⟩) 3 3) wkL := by
  have ho : AzO w 0 (.slice (some ⟨g, 0, none⟩) 3 3) [3, 1, 3] := own_row (l := [3, 1, 3]) h (Nat.zero_le _) (by unfold maxLen; decide)
  have : OwnA w 0 (.slice (some ⟨g, 0, none⟩) 3 3) wkL := ⟨ho, fun p hp => by
    simp only [wkL, List.mem_cons, List.not_mem_nil, or_false] at hp
    rcases hp with rfl | rfl | rfl <;> exact ⟨by decide, rfl, rfl⟩⟩
  exact this.xs
set_option maxRecDepth 100000 in
theorem wkNew_any (w : World) (g : Nat) (h : w.heap[g]? = some (.cells #[.int .u64 3, .int .u64 1, .int .u64 3] 28 (0, 0))) : Calls Try.prog 19 #[.slice (some ⟨g, 0, none⟩) 3 3] w fun e w' => ∃ v', e = .returned (.tuple #[v', .int .i64 0]) ∧ RetX w.heap.size w' v' wkA ∧ Ext w w' := by
  have := newX_any _ wkL w (wk_row h) (by decide)
  rw [show newX wkL = (wkA, 0) by decide +kernel] at this
  exact this
set_option maxRecDepth 100000 in
theorem wkTch_any (a s p : Value) (x y : Ax) (b : Bool) (w : World) (h : AxR w a s p x) (he : touchX x ⟨2, 0, 0⟩ = (y, b, 0)) : Calls Try.prog 27 #[.agg #[a, s, p], .int .u64 2] w fun e w' => ∃ v', e = .returned (.tuple #[v', .bool b, .int .i64 0]) ∧ RetX w.heap.size w' v' y ∧ Ext w w' := by
  have := touchX_any a s p x ⟨2, 0, 0⟩ w h ⟨by decide, rfl, rfl⟩
  rw [he] at this
  exact this
set_option maxRecDepth 100000 in
theorem wkWrm_any (a s p : Value) (x : Ax) (b : Bool) (w : World) (h : AxR w a s p x) (he : warmX x ⟨2, 0, 0⟩ = b) : Calls Try.prog 16 #[.agg #[a, s, p], .int .u64 2] w fun e w' => e = .returned (.bool b) ∧ Ext w w' := by
  have := warmX_any a s p x ⟨2, 0, 0⟩ w h ⟨by decide, rfl, rfl⟩
  rw [he] at this
  exact this
set_option maxRecDepth 100000 in
set_option maxHeartbeats 8000000 in
theorem wakesX_any (w : World) : Calls Try.prog 9 #[] w fun e w' => e = .returned (.bool true) ∧ Ext w w' := by
  have HN := Lib.hid (wkNew_any (w.alloc (.cells #[.int .u64 3, .int .u64 1, .int .u64 3] 28)) w.heap.size (heap_alloc_new _ _))
  go_enter Try.func9, Try.ntmps9
  go_wp2_with fail
  refine HN.out.mono ?_
  rintro e w1 ⟨v1, rfl, hr, he⟩
  have HE1 := Lib.hid (((Ext.refl w).alloc _).trans he)
  obtain ⟨a1, s1, p1, rfl, hx1, y1, y2, y3⟩ := hr.ax
  obtain ⟨A1, c1, rfl, _, _⟩ := hx1.1.len
  have HX1 := Lib.hid hx1
  have Y1 := Lib.hid y1
  have Y2 := Lib.hid y2
  have Y3 := Lib.hid y3
  clear hr he hx1 y1 y2 y3 HN
  go_wp2_with (first
    | ((with_reducible refine wpList_storeX ?_ ?_ (.tmp 1) (.tmp 12) ?_ w1.heap.size (.slice none 0 0) (.slice none 0 0) (.slice none 0 0) (.slice A1 wkA.a.length c1) s1 p1 ?_ ?_ Y1.out Y2.out Y3.out (Cs.new _ _ _ _ rfl) ?_); (exact rfl); (exact rfl); (exact rfl); (exact rfl); (exact rfl); intro w2 k2 g2; have K2 := Lib.hid k2; have E2 := Lib.hid (((Ext.refl w1).alloc _).grown g2 (Nat.le_refl _)); clear k2 g2)
    | ((with_reducible refine wpList_loadX ?_ (.tmp 1) ?_ w1.heap.size (.slice A1 wkA.a.length c1) s1 p1 ?_ K2.out ?_); (exact rfl); (exact rfl); (exact rfl)))
  refine (wkTch_any _ _ _ wkA wkB true _ (HX1.out.ext E2.out) (by decide +kernel)).mono ?_
  rintro e w3 ⟨v3, rfl, hr, he⟩
  have E3 := Lib.hid (E2.out.trans he)
  have K3 := Lib.hid (Cs.ext K2.out he)
  obtain ⟨a3, s3, p3, rfl, hx3, y1, y2, y3⟩ := hr.ax
  have HX3 := Lib.hid hx3
  have Z1 := Lib.hid y1
  have Z2 := Lib.hid y2
  have Z3 := Lib.hid y3
  clear hr he hx3 y1 y2 y3 K2
  go_wp2_with (first
    | ((with_reducible refine wpList_storeX ?_ ?_ (.tmp 3) (.tmp 17) ?_ w3.heap.size (.slice none 0 0) (.slice none 0 0) (.slice none 0 0) a3 s3 p3 ?_ ?_ Z1.out Z2.out Z3.out (Cs.new _ _ _ _ rfl) ?_); (exact rfl); (exact rfl); (exact rfl); (exact rfl); (exact rfl); intro w4 k4 g4; have K4 := Lib.hid k4; have E4 := Lib.hid (((Ext.refl w3).alloc _).grown g4 (Nat.le_refl _)); clear k4 g4)
    | ((with_reducible refine wpList_loadX ?_ (.tmp 3) ?_ w3.heap.size a3 s3 p3 ?_ K4.out ?_); (exact rfl); (exact rfl); (exact rfl)))
  refine (wkTch_any _ _ _ wkB wkB false _ (HX3.out.ext E4.out) (by decide +kernel)).mono ?_
  rintro e w5 ⟨v5, rfl, hr, he⟩
  have E5 := Lib.hid ((E3.out.trans E4.out).trans he)
  have K5 := Lib.hid (Cs.ext (Cs.ext K3.out E4.out) he)
  obtain ⟨a5, s5, p5, rfl, hx5, y1, y2, y3⟩ := hr.ax
  obtain ⟨A5, c5, rfl, _, _⟩ := hx5.1.len
  have HX5 := Lib.hid hx5
  have X1 := Lib.hid y1
  have X2 := Lib.hid y2
  have X3 := Lib.hid y3
  clear hr he hx5 y1 y2 y3 K3 K4
  go_wp2_with (first
    | ((with_reducible refine wpList_storeX ?_ ?_ (.tmp 6) (.tmp 23) ?_ w5.heap.size (.slice none 0 0) (.slice none 0 0) (.slice none 0 0) (.slice A5 wkB.a.length c5) s5 p5 ?_ ?_ X1.out X2.out X3.out (Cs.new _ _ _ _ rfl) ?_); (exact rfl); (exact rfl); (exact rfl); (exact rfl); (exact rfl); intro w7 k7 g7; have K7 := Lib.hid k7; have E7 := Lib.hid (((Ext.refl w5).alloc _).grown g7 (Nat.le_refl _)); have q7 := k7.cell 0 _ rfl; have q1 := (Cs.ext K5.out E7.out).cell 0 _ rfl; have hl3 : (wkB.a.length : Int) = 3 := rfl; have hl2 : (wkA.a.length : Int) = 2 := rfl; clear k7 g7)
    | ((with_reducible refine wpList_loadX ?_ (.tmp 6) ?_ w5.heap.size (.slice A5 wkB.a.length c5) s5 p5 ?_ K7.out ?_); (exact rfl); (exact rfl); (exact rfl)))
  refine (wkWrm_any _ _ _ wkB true _ (HX5.out.ext E7.out) (by decide +kernel)).mono ?_
  rintro e w8 ⟨rfl, he⟩
  have E8 := Lib.hid ((E5.out.trans E7.out).trans he)
  have K8 := Lib.hid (Cs.ext (Cs.ext K5.out E7.out) he)
  clear he q7 q1
  go_wp2_with ((with_reducible refine wpList_loadX ?_ (.tmp 1) ?_ w1.heap.size (.slice A1 wkA.a.length c1) s1 p1 ?_ K8.out ?_); (exact rfl); (exact rfl); (exact rfl))
  refine (wkWrm_any _ _ _ wkA false _ (HX1.out.ext E8.out) (by decide +kernel)).mono ?_
  rintro e w9 ⟨rfl, he⟩
  have E9 := Lib.hid ((HE1.out.trans E8.out).trans he)
  clear he
  go_wp2_with fail
  refine bodyPost_ret (results_tmp rfl _ _ _) rfl ?_
  exact ⟨rfl, E9.out⟩
end Go.Proofs.Ytjampleddeidaaa
