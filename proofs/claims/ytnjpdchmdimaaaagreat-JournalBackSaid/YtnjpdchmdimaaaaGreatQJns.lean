/- Package journal: New. -/
import Derived.Test.YtnjpdchmdimaaaaGreatQAem
import Derived.Test.YtnjpdchmdimaaaaGreatQAds
import Derived.Test.YtnjpdchmdimaaaaGreatQJnr
namespace Go.Proofs.YtnjpdchmdimaaaaGreat
open Go.ChangeShapes Go.WideShapes Go.ChangeAt Go.RowKit Go.Shelf

instance : DecidableEq Ax := fun x y => if h : sameX x y = true then isTrue (sameX_iff.1 h) else isFalse fun e => h (sameX_iff.2 e)
def srX (l : List Pe) : List Pe := l.foldl plX []
theorem foldl_rise : ∀ (l m : List Pe), RiseX m → RiseX (l.foldl plX m)
 | [], _, h => h
 | p :: l, _, h => foldl_rise l _ (plX_rise h p)
theorem rise_nil : RiseX [] := fun _ j _ hj => absurd hj (by simp)
theorem srX_rise (l : List Pe) : RiseX (srX l) := foldl_rise l [] rise_nil
theorem cod_eq {p q : Pe} (hp : okA p) (hq : okA q) (h : p.cod = q.cod) : p = q := eq_addr hp hq (by
 obtain ⟨h1, _⟩ := ceN_inj (a := p.addr) (k := p.key) (b := q.addr) (j := q.key) (by rw [hp.2.1]; decide) (by rw [hq.2.1]; decide) h
 exact h1)
theorem mem_plA {l : List Pe} {p q : Pe} (hl : ∀ r ∈ l, okA r) (hp : okA p) : q ∈ plX l p ↔ q = p ∨ q ∈ l := by
 rw [mem_plX]
 refine ⟨fun h => h.elim .inl (fun h => .inr h.1), fun h => h.elim .inl (fun h => ?_)⟩
 by_cases e : q.cod = p.cod
 ·exact .inl (cod_eq (hl q h) hp e)
 ·exact .inr ⟨h, e⟩
theorem foldl_mem : ∀ (l m : List Pe), (∀ p ∈ l, okA p) → (∀ p ∈ m, okA p) → ∀ q, q ∈ l.foldl plX m ↔ q ∈ l ∨ q ∈ m
 | [], m, _, _, q => by simp
 | p :: l, m, hl, hm, q => by
  have hp := hl p (List.mem_cons_self ..)
  rw [List.foldl_cons, foldl_mem l _ (fun r hr => hl r (List.mem_cons_of_mem _ hr)) (fun r hr => by
   rcases (mem_plA hm hp).1 hr with rfl | h
   ·exact hp
   ·exact hm r h), mem_plA hm hp, List.mem_cons]
  constructor
  ·rintro (h | h | h)
   ·exact .inl (.inr h)
   ·exact .inl (.inl h)
   ·exact .inr h
  ·rintro ((h | h) | h)
   ·exact .inr (.inl h)
   ·exact .inl h
   ·exact .inr (.inr h)
theorem mem_srX {l : List Pe} (hl : ∀ p ∈ l, okA p) (q : Pe) : q ∈ srX l ↔ q ∈ l := by
 unfold srX
 rw [foldl_mem l [] hl (fun _ h => nomatch h)]
 simp
def adI (p : Pe) : Int := (p.addr : Int)
theorem fA_az (l : List Pe) : fA l = (l.map adI).map az := by
 unfold fA
 induction l with
 | nil => rfl
 | cons p l ih => rw [List.map_cons, List.map_cons, List.map_cons, List.flatten_cons, ih]; rfl
theorem cod_adI {p q : Pe} (hp : okA p) (hq : okA q) : p.cod < q.cod ↔ adI p < adI q := by
 have h := ceN_lt (a := p.addr) (k := p.key) (b := q.addr) (j := q.key) (by rw [hp.2.1]; decide) (by rw [hq.2.1]; decide)
 have e1 := hp.2.1
 have e2 := hq.2.1
 unfold adI
 unfold Pe.cod
 rw [h]
 omega
theorem pairA {l : List Pe} (h : RiseX l) (ho : ∀ p ∈ l, okA p) : (l.map adI).Pairwise (· < ·) := by
 rw [List.pairwise_map]
 exact ((riseX_iff l).1 h).imp_of_mem (fun ha hb hlt => (cod_adI (ho _ ha) (ho _ hb)).1 hlt)
theorem srX_SR {l : List Pe} (hl : ∀ p ∈ l, okA p) : SR (l.map adI) ((srX l).map adI) :=
 ⟨pairA (srX_rise l) (fun p hp => hl p ((mem_srX hl p).1 hp)), fun x => by
  rw [List.mem_map, List.mem_map]
  exact ⟨fun ⟨p, hp, e⟩ => ⟨p, (mem_srX hl p).1 hp, e⟩, fun ⟨p, hp, e⟩ => ⟨p, (mem_srX hl p).2 hp, e⟩⟩⟩
theorem XA.az {w : World} {v : Value} {l : List Pe} (h : XA w v l) : Az w v (l.map adI) := by
 have := h.rs
 rw [fA_az] at this
 unfold Az
 rw [List.length_map]
 exact this
theorem XA.oks2 {w : World} {v : Value} {l : List Pe} (h : XA w v l) : ∀ p ∈ l, okA p := h.oks
set_option maxRecDepth 100000 in
theorem sortedX_any (v : Value) (l : List Pe) (w : World) (hs : XA w v l) (hl : l.length ≤ 1000000) : Calls Tryz.prog 109 #[v] w fun e w' => ∃ v', e = .returned v' ∧ OwnA w' w.heap.size v' (srX l) ∧ Ext w w' := by
 refine (sorted_any v (l.map adI) w hs.az (by rw [List.length_map]; exact hl)).mono ?_
 rintro e w' ⟨v', r, rfl, hr, ho, he⟩
 have hr2 := hr.unique (srX_SR hs.oks2)
 subst hr2
 refine ⟨v', rfl, ⟨?_, fun p hp => hs.oks2 p ((mem_srX hs.oks2 p).1 hp)⟩, he⟩
 have := ho
 unfold AzO at this
 rw [List.length_map, ← fA_az] at this
 exact this
def newX (l : List Pe) : Ax × Int := if 400 < (srX l).length then (ax0, 6) else (⟨srX l, [], []⟩, 0)
set_option maxRecDepth 100000 in
set_option maxHeartbeats 8000000 in
theorem newX_any (v : Value) (l : List Pe) (w : World) (hs : XA w v l) (hl : l.length ≤ 1000000) : Calls Tryz.prog 55 #[v] w fun e w' => ∃ v', e = .returned (.tuple #[v', .int .i64 (newX l).2]) ∧ RetX w.heap.size w' v' (newX l).1 ∧ Ext w w' := by
 obtain ⟨w0, hw0⟩ : ∃ w0, w.alloc (.cells #[.slice none 0 0, .slice none 0 0, .slice none 0 0] 35) = w0 := ⟨_, rfl⟩
 have HR0 : Hid (Cs w0 w.heap.size 35 #[.slice none 0 0, .slice none 0 0, .slice none 0 0]) := Lib.hid (by rw [← hw0]; exact Cs.new _ _ _ _ rfl)
 have HE0 : Hid (Ext w w0) := Lib.hid (by rw [← hw0]; exact (Ext.refl w).alloc _)
 have HW0 := Lib.hid hw0
 have HSO := Lib.hid (sortedX_any v l w0 (hs.ext HE0.out) hl)
 have HDF : Hid (newX l = if 400 < (srX l).length then (ax0, 6) else (⟨srX l, [], []⟩, 0)) := Lib.hid rfl
 clear hs hw0
 go_enter Tryz.func55, Tryz.ntmps55
 go_upto_region 1 with fail
 rw [HW0.out]
 clear HW0
 go_wp2_with fail
 refine HSO.out.mono ?_
 rintro e w1 ⟨v1, rfl, ho, he⟩
 have HO := Lib.hid ho
 have HR1 := Lib.hid (Cs.ext HR0.out he)
 have HE1 := Lib.hid (HE0.out.trans he)
 obtain ⟨A1, c1, rfl, _, _⟩ := ho.sl
 clear ho he HSO HR0
 generalize srX l = m at *
 by_cases h : 400 < m.length
 ·have d1 : decide ((400 : Int) < (m.length : Int)) = true := decide_eq_true (by omega)
  have HF := Lib.hid (show newX l = (ax0, 6) by rw [HDF.out, if_pos h])
  clear h
  go_wp2_with ((with_reducible refine wpList_storeX ?_ ?_ (.tmp 2) (.tmp 10) ?_ w.heap.size (.slice none 0 0) (.slice none 0 0) (.slice none 0 0) (.slice none 0 0) (.slice none 0 0) (.slice none 0 0) ?_ ?_ rfl rfl rfl HR1.out ?_); (exact rfl); (exact rfl); (exact rfl); (exact rfl); (exact rfl); intro w3 k3 g3; have K3 := Lib.hid k3; have G3 := Lib.hid g3; clear k3 g3)
  refine bodyPost_ret (results_ax2 Tryz.results55 _ _ w.heap.size _ _ _ rfl K3.out) rfl ?_
  rw [HF.out]
  exact ⟨_, rfl, RetX.nil _ _, HE1.out.grown G3.out (Nat.le_refl _)⟩
 ·have d1 : decide ((400 : Int) < (m.length : Int)) = false := decide_eq_false (by omega)
  have HF := Lib.hid (show newX l = (⟨m, [], []⟩, 0) by rw [HDF.out, if_neg h])
  have HL := Lib.hid (show m.length ≤ 1000000000 by omega)
  clear h
  go_wp2_with fail
  refine (ownA_any _ m _ HO.out.xs HL.out).mono ?_
  rintro e w2 ⟨v2, rfl, ho, he⟩
  have HO2 := Lib.hid (ho.mono HE1.out.size)
  have HR2 := Lib.hid (Cs.ext HR1.out he)
  have HE2 := Lib.hid (HE1.out.trans he)
  obtain ⟨A2, c2, rfl, _, _⟩ := ho.sl
  clear ho he
  go_wp2_with ((with_reducible refine wpList_storeX ?_ ?_ (.tmp 2) (.tmp 13) ?_ w.heap.size (.slice none 0 0) (.slice none 0 0) (.slice none 0 0) (.slice A2 m.length c2) (.slice none 0 0) (.slice none 0 0) ?_ ?_ rfl rfl rfl HR2.out ?_); (exact rfl); (exact rfl); (exact rfl); (exact rfl); (exact rfl); intro w3 k3 g3; have K3 := Lib.hid k3; have G3 := Lib.hid g3; clear k3 g3)
  refine bodyPost_ret (results_ax2 Tryz.results55 _ _ w.heap.size _ _ _ rfl K3.out) rfl ?_
  rw [HF.out]
  exact ⟨_, rfl, ⟨_, _, _, rfl, HO2.out.keptT G3.out HR2.out (by decide), OwnS.nil _ _, OwnP.nil _ _⟩, HE2.out.grown G3.out (Nat.le_refl _)⟩
end Go.Proofs.YtnjpdchmdimaaaaGreat
namespace Go.Proofs.YtnjpdchmdimaaaaGreat
open Go.ChangeShapes Go.WideShapes Go.ChangeAt Go.RowKit Go.Shelf

end Go.Proofs.YtnjpdchmdimaaaaGreat
namespace Go.Proofs.YtnjpdchmdimaaaaGreat
open Go.ChangeShapes Go.WideShapes Go.ChangeAt Go.RowKit Go.Shelf

def newE (o : Wo) (l : List Pe) : Int := if rightWo o then (newX l).2 else 200
def newJ (o : Wo) (l : List Pe) : Jn × Int := jchg jn0 (newE o l) ⟨⟨o, (newX l).1⟩, []⟩
theorem newX_sz (l : List Pe) : SzX (newX l).1 := by
 unfold newX
 split
 ·exact ⟨Nat.zero_le _, Nat.zero_le _, Nat.zero_le _⟩
 ·exact ⟨by dsimp only; omega, Nat.zero_le _, Nat.zero_le _⟩
theorem newJ_sz {o : Wo} {l : List Pe} (ho : SzW o) (h : newE o l = 0) : SzJn ⟨⟨o, (newX l).1⟩, []⟩ := by
 have h2 : rightWo o = true := by
  cases hq : rightWo o with
  | true => rfl
  | false => unfold newE at h; rw [hq] at h; cases h
 exact ⟨⟨szO_of ho h2, newX_sz l⟩, Nat.zero_le _, fun p hp => nomatch hp⟩
set_option maxRecDepth 100000 in
set_option maxHeartbeats 8000000 in
theorem new1_any (g gw gl : Nat) (u v z al : Value) (o : Wo) (l : List Pe) (w W : World) (hE : Ext w W) (hg : w.heap.size ≤ g) (_hn : gw ≠ g) (hn2 : gl ≠ g) (hc : Cs W g 40 #[.slice none 0 0, .slice none 0 0, .slice none 0 0, .slice none 0 0, .slice none 0 0, .slice none 0 0, .slice none 0 0]) (hw : Cs W gw 30 #[u, v, z]) (ha : Cs W gl 31 #[al]) (ho : WoR w u v z o) (hz : SzW o) (hl : XA w al l) (hll : l.length ≤ 1000000) :
  Calls Tryz.prog 54 #[.pointer (some ⟨g, 0, none⟩), .pointer (some ⟨gw, 0, none⟩), .pointer (some ⟨gl, 0, none⟩)] W fun e w' => e = .returned (.int .i64 (newE o l)) ∧ Below g W w' ∧ (newE o l = 0 → ∃ cs, Cs w' g 40 cs ∧ JnR w' cs ⟨⟨o, (newX l).1⟩, []⟩) := by
 have HO := Lib.hid ho
 have HE := Lib.hid hE
 have HZ := Lib.hid hz
 have HLL := Lib.hid (And.intro hl hll)
 have HL := Lib.hid hc.lt
 have HC := Lib.hid hc
 have HW := Lib.hid hw
 have HAL := Lib.hid ha
 have HDEF : Hid (newE o l = if rightWo o then (newX l).2 else 200) := Lib.hid rfl
 have HON := Lib.hid (show (#[u, v, z] : Array Value).all (·.oneCell') = true from (by simp [acs_one ho.1, hds_one ho.2.1, nns_one ho.2.2]))
 have HRG := Lib.hid (Cs.rg hw)
 clear ho hE hc hw hz hl hll ha
 go_enter Tryz.func54, Tryz.ntmps54
 go_wp2_with ((with_reducible refine wpList_loadWo ?_ (.tmp 1) ?_ gw 0 u v z ?_ HRG.out ?_); (exact rfl); (exact rfl); (exact rfl))
 refine (checkWo_any _ _ _ o _ (HO.out.ext HE.out) HZ.out).mono ?_
 rintro e w1 ⟨rfl, he⟩
 have HE1 := Lib.hid he
 clear he
 cases hr : rightWo o with
 | false =>
  have HK : Hid (chkWo o = 200) := Lib.hid (by unfold chkWo; rw [hr]; rfl)
  have HF := Lib.hid (show newE o l = 200 by rw [HDEF.out, hr]; rfl)
  clear hr
  rw [HK.out]
  go_wp2_with fail
  go_ret
  exact ⟨by rw [HF.out]; rfl, Below.mono HE1.out (Nat.le_of_lt HL.out), fun h => absurd h (by rw [HF.out]; decide)⟩
 | true =>
  have HK : Hid (chkWo o = 0) := Lib.hid (by unfold chkWo; rw [hr]; rfl)
  have HF := Lib.hid (show newE o l = (newX l).2 by rw [HDEF.out, hr]; rfl)
  clear hr
  rw [HK.out]
  have HRG1 := Lib.hid (Cs.rg (Cs.ext HW.out HE1.out))
  have HC1 := Lib.hid (Cs.ext HC.out HE1.out)
  go_upto_region 4 with (first
   | ((with_reducible refine wpList_loadWo ?_ (.tmp 1) ?_ gw 0 u v z ?_ HRG1.out ?_); (exact rfl); (exact rfl); (exact rfl))
   | ((with_reducible refine wpList_store_in ?_ ?_ 30 (.tmp 12) (.tmp 9) ?_ g 0 40 #[.slice none 0 0, .slice none 0 0, .slice none 0 0, .slice none 0 0, .slice none 0 0, .slice none 0 0, .slice none 0 0] #[u, v, z] ?_ ?_ ?_ ?_ ?_ ?_ ?_); (exact rfl); (exact rfl); (exact rfl); (exact rfl); (exact rfl); (exact HC1.out); (exact infoWo); (exact (of_decide_eq_true rfl)); (exact HON.out); intro w2 k2 g2; have K2 : Hid (Cs w2 g 40 #[u, v, z, .slice none 0 0, .slice none 0 0, .slice none 0 0, .slice none 0 0]) := Lib.hid k2; have G2 := Lib.hid g2; clear k2 g2))
  have HE2 := Lib.hid ((HE.out.trans HE1.out).grown G2.out hg)
  have HB2 : Hid (Below g W w2) := Lib.hid (Below.trans (Below.mono HE1.out (Nat.le_of_lt HL.out)) (below_grown (Nat.le_of_lt HC1.out.lt) G2.out (fun _ e => Nat.le_of_eq (Option.some.inj e))))
  have hal := (Cs.kept (Cs.ext HAL.out HE1.out) G2.out (fun e => hn2 (Option.some.inj e))).cell 0 _ rfl
  go_wp2_with fail
  clear hal
  refine (newX_any _ l _ (HLL.out.1.ext HE2.out) HLL.out.2).mono ?_
  rintro e w3 ⟨v3, rfl, hr3, he⟩
  obtain ⟨a, s, p, rfl, hr3⟩ := retX_shp hr3
  have HR3 := Lib.hid hr3
  have HE3 := Lib.hid he
  have HC3 := Lib.hid (Cs.ext K2.out he)
  have HO3 := Lib.hid (show (#[a, s, p] : Array Value).all (·.oneCell') = true by obtain ⟨y1, y2, y3⟩ := hr3.one; simp [y1, y2, y3])
  clear hr3 he
  go_wp2_with ((with_reducible refine wpList_store_in ?_ ?_ 35 (.tmp 21) (.tmp 17) ?_ g 3 40 #[u, v, z, .slice none 0 0, .slice none 0 0, .slice none 0 0, .slice none 0 0] #[a, s, p] ?_ ?_ ?_ ?_ ?_ ?_ ?_); (exact rfl); (exact rfl); (exact rfl); (exact rfl); (exact rfl); (exact HC3.out); (exact infoXk); (exact (of_decide_eq_true rfl)); (exact HO3.out); intro w4 k4 g4; have K4 : Hid (Cs w4 g 40 #[u, v, z, a, s, p, .slice none 0 0]) := Lib.hid k4; have G4 := Lib.hid g4; clear k4 g4)
  go_ret
  have hE4 : Ext w w4 := (HE2.out.trans HE3.out).grown G4.out hg
  have hB4 : Below g W w4 := Below.trans (Below.trans HB2.out (Below.mono HE3.out (Nat.le_of_lt K2.out.lt))) (below_grown (Nat.le_of_lt HC3.out.lt) G4.out (fun _ e => Nat.le_of_eq (Option.some.inj e)))
  exact ⟨by rw [HF.out]; rfl, hB4, fun _ => ⟨_, K4.out, _, _, _, _, _, _, _, rfl, HO.out.ext hE4, (HR3.out.old G4.out K2.out.lt).axr, Pos.nil _⟩⟩
set_option maxRecDepth 100000 in
set_option maxHeartbeats 8000000 in
theorem newJ_any (u v z al : Value) (o : Wo) (l : List Pe) (w : World) (ho : WoR w u v z o) (hz : SzW o) (hl : XA w al l) (hll : l.length ≤ 1000000) :
  Calls Tryz.prog 18 #[.agg #[u, v, z], al] w fun e w' => ∃ v', e = .returned (.tuple #[v', .int .i64 (newJ o l).2]) ∧ RetJn w.heap.size w' v' (newJ o l).1 ∧ Ext w w' := by
 have HO := Lib.hid ho
 have HZ := Lib.hid hz
 have HLL := Lib.hid (And.intro hl hll)
 have HON := Lib.hid (show (#[u, v, z] : Array Value).all (·.oneCell') = true from (by simp [acs_one ho.1, hds_one ho.2.1, nns_one ho.2.2]))
 have HO1 := HON.out
 have HNL : Hid (WoR w (.slice none 0 0) (.slice none 0 0) (.slice none 0 0) jn0.p.w ∧ AxR w (.slice none 0 0) (.slice none 0 0) (.slice none 0 0) jn0.p.x ∧ Pos w (.slice none 0 0) jn0.m) := Lib.hid (by
  have h := RetJn.nil 0 w
  obtain ⟨_, _, _, _, _, _, _, q, h1, h2, h3⟩ := h
  injection q with q
  simp only [Array.mk.injEq, List.cons.injEq, and_true] at q
  obtain ⟨rfl, rfl, rfl, rfl, rfl, rfl, rfl⟩ := q
  exact ⟨h1.wor, h2.axr, h3.sl⟩)
 obtain ⟨A, c, rfl, _, _⟩ := hl.len
 obtain ⟨w0, hw0⟩ : ∃ w0, ((w.alloc (.cells #[u, v, z] 30)).alloc (.cells #[.slice A l.length c] 31)).alloc (.cells #[.slice none 0 0, .slice none 0 0, .slice none 0 0, .slice none 0 0, .slice none 0 0, .slice none 0 0, .slice none 0 0] 40) = w0 := ⟨_, rfl⟩
 have HC0 : Hid (Cs w0 w.heap.size 30 #[u, v, z]) := Lib.hid (by rw [← hw0]; exact Cs.alloc (Cs.alloc (Cs.new _ _ _ _ rfl) _) _)
 have HQ0 : Hid (Cs w0 (w.heap.size + 1) 31 #[.slice A l.length c]) := Lib.hid (by rw [← hw0]; exact Cs.alloc (Cs.new _ _ _ _ (by simp)) _)
 have HR0 : Hid (Cs w0 (w.heap.size + 1 + 1) 40 #[.slice none 0 0, .slice none 0 0, .slice none 0 0, .slice none 0 0, .slice none 0 0, .slice none 0 0, .slice none 0 0]) := Lib.hid (by rw [← hw0]; exact Cs.new _ _ _ _ (by simp))
 have HE0 : Hid (Ext w w0) := Lib.hid (by rw [← hw0]; exact (((Ext.refl w).alloc _).alloc _).alloc _)
 have HL0 := Lib.hid (show w.heap.size + 1 + 1 < w0.heap.size from HR0.out.lt)
 have HW0 := Lib.hid hw0
 have HDF : Hid (newJ o l = jchg jn0 (newE o l) ⟨⟨o, (newX l).1⟩, []⟩) := Lib.hid rfl
 clear ho hw0 hz hl hll
 go_enter Tryz.func18, Tryz.ntmps18
 go_upto_region 1 with fail
 rw [HW0.out]
 clear HW0 HO1
 go_wp2_with fail
 refine (jchanged_any _ _ _ _ _ _ _ jn0 54 _ (newE o l) ⟨⟨o, (newX l).1⟩, []⟩ _ ⟨HNL.out.1.ext HE0.out, HNL.out.2.1.ext HE0.out, HNL.out.2.2.ext HE0.out⟩ ⟨Nat.zero_le _, fun p hp => nomatch hp⟩ (fun _ h => newJ_sz HZ.out h) (enters_of Tryz.func54 (by kernel_rfl) rfl) ?_).mono ?_
 ·intro _ W g hW hg hc
  exact new1_any g w.heap.size (w.heap.size + 1) u v z _ o l w0 W hW hg (by have := HL0.out; omega) (by have := HL0.out; omega) hc (Cs.ext HC0.out hW) (Cs.ext HQ0.out hW) (HO.out.ext HE0.out) HZ.out (HLL.out.1.ext HE0.out) HLL.out.2
 rintro e w1 ⟨v1, rfl, ho, he⟩
 rw [← HDF.out]
 rw [← HDF.out] at ho
 obtain ⟨a1, b1, c1, d1, e1, f1', m1, rfl, ho⟩ := retJn_shp ho
 have HE1 := Lib.hid (HE0.out.trans he)
 have HR1 := Lib.hid (Cs.ext HR0.out he)
 have HA1 := Lib.hid ho
 clear he ho HC0 HQ0 HR0
 go_wp2_with ((with_reducible refine wpList_storeJn ?_ ?_ (.tmp 4) (.tmp 9) ?_ (w.heap.size + 1 + 1) (.slice none 0 0) (.slice none 0 0) (.slice none 0 0) (.slice none 0 0) (.slice none 0 0) (.slice none 0 0) (.slice none 0 0) a1 b1 c1 d1 e1 f1' m1 ?_ ?_ HA1.out.one HR1.out ?_); (exact rfl); (exact rfl); (exact rfl); (exact rfl); (exact rfl); intro w3 k3 g3; have K3 := Lib.hid k3; have G3 := Lib.hid g3; clear k3 g3)
 refine bodyPost_ret (results_jnt Tryz.results18 _ _ (w.heap.size + 1 + 1) _ _ _ _ _ _ _ rfl K3.out) rfl ?_
 exact ⟨_, rfl, (HA1.out.old G3.out HL0.out).low HE0.out.size, HE1.out.grown G3.out (by omega)⟩
end Go.Proofs.YtnjpdchmdimaaaaGreat
