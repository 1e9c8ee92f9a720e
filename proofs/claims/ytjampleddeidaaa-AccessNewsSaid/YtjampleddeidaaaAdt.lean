/- The document's Sorted, and SameAddrs. -/
import Derived.Test.YtjampleddeidaaaAds
import Derived.ArgAppend
import Derived.BigQuiet
import Derived.Deep.RegionHeld3
namespace Go.Proofs.Ytjampleddeidaaa
open Go.RowKit Go.Shelf

set_option maxRecDepth 100000 in
theorem ext_drewN {a w : World} (h : Ext a w) (n : Nat) : Ext a (w.drewN n) := ⟨h.os, h.tape, h.output, h.size, fun i hi => Below.block h i hi⟩
set_option maxRecDepth 100000 in
/-- append(v, src...), where there is no room, as a step of its own. -/
theorem step_append_grows {P : Program} {w : World} {ops : Array Oper} {o : Oper} {a : Act} {K : Act → World → Prop} {Q : Exit → Act → World → Prop} (hgd : Region.wanted o (yielded ops a.tmps) = true) (s x : Operand) (t : TypeId)
    (ho : o.op = .call { callee := .builtin .append, args := #[s, x], argTypes := #[t, t] }) (e : TypeId) (ht : P.underlying t = some (.slice e)) (z : Value) (sz bytes : Nat)
    (hinfo : (P.info? e).map (fun i => (i.zero, i.size, i.bytes)) = some (some z, sz, bytes)) (hzs : z.cells.size = sz) (hsz : 0 < sz)
    (v : Value) (n : Nat) (cs : List Value) (hs : a.eval s = v) (ao : Option Addr) (hv : v = .slice ao n n) (hr : Rs w sz v n cs) (sv : Value) (m : Nat) (ds : List Value) (hx : a.eval x = sv) (hb : Rs w sz sv m ds) (h1c : ∀ u ∈ ds, u.oneCell' = true) (hm : 0 < m)
    (hlen : n + m ≤ 1099511627776) (hby : bytes ≤ 128) (hnil : ao = none → n = 0)
    (hK : ∀ v' w', w'.ownsRow w.heap.size e sz v' (n + m) (cs ++ ds) → w.grownBy w' none → K (a.put o.dst v') w') :
    if Region.wanted o (yielded ops a.tmps) = true then Oper.wp P o a w K Q else K (a.put o.dst undef) w := by
  obtain ⟨i0, hi, hz0, hz1, hz2⟩ := info_parts hinfo
  have hbb : (n + m) * bytes ≤ 140737488355328 := Nat.le_trans (Nat.mul_le_mul hlen hby) (by decide)
  have hmm : n + m ≤ maxLen := by unfold maxLen; omega
  obtain ⟨hl2, A2, c2, rfl, _, _, h2⟩ := hb
  obtain ⟨b2, o2, rfl, hc2⟩ := h2 hm
  have hadd : ∀ (b o j : Nat), (⟨b, o, none⟩ : Addr).add j = ⟨b, o + j, none⟩ := fun b o j => by unfold Addr.add; split <;> simp_all
  have hsrc : ∀ j u, ds[j]? = some u → w.cell? ((⟨b2, o2, none⟩ : Addr).add j) = some u := fun j u hu => by rw [hadd]; exact hc2 j u hu
  obtain ⟨hl1, A1, c1, e1, _, _, h1⟩ := hr
  have hrun : ∃ v' w', (Builtin.append_ #[t, t] o.type #[v, .slice (some ⟨b2, o2, none⟩) m c2]).run P w = .ok v' w' ∧ w'.ownsRow w.heap.size e sz v' (n + m) (cs ++ ds) ∧ w.grownBy w' none := by
    cases ao with
    | none =>
      obtain rfl := hnil rfl
      obtain rfl : cs = [] := List.eq_nil_of_length_eq_zero (by rw [hl1]; simp)
      subst hv
      obtain ⟨v', w', hr, ho', hg', _⟩ := run_append_own (P := P) w w.heap.size t o.type e i0 z sz bytes ht hi hz0 hz1 hz2 hzs hsz (.slice none 0 0) 0 [] (World.ownsRow_nil w _ e sz) ⟨b2, o2, none⟩ m c2 ds hl2 hsrc h1c hmm hbb (Nat.le_refl _)
      exact ⟨v', w', hr, ho', hg'⟩
    | some b =>
      subst hv
      injection e1 with e2 e3 e4
      subst e2
      by_cases hn : n = 0
      · subst hn
        obtain rfl : cs = [] := List.eq_nil_of_length_eq_zero (by rw [hl1]; simp)
        exact run_append_arg_grows (P := P) w t o.type e i0 z sz bytes ht hi hz0 hz1 hz2 hzs hsz b 0 0 [] (by simp) (fun j u hu => by simp at hu) ⟨b2, o2, none⟩ m c2 ds hl2 hsrc (by omega) hmm hbb
      · obtain ⟨b1, o1, e5, hc1⟩ := h1 (by omega)
        injection e5 with e5
        subst e5
        exact run_append_arg_grows (P := P) w t o.type e i0 z sz bytes ht hi hz0 hz1 hz2 hzs hsz ⟨b1, o1, none⟩ n n cs hl1 (fun j u hu => by rw [hadd]; exact hc1 j u hu) ⟨b2, o2, none⟩ m c2 ds hl2 hsrc (by omega) hmm hbb
  obtain ⟨v', w', hr, h4, h5⟩ := hrun
  rw [if_pos hgd]
  unfold Oper.wp
  simp [execOp, ho, resolve, invoke, builtin, hs, hx, hr, Result.andThen]
  exact hK v' w' h4 h5

set_option maxRecDepth 100000 in
theorem ins_SR {m out : List Int} (h : SR m out) (x : Int) (k : Nat) (hk : k ≤ out.length) (h1 : ∀ j, j < k → out.getD j 0 < x) (h2 : k < out.length → x < out.getD k 0) : SR (m ++ [x]) (out.take k ++ x :: out.drop k) := by
  obtain ⟨hp, hm⟩ := h
  have hp' := hp
  rw [← List.take_append_drop k out, List.pairwise_append] at hp'
  obtain ⟨p1, p2, p3⟩ := hp'
  have ht : ∀ a ∈ out.take k, a < x := by
    intro a ha
    obtain ⟨j, hj, rfl⟩ := List.getElem_of_mem ha
    rw [List.length_take] at hj
    have := h1 j (by omega)
    rw [List.getElem_take]
    simpa [List.getD, show j < out.length by omega] using this
  have hd : ∀ b ∈ out.drop k, x < b := by
    intro b hb
    by_cases hkl : k < out.length
    · have h3 := h2 hkl
      rw [List.drop_eq_getElem_cons hkl] at hb p2
      have e : out.getD k 0 = out[k] := by simp [List.getD, hkl]
      rw [e] at h3
      rcases List.mem_cons.1 hb with rfl | hb
      · exact h3
      · have := (List.pairwise_cons.1 p2).1 b hb
        omega
    · rw [List.drop_of_length_le (by omega)] at hb
      cases hb
  refine ⟨?_, fun y => ?_⟩
  · rw [List.pairwise_append, List.pairwise_cons]
    refine ⟨p1, ⟨hd, p2⟩, fun a ha b hb => ?_⟩
    rcases List.mem_cons.1 hb with rfl | hb
    · exact ht a ha
    · exact p3 a ha b hb
  · have e : y ∈ out ↔ y ∈ out.take k ∨ y ∈ out.drop k := by
      conv => lhs; rw [← List.take_append_drop k out]
      exact List.mem_append
    rw [List.mem_append, List.mem_cons, List.mem_append, List.mem_singleton, ← hm y, e]
    constructor
    · rintro (h | h | h)
      · exact .inl (.inl h)
      · exact .inr h
      · exact .inl (.inr h)
    · rintro ((h | h) | h)
      · exact .inl h
      · exact .inr (.inr h)
      · exact .inr (.inl h)
set_option maxRecDepth 100000 in
theorem dup_SR {m out : List Int} (h : SR m out) (x : Int) (k : Nat) (hk : k < out.length) (he : out.getD k 0 = x) : SR (m ++ [x]) out := by
  refine ⟨h.1, fun y => ?_⟩
  have hx : x ∈ out := by
    rw [← he]
    simp [List.getD, hk]
  rw [List.mem_append, List.mem_singleton, ← h.2 y]
  exact ⟨.inl, fun h => h.elim id fun e => e ▸ hx⟩
set_option maxRecDepth 100000 in
theorem take_more (l : List Int) (k : Nat) (hk : k < l.length) : l.take (k + 1) = l.take k ++ [l.getD k 0] := by
  rw [List.take_succ_eq_append_getElem hk]
  simp [List.getD, hk]

set_option maxRecDepth 100000 in
theorem own_oneA (w : World) (base g : Nat) (t : TypeId) (v : Value) (hg : g = w.heap.size) (hb : base ≤ g) : (w.alloc (.cells #[v] t)).ownsRow base t 1 (.slice (some ⟨g, 0, none⟩) 1 1) 1 [v] :=
  hg ▸ ⟨rfl, .inr ⟨_, 1, #[v], rfl, hg ▸ hb, heap_alloc_new _ _, Nat.le_refl _, by unfold maxLen; omega, by simp, by simp⟩⟩
set_option maxRecDepth 100000 in
theorem az_dropA {w : World} {b o c n : Nat} {out : List Int} (h : Az w (.slice (some ⟨b, o, none⟩) n c) out) (hn : n = out.length) (p : Nat) (hp : p < n) (hc : n ≤ c) : Rs w 1 (.slice (some ⟨b, o + p, none⟩) (n - p) (c - p)) (n - p) ((out.drop p).map az) := by
  subst hn
  have h1 := Rs.drop h p (by omega)
  rw [if_neg (by omega), Nat.mul_one, ← List.map_drop] at h1
  have hadd : (⟨b, o, none⟩ : Addr).add p = ⟨b, o + p, none⟩ := by unfold Addr.add; split <;> simp_all
  rw [Option.map_some, hadd] at h1
  exact h1
set_option maxRecDepth 100000 in
theorem az_takeA {w : World} {A : Option Addr} {c n : Nat} {out : List Int} (h : Az w (.slice A n c) out) (hn : n = out.length) (p : Nat) (hp : p ≤ n) : Rs w 1 (.slice A p p) p ((out.take p).map az) := by
  subst hn
  obtain ⟨h1, A', c', e, h2, h3, h4⟩ := Rs.take h p hp
  injection e with e1 e2 e3
  subst e1
  subst e3
  rw [Nat.mul_one, ← List.map_take] at h1
  refine ⟨by rw [h1, Nat.mul_one], A, p, rfl, Nat.le_refl _, by omega, fun hpp => ?_⟩
  obtain ⟨b, o, ea, hc⟩ := h4 hpp
  refine ⟨b, o, ea, fun i u hu => hc i u ?_⟩
  rw [Nat.mul_one, ← List.map_take]
  exact hu
set_option maxRecDepth 100000 in
theorem rs_none (w : World) (A : Option Addr) (c : Nat) (hc : c ≤ maxLen) : Rs w 1 (.slice A 0 c) 0 [] := ⟨rfl, A, c, rfl, Nat.zero_le _, hc, fun h => absurd h (by simp)⟩
set_option maxRecDepth 100000 in
theorem own_ins {w : World} {base base' : Nat} {v : Value} {out : List Int} {x : Int} {p m : Nat} (h : w.ownsRow base' 28 1 v (p + (1 + m)) ((out.take p).map az ++ ([az x] ++ (out.drop p).map az))) (hp : p ≤ out.length) (hm : m = out.length - p) (hb : base ≤ base') : AzO w base v (out.take p ++ x :: out.drop p) := by
  have h2 := own_mono h hb
  have e : (out.take p ++ x :: out.drop p).map az = (out.take p).map az ++ ([az x] ++ (out.drop p).map az) := by simp
  have e2 : (out.take p ++ x :: out.drop p).length = p + (1 + m) := by simp; omega
  unfold AzO
  rw [e, e2]
  exact h2

set_option maxRecDepth 100000 in
set_option maxHeartbeats 4000000 in
theorem refSorted_any (v : Value) (l : List Int) (w : World) (hv : Az w v l) (hl : l.length ≤ 1000000) : Calls Try.prog 41 #[v] w (RetS w l) := by
  obtain ⟨_, A0, c0, rfl, _, hm0, ha0⟩ := hv
  unfold maxLen at hm0
  have H0 := Lib.hid ha0
  clear ha0
  go_enter Try.func41, Try.ntmps41
  go_wp2_with fail
  go_loopw [3, 4, 5, 6, 7, 8, 9, 10, 11, 12, 13, 14, 15, 16, 17, 18, 19, 20, 21, 22, 23, 24, 25, 26, 27, 28, 29, 30, 31, 32, 33, 34, 35, 36, 37, 38, 39, 40, 41, 42, 43, 44, 45, 46, 47, 48, 49, 50, 51, 52, 53, 54, 55, 56, 57] (fun vo u _ _ _ _ _ _ _ _ _ _ _ _ _ _ _ _ _ _ _ _ _ _ _ _ _ _ _ _ _ _ _ _ _ _ _ _ _ _ _ _ _ _ _ _ _ _ _ _ _ _ _ _ _ wr => ∃ (k : Nat) (out : List Int), k ≤ l.length ∧ u = .int .i64 k ∧ SR (l.take k) out ∧ out.length ≤ k ∧ Hid (AzO wr w.heap.size vo out) ∧ Hid (Ext w wr)) (fun _ u _ _ _ _ _ _ _ _ _ _ _ _ _ _ _ _ _ _ _ _ _ _ _ _ _ _ _ _ _ _ _ _ _ _ _ _ _ _ _ _ _ _ _ _ _ _ _ _ _ _ _ _ _ _ => l.length - (intOf u).toNat)
  case atStart => exact ⟨0, [], by omega, rfl, ⟨List.Pairwise.nil, fun x => by simp⟩, by simp, Lib.hid (World.ownsRow_nil w _ _ 1), Lib.hid (Ext.refl w)⟩
  case round =>
    obtain ⟨k, out, hk, rfl, hsr, hok, HO, HE⟩ := hrel
    obtain ⟨_, A1, c1, rfl, hlc1, hm1, ha1⟩ := HO.out.az
    unfold maxLen at hm1
    have hol : out.length ≤ 1000000 := by omega
    by_cases hlt : k < l.length
    · obtain ⟨b0, o0, rfl, hc0⟩ := H0.out (by omega)
      have hx0 := HE.out.cell (hc0 k (az (l.getD k 0)) (by simp [hlt]))
      unfold az at hx0
      have HSK := Lib.hid (take_more l k hlt)
      clear hc0
      generalize l.getD k 0 = x at *
      go_wp2_with fail
      go_loopw [5, 12, 13, 14, 15, 16, 17, 18, 19, 20, 21, 22, 23, 24, 25, 26, 27, 28] (fun u _ _ _ _ _ _ _ _ _ _ _ _ _ _ _ _ _ wq => ∃ (p : Nat), p ≤ out.length ∧ u = .int .i64 p ∧ (∀ j, j < p → out.getD j 0 < x) ∧ Hid (Ext wr wq)) (fun u _ _ _ _ _ _ _ _ _ _ _ _ _ _ _ _ _ _ => out.length - (intOf u).toNat)
      case atStart => exact ⟨0, by omega, rfl, fun j hj => absurd hj (by omega), Lib.hid (Ext.refl wr)⟩
      case round =>
        obtain ⟨p, hp, rfl, hlow, HQ⟩ := hrel
        have hx := HQ.out.cell hx0
        by_cases hpl : p < out.length
        · have hd : decide (p < out.length) = true := by simp; omega
          obtain ⟨b1, o1, rfl, hc1⟩ := ha1 (by omega)
          have hy := HQ.out.cell (hc1 p (az (out.getD p 0)) (by simp [hpl]))
          unfold az at hy
          have HY := Lib.hid (show out.getD p 0 = out.getD p 0 from rfl)
          generalize hyv : out.getD p 0 = y at hy
          by_cases hyx : y < x
          · have hd2 : decide (y < x) = true := by simp; omega
            go_wp2_with fail
            go_quiet (fail)
            go_wp2_with fail
            exact ⟨⟨p + 1, by omega, by go_num, fun j hj => by
              by_cases h : j = p
              · rw [h, hyv]; exact hyx
              · exact hlow j (by omega), Lib.hid (ext_drewN HQ.out nq)⟩, by simp [intOf]; omega⟩
          · have hd2 : decide (y < x) = false := by simp; omega
            go_wp2_with fail
            go_quiet (fail)
            by_cases heq : y = x
            · have hq : (y == x) = true := by simp [heq]
              go_wp2_with fail
              go_quiet (fail)
              go_wp2_with fail
              exact ⟨⟨k + 1, out, by omega, by go_num, by rw [HSK.out]; exact dup_SR hsr x p hpl (by rw [hyv, heq]), by omega, Lib.hid (HO.out.ext (ext_drewN HQ.out _)), Lib.hid (HE.out.trans (ext_drewN HQ.out _))⟩, by simp [intOf]; omega⟩
            · have hq : (y == x) = false := by simp [heq]
              go_wp2_with fail
              go_quiet (fail)
              go_wp2_with fail
              have i1 : (0 : Int) ≤ (p : Int) := by omega
              have i2 : (p : Int) ≤ (c1 : Int) := by omega
              have i3 : (p : Int) ≤ (out.length : Int) := by omega
              have i4 : p ≤ c1 := by omega
              have i5 : ¬ c1 = p := by omega
              have i6 : (0 : Int) ≤ (k : Int) := by omega
              have i7 : (k : Int) < (l.length : Int) := by omega
              have HDR := Lib.hid (fun W (h : Ext wr W) => az_dropA ((HO.out.az.ext HQ.out).ext h) rfl p hpl hlc1)
              have HTK := Lib.hid (fun W (h : Ext wr W) => az_takeA ((HO.out.az.ext HQ.out).ext h) rfl p hp)
              have HSZ := Lib.hid (Nat.le_trans HE.out.size HQ.out.size)
              go_region_held3 (fun w' => w'.cell? ⟨b0, o0 + k, none⟩ = some (.int .u64 x)) (first | exact hx | exact ((Ext.refl _).alloc _).cell hx | exact HX2.out | exact HX1.out)
                (first
                  | (refine step_append_row rfl (.tmp 52) (.tmp 55) 22 rfl wr.heap.size 28 Try.underlying22 (.int .u64 0) 1 8 adinfo rfl (by decide) _ 1 [az x] rfl (own_oneA _ _ _ _ _ rfl (Nat.le_refl _)) _ (out.length - p) ((out.drop p).map az) rfl (HDR.out _ ((ext_drewN (Ext.refl wr) _).alloc _)) (az_one _) (by omega) (by decide) (by simp) ?_; intro v1 w1 ho1 hg1 _; have EX1 := Lib.hid (Ext.appendR ((ext_drewN (Ext.refl wr) _).alloc _) (own_oneA _ _ _ _ _ rfl (Nat.le_refl _)) hg1); have HX1 := Lib.hid (EX1.out.cell hx); have HO1 := Lib.hid ho1; clear ho1 hg1)
                  | (refine step_append_grows rfl (.tmp 47) (.tmp 56) 22 rfl 28 Try.underlying22 (.int .u64 0) 1 8 adinfo rfl (by decide) _ p ((out.take p).map az) rfl (some ⟨b1, o1, none⟩) rfl (HTK.out _ EX1.out) _ (1 + (out.length - p)) ([az x] ++ (out.drop p).map az) rfl (Rs.of_own HO1.out) (az_one (x :: out.drop p)) (by omega) (by omega) (by decide) (fun h => by cases h) ?_; intro v2 w2 ho2 hg2; have EX2 := Lib.hid (EX1.out.trans (ext_of_grown hg2)); have HX2 := Lib.hid (EX2.out.cell hx); have HO2 := Lib.hid (own_ins ho2 hp rfl (Nat.le_trans HSZ.out EX1.out.size)); clear ho2 hg2)
                  | fail)
              go_wp2_with fail
              exact ⟨⟨k + 1, out.take p ++ x :: out.drop p, by omega, by go_num, by rw [HSK.out]; exact ins_SR hsr x p hp hlow (fun _ => by rw [hyv]; omega), by simp; omega, HO2, Lib.hid (HE.out.trans (HQ.out.trans EX2.out))⟩, by simp [intOf]; omega⟩
        · obtain rfl : p = out.length := by omega
          have hnil : A1 = none → out.length = 0 := fun h => by
            rcases Nat.eq_zero_or_pos out.length with h0 | h0
            · exact h0
            · obtain ⟨b1, o1, e, _⟩ := ha1 h0
              rw [h] at e
              cases e
          have HNIL := Lib.hid hnil
          have HTK := Lib.hid (fun W (h : Ext wr W) => az_takeA ((HO.out.az.ext HQ.out).ext h) rfl out.length (Nat.le_refl _))
          have HSZ := Lib.hid (Nat.le_trans HE.out.size HQ.out.size)
          have i1 : (0 : Int) ≤ (out.length : Int) := by omega
          have i2 : (out.length : Int) ≤ (c1 : Int) := by omega
          have i6 : (0 : Int) ≤ (k : Int) := by omega
          have i7 : (k : Int) < (l.length : Int) := by omega
          have HC1 : Hid (c1 ≤ maxLen) := by unfold maxLen; exact hm1
          clear ha1 hnil
          by_cases i5 : c1 = out.length
          · go_wp2_with fail
            go_quiet (fail)
            go_wp2_with fail
            go_quiet (fail)
            go_wp2_with fail
            go_region_held3 (fun w' => w'.cell? ⟨b0, o0 + k, none⟩ = some (.int .u64 x)) (first | exact hx | exact ((Ext.refl _).alloc _).cell hx | exact HX2.out | exact HX1.out)
              (first
                | (refine step_append_row rfl (.tmp 52) (.tmp 55) 22 rfl wr.heap.size 28 Try.underlying22 (.int .u64 0) 1 8 adinfo rfl (by decide) _ 1 [az x] rfl (own_oneA _ _ _ _ _ rfl (Nat.le_refl _)) _ 0 [] rfl (rs_none _ _ _ (by have := HC1.out; omega)) (by simp) (by omega) (by decide) (by simp) ?_; intro v1 w1 ho1 hg1 _; have EX1 := Lib.hid (Ext.appendR ((ext_drewN (Ext.refl wr) _).alloc _) (own_oneA _ _ _ _ _ rfl (Nat.le_refl _)) hg1); have HX1 := Lib.hid (EX1.out.cell hx); have HO1 := Lib.hid ho1; clear ho1 hg1)
                | (refine step_append_grows rfl (.tmp 47) (.tmp 56) 22 rfl 28 Try.underlying22 (.int .u64 0) 1 8 adinfo rfl (by decide) _ out.length ((out.take out.length).map az) rfl A1 rfl (HTK.out _ EX1.out) _ (1 + 0) ([az x] ++ []) rfl (Rs.of_own HO1.out) (az_one [x]) (by omega) (by omega) (by decide) HNIL.out ?_; intro v2 w2 ho2 hg2; have EX2 := Lib.hid (EX1.out.trans (ext_of_grown hg2)); have HX2 := Lib.hid (EX2.out.cell hx); have HO2 := Lib.hid (own_ins (m := 0) (x := x) (by rw [List.drop_length]; exact ho2) (Nat.le_refl _) (by omega) (Nat.le_trans HSZ.out EX1.out.size)); clear ho2 hg2)
                | fail)
            go_wp2_with fail
            exact ⟨⟨k + 1, out.take out.length ++ x :: out.drop out.length, by omega, by go_num, by rw [HSK.out]; exact ins_SR hsr x out.length (Nat.le_refl _) hlow (fun h => absurd h (by omega)), by simp; omega, HO2, Lib.hid (HE.out.trans (HQ.out.trans EX2.out))⟩, by simp [intOf]; omega⟩
          · go_wp2_with fail
            go_quiet (fail)
            go_wp2_with fail
            go_quiet (fail)
            go_wp2_with fail
            go_region_held3 (fun w' => w'.cell? ⟨b0, o0 + k, none⟩ = some (.int .u64 x)) (first | exact hx | exact ((Ext.refl _).alloc _).cell hx | exact HX2.out | exact HX1.out)
              (first
                | (refine step_append_row rfl (.tmp 52) (.tmp 55) 22 rfl wr.heap.size 28 Try.underlying22 (.int .u64 0) 1 8 adinfo rfl (by decide) _ 1 [az x] rfl (own_oneA _ _ _ _ _ rfl (Nat.le_refl _)) _ 0 [] rfl (rs_none _ _ _ (by have := HC1.out; omega)) (by simp) (by omega) (by decide) (by simp) ?_; intro v1 w1 ho1 hg1 _; have EX1 := Lib.hid (Ext.appendR ((ext_drewN (Ext.refl wr) _).alloc _) (own_oneA _ _ _ _ _ rfl (Nat.le_refl _)) hg1); have HX1 := Lib.hid (EX1.out.cell hx); have HO1 := Lib.hid ho1; clear ho1 hg1)
                | (refine step_append_grows rfl (.tmp 47) (.tmp 56) 22 rfl 28 Try.underlying22 (.int .u64 0) 1 8 adinfo rfl (by decide) _ out.length ((out.take out.length).map az) rfl A1 rfl (HTK.out _ EX1.out) _ (1 + 0) ([az x] ++ []) rfl (Rs.of_own HO1.out) (az_one [x]) (by omega) (by omega) (by decide) HNIL.out ?_; intro v2 w2 ho2 hg2; have EX2 := Lib.hid (EX1.out.trans (ext_of_grown hg2)); have HX2 := Lib.hid (EX2.out.cell hx); have HO2 := Lib.hid (own_ins (m := 0) (x := x) (by rw [List.drop_length]; exact ho2) (Nat.le_refl _) (by omega) (Nat.le_trans HSZ.out EX1.out.size)); clear ho2 hg2)
                | fail)
            go_wp2_with fail
            exact ⟨⟨k + 1, out.take out.length ++ x :: out.drop out.length, by omega, by go_num, by rw [HSK.out]; exact ins_SR hsr x out.length (Nat.le_refl _) hlow (fun h => absurd h (by omega)), by simp; omega, HO2, Lib.hid (HE.out.trans (HQ.out.trans EX2.out))⟩, by simp [intOf]; omega⟩
    · obtain rfl : k = l.length := by omega
      rw [List.take_length] at hsr
      go_wp2_with fail
      go_ret
      exact ⟨_, out, rfl, hsr, HO.out, HE.out⟩
end Go.Proofs.Ytjampleddeidaaa
