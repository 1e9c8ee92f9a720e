/- Package journal: one mark more. -/
import Derived.Test.YtnjpdchmdimaaaaGreatQJnn
import Derived.ArgAppend
namespace Go.Proofs.YtnjpdchmdimaaaaGreat
open Go.ChangeShapes Go.WideShapes Go.ChangeAt Go.RowKit Go.Shelf

theorem step_append_growsJ {P : Program} {w : World} {ops : Array Oper} {o : Oper} {a : Act} {K : Act → World → Prop} {Q : Exit → Act → World → Prop} (hgd : Region.wanted o (yielded ops a.tmps) = true) (s x : Operand) (t : TypeId)
  (ho : o.op = .call { callee := .builtin .append, args := #[s, x], argTypes := #[t, t] }) (e : TypeId) (ht : P.underlying t = some (.slice e)) (z : Value) (sz bytes : Nat)
  (hinfo : (P.info? e).map (fun i => (i.zero, i.size, i.bytes)) = some (some z, sz, bytes)) (hzs : z.cells.size = sz) (hsz : 0 < sz)
  (v : Value) (n : Nat) (cs : List Value) (hs : a.eval s = v) (ao : Option Addr) (hv : v = .slice ao n n) (hr : Rs w sz v n cs) (sv : Value) (m : Nat) (ds : List Value) (hx : a.eval x = sv) (hb : Rs w sz sv m ds) (h1c : ∀ u ∈ ds, u.oneCell' = true) (hm : 0 < m)
  (hlen : n + m ≤ 1000000) (hby : bytes ≤ 1000) (hnil : ao = none → n = 0)
  (hK : ∀ v' w', w'.ownsRow w.heap.size e sz v' (n + m) (cs ++ ds) → w.grownBy w' none → K (a.put o.dst v') w') :
  if Region.wanted o (yielded ops a.tmps) = true then Oper.wp P o a w K Q else K (a.put o.dst undef) w := by
 obtain ⟨i0, hi, hz0, hz1, hz2⟩ := info_parts hinfo
 have hbb : (n + m) * bytes ≤ 140737488355328 := Nat.le_trans (Nat.mul_le_mul hlen hby) (by decide)
 have hmm : n + m ≤ maxLen := by unfold maxLen; omega
 obtain ⟨hl2, A2, c2, rfl, _, _, h2⟩ := hb
 obtain ⟨b2, o2, rfl, hc2⟩ := h2 hm
 have hadd : ∀ (b o j : Nat), (⟨b, o, none⟩ : Addr).add j = ⟨b, o + j, none⟩ := fun b o j => by unfold Addr.add; split <;> simp_all
 have hsrc : ∀ j u, ds[j]? = some u → w.cell? ((⟨b2, o2, none⟩ : Addr).add j) = some u := fun j u hu => by rw [hadd]; exact hc2 j u hu
 obtain ⟨hl1, A1, c1, e1, _, _, h1⟩ := hr
 have hrun : ∃ v' w', (Builtin.append_ #[t, t] o.type #[v, .slice (some ⟨b2, o2, none⟩) m c2]).run P w = .ok v' w' ∧ w'.ownsRow w.heap.size e sz v' (n + m) (cs ++ ds) ∧ w.grownBy w' none := by
  cases ao with
  | none =>
   obtain rfl := hnil rfl
   obtain rfl : cs = [] := List.eq_nil_of_length_eq_zero (by rw [hl1]; simp)
   subst hv
   obtain ⟨v', w', hr, ho', hg', _⟩ := run_append_own (P := P) w w.heap.size t o.type e i0 z sz bytes ht hi hz0 hz1 hz2 hzs hsz (.slice none 0 0) 0 [] (World.ownsRow_nil w _ e sz) ⟨b2, o2, none⟩ m c2 ds hl2 hsrc h1c hmm hbb (Nat.le_refl _)
   exact ⟨v', w', hr, ho', hg'⟩
  | some b =>
   subst hv
   injection e1 with e2 e3 e4
   subst e2
   by_cases hn : n = 0
   ·subst hn
    obtain rfl : cs = [] := List.eq_nil_of_length_eq_zero (by rw [hl1]; simp)
    exact run_append_arg_grows (P := P) w t o.type e i0 z sz bytes ht hi hz0 hz1 hz2 hzs hsz b 0 0 [] (by simp) (fun j u hu => by simp at hu) ⟨b2, o2, none⟩ m c2 ds hl2 hsrc (by omega) hmm hbb
   ·obtain ⟨b1, o1, e5, hc1⟩ := h1 (by omega)
    injection e5 with e5
    subst e5
    exact run_append_arg_grows (P := P) w t o.type e i0 z sz bytes ht hi hz0 hz1 hz2 hzs hsz ⟨b1, o1, none⟩ n n cs hl1 (fun j u hu => by rw [hadd]; exact hc1 j u hu) ⟨b2, o2, none⟩ m c2 ds hl2 hsrc (by omega) hmm hbb
 obtain ⟨v', w', hr, h4, h5⟩ := hrun
 rw [if_pos hgd]
 unfold Oper.wp
 simp [execOp, ho, resolve, invoke, builtin, hs, hx, hr, Result.andThen]
 exact hK v' w' h4 h5
theorem wpList_append_growsJ {P : Program} {w : World} {ops : Array Oper} {rest : List Oper} {o : Oper} {a : Act} {Q : Exit → Act → World → Prop} (hgd : Region.wanted o (yielded ops a.tmps) = true) (s x : Operand) (t : TypeId)
  (ho : o.op = .call { callee := .builtin .append, args := #[s, x], argTypes := #[t, t] }) (e : TypeId) (ht : P.underlying t = some (.slice e)) (z : Value) (sz bytes : Nat)
  (hinfo : (P.info? e).map (fun i => (i.zero, i.size, i.bytes)) = some (some z, sz, bytes)) (hzs : z.cells.size = sz) (hsz : 0 < sz)
  (v : Value) (n : Nat) (cs : List Value) (hs : a.eval s = v) (ao : Option Addr) (hv : v = .slice ao n n) (hr : Rs w sz v n cs) (sv : Value) (m : Nat) (ds : List Value) (hx : a.eval x = sv) (hb : Rs w sz sv m ds) (h1c : ∀ u ∈ ds, u.oneCell' = true) (hm : 0 < m)
  (hlen : n + m ≤ 1000000) (hby : bytes ≤ 1000) (hnil : ao = none → n = 0)
  (hK : ∀ v' w', w'.ownsRow w.heap.size e sz v' (n + m) (cs ++ ds) → w.grownBy w' none → wpList P ops Q rest (a.put o.dst v') w') :
  wpList P ops Q (o :: rest) a w :=
 wpList_step fun _ hK' => step_append_growsJ hgd s x t ho e ht z sz bytes hinfo hzs hsz v n cs hs ao hv hr sv m ds hx hb h1c hm hlen hby hnil fun v' w' h4 h5 => hK' _ _ (hK v' w' h4 h5)
theorem rs_po1 {W : World} {g : Nat} {E : TypeId} {a b c d e f : Value} (h : Cs W g E #[a, b, c, d, e, f]) : Rs W 6 (.slice (some ⟨g, 0, none⟩) 1 1) 1 [a, b, c, d, e, f] :=
 ⟨rfl, some ⟨g, 0, none⟩, 1, rfl, Nat.le_refl _, by unfold maxLen; decide, fun _ => ⟨g, 0, rfl, Cs.rg h⟩⟩
def MkC (g : Nat) (w : World) (L : List Po) (v : Value) (W : World) : Prop := ∃ (lo : Nat) (css : List (List Value)), g < lo ∧ W.ownsRow lo 37 6 v L.length css.flatten ∧ css.length = L.length ∧ (∀ cs ∈ css, cs.length = 6) ∧ ∀ (i : Nat) cs x, css[i]? = some cs → L[i]? = some x → PoR w cs x
theorem MkC.ext {g : Nat} {w : World} {L : List Po} {v : Value} {W W' : World} (h : MkC g w L v W) (he : Ext W W') : MkC g w L v W' := by
 obtain ⟨lo, css, h1, h2, h3⟩ := h
 exact ⟨lo, css, h1, own_ext h2 he, h3⟩
theorem MkC.put {g : Nat} {w : World} {L : List Po} {v : Value} {W W' : World} (h : MkC g w L v W) (hg : W.grownBy W' (some g)) : MkC g w L v W' := by
 obtain ⟨lo, css, h1, h2, h3⟩ := h
 exact ⟨lo, css, h1, own_low h2 hg h1, h3⟩
theorem MkC.pos {g : Nat} {w : World} {L : List Po} {v : Value} {W : World} (h : MkC g w L v W) (hE : Ext w W) : Pos W v L := by
 obtain ⟨lo, css, _, h3, h1, h2, h4⟩ := h
 obtain ⟨h5, A, c, e, k1, k2, k3⟩ := Rs.of_own h3
 refine ⟨A, c, e, k1, k2, fun hp => ?_⟩
 obtain ⟨b, o, ea, hc⟩ := k3 hp
 refine ⟨b, o, ea, fun i x hx => ?_⟩
 have hi : i < css.length := by rw [h1]; exact (List.getElem?_eq_some_iff.1 hx).1
 have hcs : css[i]? = some css[i] := List.getElem?_eq_getElem hi
 refine ⟨css[i], h2 _ (List.getElem_mem hi), (h4 i _ x hcs hx).ext hE, fun j u hu => ?_⟩
 have := hc (i * 6 + j) u (flat_get css h2 i _ hcs j u hu)
 rwa [← Nat.add_assoc] at this
theorem MkC.shp {g : Nat} {w : World} {L : List Po} {v : Value} {W : World} (h : MkC g w L v W) : ∃ A c, v = .slice A L.length c ∧ MkC g w L (.slice A L.length c) W := by
 obtain ⟨lo, css, h1, h2, h3⟩ := id h
 obtain ⟨_, A, c, e, _⟩ := Rs.of_own h2
 exact ⟨A, c, e, e ▸ h⟩
theorem MkC.add {g : Nat} {w W W' : World} {L : List Po} {p : Po} {css : List (List Value)} {ds : List Value} {v : Value} (hg : g < W.heap.size) (ho : W'.ownsRow W.heap.size 37 6 v (L.length + 1) (css.flatten ++ ds)) (kl : css.length = L.length) (ks : ∀ cs ∈ css, cs.length = 6)
  (kd : ∀ (i : Nat) cs x, css[i]? = some cs → L[i]? = some x → PoR w cs x) (hd : ds.length = 6) (hp : PoR w ds p) : MkC g w (L ++ [p]) v W' := by
 refine ⟨W.heap.size, css ++ [ds], hg, by simpa using ho, by simp [kl], fun cs hc => ?_, fun i cs x hc hx => ?_⟩
 ·rcases List.mem_append.1 hc with hc | hc
  ·exact ks cs hc
  ·rw [List.mem_singleton.1 hc]; exact hd
 ·rcases Nat.lt_or_ge i css.length with hlt | hge
  ·rw [List.getElem?_append_left hlt] at hc
   rw [List.getElem?_append_left (by omega)] at hx
   exact kd i cs x hc hx
  ·have h5 := (List.getElem?_eq_some_iff.1 hc).1
   have e : i = css.length := by simp at h5; omega
   subst e
   rw [List.getElem?_append_right (Nat.le_refl _), Nat.sub_self] at hc
   rw [List.getElem?_append_right (by omega), kl, Nat.sub_self] at hx
   have e1 : ds = cs := by simpa using hc
   have e2 : p = x := by simpa using hx
   rw [← e1, ← e2]
   exact hp
def MkJ (w W0 : World) (g gn : Nat) (n : Int) (xu xv xz xa xs xq : Value) (L : List Po) (v : Value) (W : World) : Prop := EnJ w W0 g gn n #[xu, xv, xz, xa, xs, xq, v] W ∧ MkC g w L v W
theorem MkJ.ext {w W0 : World} {g gn : Nat} {n : Int} {xu xv xz xa xs xq : Value} {L : List Po} {v : Value} {W W' : World} (h : MkJ w W0 g gn n xu xv xz xa xs xq L v W) (he : Ext W W') : MkJ w W0 g gn n xu xv xz xa xs xq L v W' := ⟨h.1.ext he, h.2.ext he⟩
def BdP (cs : Array Value) (W : World) (v : Value) : Prop := ∃ b, v = .slice (some ⟨b, 0, none⟩) 1 1 ∧ Cs W b 37 cs
theorem BdP.ext {cs : Array Value} {W W' : World} {v : Value} (h : BdP cs W v) (he : Ext W W') : BdP cs W' v := by
 obtain ⟨b, e, h⟩ := h
 exact ⟨b, e, Cs.ext h he⟩
def mkE (j : Jn) : Int := if j.m.length = 16 then 6 else 0
set_option maxRecDepth 100000 in
set_option maxHeartbeats 8000000 in
theorem mark1_any (g gn : Nat) (xu xv xz xa xs xq : Value) (AM : Option Addr) (c : Nat) (jj : Jn) (w W0 : World) (hw : w.heap.size ≤ g) (hn : gn ≠ g) (hE : Ext w W0)
  (hc : Cs W0 g 40 #[xu, xv, xz, xa, xs, xq, .slice AM jj.m.length c]) (hg : Cs W0 gn 3 #[.int .i64 (jj.m.length : Nat)]) (hx : WoR w xu xv xz jj.p.w ∧ AxR w xa xs xq jj.p.x ∧ Pos w (.slice AM jj.m.length c) jj.m) (hl : jj.m.length ≤ 16) :
  Calls Tryz.prog 68 #[.pointer (some ⟨g, 0, none⟩), .pointer (some ⟨gn, 0, none⟩)] W0 fun e w' => e = .returned (.int .i64 (mkE jj)) ∧ Below g W0 w' ∧ (mkE jj = 0 → ∃ cs, Cs w' g 40 cs ∧ JnR w' cs ⟨jj.p, jj.m ++ [jj.p]⟩) := by
 have HC := Lib.hid hc
 have HX := Lib.hid hx
 have HDEF : Hid (mkE jj = if jj.m.length = 16 then 6 else 0) := Lib.hid rfl
 have HLC := Lib.hid (show jj.m.length ≤ c by obtain ⟨A', c', e, h1, h2⟩ := hx.2.2.len; injection e with e1 e2 e3; omega)
 have HLN := Lib.hid (show jj.m.length + 1 ≤ 1000000 by omega)
 have HPP := Lib.hid (show PoR w [xu, xv, xz, xa, xs, xq] jj.p from ⟨_, _, _, _, _, _, rfl, hx.1, hx.2.1⟩)
 have HON := Lib.hid (poR_one HPP.out)
 obtain ⟨A1, hA1, hpa⟩ := pos_ahead hx.2.2 jj.m.length (Nat.le_refl _)
 rw [List.take_length] at hpa
 have HA1 := Lib.hid hA1
 have HNIL := Lib.hid (show A1 = none → jj.m.length = 0 from fun e => by
  rcases Nat.eq_zero_or_pos jj.m.length with h | h
  ·exact h
  ·obtain ⟨b, o, _, _, _, _, _, _, e2, _⟩ := Pos.at hpa 0 h
   rw [e] at e2
   cases e2)
 obtain ⟨css, kl, ks, kr, kd⟩ := Sl.css (by decide) hpa
 have HCSS := Lib.hid (And.intro kl (And.intro ks (And.intro kr kd)))
 have HJ : Hid (EnJ w W0 g gn (jj.m.length : Nat) #[xu, xv, xz, xa, xs, xq, .slice AM jj.m.length c] W0) := Lib.hid ⟨hc, hg, Below.refl _ _, hE, Nat.le_refl _⟩
 have hcn := hg.cell 0 _ rfl
 clear hc hg hE hx hA1 hpa kl ks kr kd hl
 by_cases h0 : jj.m.length = 16
 ·have hz : ((jj.m.length : Int) == 16) = true := by simp [h0]
  have hz2 : (jj.m.length == 16) = true := by simp [h0]
  have HEND := Lib.hid (show mkE jj = 6 by rw [HDEF.out, if_pos h0])
  clear h0
  go_enter Tryz.func68, Tryz.ntmps68
  go_wp2_with fail
  go_ret
  exact ⟨by rw [HEND.out]; rfl, Below.refl _ _, fun h => absurd h (by rw [HEND.out]; decide)⟩
 ·have hz : ((jj.m.length : Int) == 16) = false := by rw [beq_eq_false_iff_ne]; omega
  have hz2 : (jj.m.length == 16) = false := by rw [beq_eq_false_iff_ne]; exact h0
  have HEND := Lib.hid (show mkE jj = 0 by rw [HDEF.out, if_neg h0])
  clear h0
  go_enter Tryz.func68, Tryz.ntmps68
  go_upto_region 3 with fail
  clear hcn
  refine wp_named fun a0 ha0 => ?_
  obtain ⟨fr, hfr⟩ : ∃ fr : (Nat → Value) → Act, ∀ V, fr V = (((((((((((((((a0.put (some 6) (V 0)).put (some 7) (V 1)).put (some 8) (V 2)).put (some 9) (V 3)).put (some 10) (V 4)).put (some 11) (V 5)).put (some 12) (V 6)).put (some 13) (V 7)).put (some 14) (V 8)).put (some 15) (V 9)).put (some 16) (V 10)).put (some 17) (V 11)).put (some 18) (V 12)).put (some 19) (V 13)).put (some 20) (V 14)) := ⟨_, fun _ => rfl⟩
  rw [ha0] at hfr
  simp only [Act.put, List.setIfInBounds_toArray, List.set_cons_zero, List.set_cons_succ] at hfr
  have HFR := Lib.hid hfr
  clear hfr
  refine wp_region_inv (by kernel_rfl) (by kernel_rfl) (fun L A W => ∃ V : Nat → Value, A = fr V ∧ Vals (fun j => ([some (.pointer (some ⟨g, 0, none⟩)), some (.pointer (some ⟨g, 0, none⟩)), some (.pointer (some ⟨g, 0, none⟩)), some (.pointer (some ⟨g, 6, none⟩)), some (.slice AM jj.m.length c), some (.int .i64 (jj.m.length : Nat)), some (.slice A1 jj.m.length jj.m.length), some (.pointer (some ⟨g, 0, none⟩)), some (.pointer (some ⟨g, 0, none⟩)), some (.pointer (some ⟨g, 0, none⟩)), some (.agg #[xu, xv, xz, xa, xs, xq]), none, none, some (.pointer (some ⟨g, 0, none⟩)), some (.pointer (some ⟨g, 6, none⟩)), none] : List (Option Value)).getD j none) L V ∧ (L 15 = false → EnJ w W0 g gn (jj.m.length : Nat) #[xu, xv, xz, xa, xs, xq, .slice AM jj.m.length c] W) ∧ (L 15 = true → MkJ w W0 g gn (jj.m.length : Nat) xu xv xz xa xs xq (jj.m ++ [jj.p]) (V 12) W) ∧ (L 15 = false → L 11 = true → BdP #[xu, xv, xz, xa, xs, xq] W (V 11)) ∧ (L 15 = false → L 12 = true → MkC g w (jj.m ++ [jj.p]) (V 12) W)) ?_ ⟨?_, ?_, ?_, ?_, ?_, ?_, ?_, ?_, ?_, ?_, ?_, ?_, ?_, ?_, ?_, ?_, trivial⟩ ?_
  ·refine ⟨fun j => a0.tmps.getD (([6, 7, 8, 9, 10, 11, 12, 13, 14, 15, 16, 17, 18, 19, 20, 0] : List Nat).getD j 0) undef, ?_, Vals.no _ _ _ (far_none _ _ rfl), fun _ => HJ.out.ext (Ext.refl _).drew, fun h0 => absurd h0 (by decide), fun h0 h1 => absurd h1 (by decide), fun h0 h1 => absurd h1 (by decide)⟩
   rw [HFR.out, ha0]
   rfl
  all_goals clear ha0
  ·rintro L A W K hL hC hW ⟨V, rfl, HV, s0, s1, f11, f12⟩ hK
   have H := Lib.hid (show ∀ W', Ext W W' → K (fr (upd V 0 (.pointer (some ⟨g, 0, none⟩)))) W' from fun W' he => hK _ _ ⟨_, rfl, HV.us 0 _ rfl, fun h0 => EnJ.ext (s0 (mnf h0 rfl)) he, fun h0 => MkJ.ext (s1 (more_ne h0 rfl)) he, fun h0 h1 => BdP.ext (f11 (mnf h0 rfl) (more_ne h1 rfl)) he, fun h0 h1 => MkC.ext (f12 (mnf h0 rfl) (more_ne h1 rfl)) he⟩)
   clear hK hC hW hL HV s0 s1 f11 f12
   rw [HFR.out]
   go_wp2_with fail
   show K _ _; have := H.out _ (Ext.refl _); rw [HFR.out] at this
   exact this
  ·rintro L A W K hL hC hW ⟨V, rfl, HV, s0, s1, f11, f12⟩ hK
   have H := Lib.hid (show ∀ W', Ext W W' → K (fr (upd V 1 (.pointer (some ⟨g, 0, none⟩)))) W' from fun W' he => hK _ _ ⟨_, rfl, HV.us 1 _ rfl, fun h0 => EnJ.ext (s0 (mnf h0 rfl)) he, fun h0 => mtf (hC.no (hC.no (hC.no (hC.no (hC.no (hC.no hL 2 _ rfl rfl) 3 _ rfl rfl) 4 _ rfl rfl) 6 _ rfl rfl) 12 _ rfl rfl) 15 _ rfl rfl) (more_ne h0 rfl), fun h0 h1 => BdP.ext (f11 (mnf h0 rfl) (more_ne h1 rfl)) he, fun h0 h1 => mtf (hC.no (hC.no (hC.no (hC.no (hC.no hL 2 _ rfl rfl) 3 _ rfl rfl) 4 _ rfl rfl) 6 _ rfl rfl) 12 _ rfl rfl) (more_ne h1 rfl)⟩)
   clear hK hC hW hL HV s0 s1 f11 f12
   rw [HFR.out]
   go_wp2_with fail
   show K _ _; have := H.out _ (Ext.refl _); rw [HFR.out] at this
   exact this
  ·rintro L A W K hL hC hW ⟨V, rfl, HV, s0, s1, f11, f12⟩ hK
   have e1 := HV 1 _ rfl (hW 1 rfl)
   have H := Lib.hid (show ∀ W', Ext W W' → K (fr (upd V 2 (.pointer (some ⟨g, 0, none⟩)))) W' from fun W' he => hK _ _ ⟨_, rfl, HV.us 2 _ rfl, fun h0 => EnJ.ext (s0 (mnf h0 rfl)) he, fun h0 => MkJ.ext (s1 (more_ne h0 rfl)) he, fun h0 h1 => BdP.ext (f11 (mnf h0 rfl) (more_ne h1 rfl)) he, fun h0 h1 => MkC.ext (f12 (mnf h0 rfl) (more_ne h1 rfl)) he⟩)
   have HU := Lib.hid (show (upd V 2 (.pointer (some ⟨g, 0, none⟩))) 1 = .pointer (some ⟨g, 0, none⟩) from e1)
   clear hK hC hW hL HV s0 s1 f11 f12
   rw [HFR.out, e1]
   clear e1
   go_wp2_with fail
   show K _ _; have := H.out _ (Ext.refl _); rw [HFR.out] at this
   obtain u1 := HU.out
   rw [u1] at this
   exact this
  ·rintro L A W K hL hC hW ⟨V, rfl, HV, s0, s1, f11, f12⟩ hK
   have e2 := HV 2 _ rfl (hW 2 rfl)
   have H := Lib.hid (show ∀ W', Ext W W' → K (fr (upd V 3 (.pointer (some ⟨g, 6, none⟩)))) W' from fun W' he => hK _ _ ⟨_, rfl, HV.us 3 _ rfl, fun h0 => EnJ.ext (s0 (mnf h0 rfl)) he, fun h0 => MkJ.ext (s1 (more_ne h0 rfl)) he, fun h0 h1 => BdP.ext (f11 (mnf h0 rfl) (more_ne h1 rfl)) he, fun h0 h1 => MkC.ext (f12 (mnf h0 rfl) (more_ne h1 rfl)) he⟩)
   have HU := Lib.hid (show (upd V 3 (.pointer (some ⟨g, 6, none⟩))) 2 = .pointer (some ⟨g, 0, none⟩) from e2)
   clear hK hC hW hL HV s0 s1 f11 f12
   rw [HFR.out, e2]
   clear e2
   go_wp2_with fail
   show K _ _; have := H.out _ (Ext.refl _); rw [HFR.out] at this
   obtain u2 := HU.out
   rw [u2] at this
   exact this
  ·rintro L A W K hL hC hW ⟨V, rfl, HV, s0, s1, f11, f12⟩ hK
   have e3 := HV 3 _ rfl (hW 3 rfl)
   have hB := s0 (hC.no (hC.no (hC.no hL 6 _ rfl rfl) 12 _ rfl rfl) 15 _ rfl rfl)
   have H := Lib.hid (show ∀ W', Ext W W' → K (fr (upd V 4 (.slice AM jj.m.length c))) W' from fun W' he => hK _ _ ⟨_, rfl, HV.us 4 _ rfl, fun h0 => EnJ.ext (s0 (mnf h0 rfl)) he, fun h0 => MkJ.ext (s1 (more_ne h0 rfl)) he, fun h0 h1 => BdP.ext (f11 (mnf h0 rfl) (more_ne h1 rfl)) he, fun h0 h1 => MkC.ext (f12 (mnf h0 rfl) (more_ne h1 rfl)) he⟩)
   have HU := Lib.hid (show (upd V 4 (.slice AM jj.m.length c)) 3 = .pointer (some ⟨g, 6, none⟩) from e3)
   clear hK hC hW hL HV s0 s1 f11 f12
   rw [HFR.out, e3]
   clear e3
   have hcl := hB.1.cell 6 _ rfl
   clear hB
   go_wp2_with fail
   show K _ _; have := H.out _ (Ext.refl _); rw [HFR.out] at this
   obtain u3 := HU.out
   rw [u3] at this
   exact this
  ·rintro L A W K hL hC hW ⟨V, rfl, HV, s0, s1, f11, f12⟩ hK
   have hB := s0 (hC.no (hC.no (hC.no hL 6 _ rfl rfl) 12 _ rfl rfl) 15 _ rfl rfl)
   have H := Lib.hid (show ∀ W', Ext W W' → K (fr (upd V 5 (.int .i64 (jj.m.length : Nat)))) W' from fun W' he => hK _ _ ⟨_, rfl, HV.us 5 _ rfl, fun h0 => EnJ.ext (s0 (mnf h0 rfl)) he, fun h0 => MkJ.ext (s1 (more_ne h0 rfl)) he, fun h0 h1 => BdP.ext (f11 (mnf h0 rfl) (more_ne h1 rfl)) he, fun h0 h1 => MkC.ext (f12 (mnf h0 rfl) (more_ne h1 rfl)) he⟩)
   clear hK hC hW hL HV s0 s1 f11 f12
   rw [HFR.out]
   have hcl := hB.2.1.cell 0 _ rfl
   clear hB
   go_wp2_with fail
   show K _ _; have := H.out _ (Ext.refl _); rw [HFR.out] at this
   exact this
  ·rintro L A W K hL hC hW ⟨V, rfl, HV, s0, s1, f11, f12⟩ hK
   have e4 := HV 4 _ rfl (hW 4 rfl)
   have e5 := HV 5 _ rfl (hW 5 rfl)
   have hB := s0 (hC.no (hC.no hL 12 _ rfl rfl) 15 _ rfl rfl)
   have H := Lib.hid (show ∀ W', Ext W W' → K (fr (upd V 6 (.slice A1 jj.m.length jj.m.length))) W' from fun W' he => hK _ _ ⟨_, rfl, HV.us 6 _ rfl, fun h0 => EnJ.ext (s0 (mnf h0 rfl)) he, fun h0 => MkJ.ext (s1 (more_ne h0 rfl)) he, fun h0 h1 => BdP.ext (f11 (mnf h0 rfl) (more_ne h1 rfl)) he, fun h0 h1 => MkC.ext (f12 (mnf h0 rfl) (more_ne h1 rfl)) he⟩)
   have HU := Lib.hid (show (upd V 6 (.slice A1 jj.m.length jj.m.length)) 4 = .slice AM jj.m.length c ∧ (upd V 6 (.slice A1 jj.m.length jj.m.length)) 5 = .int .i64 (jj.m.length : Nat) from ⟨e4, e5⟩)
   clear hK hC hW hL HV s0 s1 f11 f12
   rw [HFR.out, e4, e5]
   clear e4 e5
   clear hB
   go_wp2_with fail
   refine (ahead_any AM A1 jj.m.length c jj.m.length _ HLC.out HA1.out).mono ?_
   rintro e wx ⟨rfl, he⟩
   have := H.out _ he
   clear H
   go_wp2_with fail
   show K _ _
   rw [HFR.out] at this
   obtain ⟨u4, u5⟩ := HU.out
   rw [u4, u5] at this
   exact this
  ·rintro L A W K hL hC hW ⟨V, rfl, HV, s0, s1, f11, f12⟩ hK
   have H := Lib.hid (show ∀ W', Ext W W' → K (fr (upd V 7 (.pointer (some ⟨g, 0, none⟩)))) W' from fun W' he => hK _ _ ⟨_, rfl, HV.us 7 _ rfl, fun h0 => EnJ.ext (s0 (mnf h0 rfl)) he, fun h0 => MkJ.ext (s1 (more_ne h0 rfl)) he, fun h0 h1 => BdP.ext (f11 (mnf h0 rfl) (more_ne h1 rfl)) he, fun h0 h1 => MkC.ext (f12 (mnf h0 rfl) (more_ne h1 rfl)) he⟩)
   clear hK hC hW hL HV s0 s1 f11 f12
   rw [HFR.out]
   go_wp2_with fail
   show K _ _; have := H.out _ (Ext.refl _); rw [HFR.out] at this
   exact this
  ·rintro L A W K hL hC hW ⟨V, rfl, HV, s0, s1, f11, f12⟩ hK
   have e7 := HV 7 _ rfl (hW 7 rfl)
   have H := Lib.hid (show ∀ W', Ext W W' → K (fr (upd V 8 (.pointer (some ⟨g, 0, none⟩)))) W' from fun W' he => hK _ _ ⟨_, rfl, HV.us 8 _ rfl, fun h0 => EnJ.ext (s0 (mnf h0 rfl)) he, fun h0 => MkJ.ext (s1 (more_ne h0 rfl)) he, fun h0 h1 => BdP.ext (f11 (mnf h0 rfl) (more_ne h1 rfl)) he, fun h0 h1 => MkC.ext (f12 (mnf h0 rfl) (more_ne h1 rfl)) he⟩)
   have HU := Lib.hid (show (upd V 8 (.pointer (some ⟨g, 0, none⟩))) 7 = .pointer (some ⟨g, 0, none⟩) from e7)
   clear hK hC hW hL HV s0 s1 f11 f12
   rw [HFR.out, e7]
   clear e7
   go_wp2_with fail
   show K _ _; have := H.out _ (Ext.refl _); rw [HFR.out] at this
   obtain u7 := HU.out
   rw [u7] at this
   exact this
  ·rintro L A W K hL hC hW ⟨V, rfl, HV, s0, s1, f11, f12⟩ hK
   have e8 := HV 8 _ rfl (hW 8 rfl)
   have H := Lib.hid (show ∀ W', Ext W W' → K (fr (upd V 9 (.pointer (some ⟨g, 0, none⟩)))) W' from fun W' he => hK _ _ ⟨_, rfl, HV.us 9 _ rfl, fun h0 => EnJ.ext (s0 (mnf h0 rfl)) he, fun h0 => MkJ.ext (s1 (more_ne h0 rfl)) he, fun h0 h1 => BdP.ext (f11 (mnf h0 rfl) (more_ne h1 rfl)) he, fun h0 h1 => MkC.ext (f12 (mnf h0 rfl) (more_ne h1 rfl)) he⟩)
   have HU := Lib.hid (show (upd V 9 (.pointer (some ⟨g, 0, none⟩))) 8 = .pointer (some ⟨g, 0, none⟩) from e8)
   clear hK hC hW hL HV s0 s1 f11 f12
   rw [HFR.out, e8]
   clear e8
   go_wp2_with fail
   show K _ _; have := H.out _ (Ext.refl _); rw [HFR.out] at this
   obtain u8 := HU.out
   rw [u8] at this
   exact this
  ·rintro L A W K hL hC hW ⟨V, rfl, HV, s0, s1, f11, f12⟩ hK
   have e9 := HV 9 _ rfl (hW 9 rfl)
   have hB := s0 (hC.no (hC.no (hC.no hL 11 _ rfl rfl) 12 _ rfl rfl) 15 _ rfl rfl)
   have H := Lib.hid (show ∀ W', Ext W W' → K (fr (upd V 10 (.agg #[xu, xv, xz, xa, xs, xq]))) W' from fun W' he => hK _ _ ⟨_, rfl, HV.us 10 _ rfl, fun h0 => EnJ.ext (s0 (mnf h0 rfl)) he, fun h0 => MkJ.ext (s1 (more_ne h0 rfl)) he, fun h0 h1 => BdP.ext (f11 (mnf h0 rfl) (more_ne h1 rfl)) he, fun h0 h1 => MkC.ext (f12 (mnf h0 rfl) (more_ne h1 rfl)) he⟩)
   have HU := Lib.hid (show (upd V 10 (.agg #[xu, xv, xz, xa, xs, xq])) 9 = .pointer (some ⟨g, 0, none⟩) from e9)
   clear hK hC hW hL HV s0 s1 f11 f12
   rw [HFR.out, e9]
   clear e9
   have HRG := Lib.hid (rg_part (cs := [xu, xv, xz, xa, xs, xq, .slice AM jj.m.length c]) (ds := [xu, xv, xz, xa, xs, xq]) 0 (Cs.rg hB.1) (fun j y hy => by rcases j with _ | _ | _ | _ | _ | _ | j; all_goals first | exact hy | (simp at hy)))
   clear hB
   refine wpList_loadPo rfl (.tmp 15) rfl g 0 xu xv xz xa xs xq rfl HRG.out ?_
   show K _ _; have := H.out _ (Ext.refl _); rw [HFR.out] at this
   obtain u9 := HU.out
   rw [u9] at this
   exact this
  ·rintro L A W K hL hC hW ⟨V, rfl, HV, s0, s1, f11, f12⟩ hK
   have e10 := HV 10 _ rfl (hW 10 rfl)
   have H := Lib.hid (show ∀ v W', Ext W W' → (BdP #[xu, xv, xz, xa, xs, xq] W' v) → K (fr (upd V 11 v)) W' from fun v W' he hp => hK _ _ ⟨_, rfl, HV.un 11 _ rfl, fun h0 => EnJ.ext (s0 (mnf h0 rfl)) he, fun h0 => MkJ.ext (s1 (more_ne h0 rfl)) he, fun h0 h1 => hp, fun h0 h1 => MkC.ext (f12 (mnf h0 rfl) (more_ne h1 rfl)) he⟩)
   have HU := Lib.hid (show ∀ v, (upd V 11 v) 10 = .agg #[xu, xv, xz, xa, xs, xq] from fun v => e10)
   clear hK hC hW hL HV s0 s1 f11 f12
   rw [HFR.out, e10]
   clear e10
   refine wpList_build_one rfl (.tmp 16) 38 37 rfl Tryz.underlying38 _ 6 144 poinfo3 (by decide) (by decide) #[xu, xv, xz, xa, xs, xq] rfl rfl ?_
   show K _ _; have := H.out (.slice (some ⟨W.heap.size, 0, none⟩) 1 1) _ ((Ext.refl W).alloc (.cells #[xu, xv, xz, xa, xs, xq] 37)) (⟨_, rfl, Cs.new _ _ _ _ rfl⟩); rw [HFR.out] at this
   obtain u10 := HU.out _
   rw [u10] at this
   exact this
  ·rintro L A W K hL hC hW ⟨V, rfl, HV, s0, s1, f11, f12⟩ hK
   have e6 := HV 6 _ rfl (hW 6 rfl)
   have hB := s0 (hC.no hL 15 _ rfl rfl)
   have q11 := f11 (hC.no hL 15 _ rfl rfl) (hW 11 rfl)
   obtain ⟨b11, e11, k11⟩ := q11
   have H := Lib.hid (show ∀ v W', Ext W W' → (MkC g w (jj.m ++ [jj.p]) v W') → K (fr (upd V 12 v)) W' from fun v W' he hp => hK _ _ ⟨_, rfl, HV.un 12 _ rfl, fun h0 => EnJ.ext (s0 (mnf h0 rfl)) he, fun h0 => mtf (hC.no hL 15 _ rfl rfl) (more_ne h0 rfl), fun h0 h1 => BdP.ext (f11 (mnf h0 rfl) (more_ne h1 rfl)) he, fun h0 h1 => hp⟩)
   have HU := Lib.hid (show ∀ v, (upd V 12 v) 6 = .slice A1 jj.m.length jj.m.length ∧ (upd V 12 v) 11 = .slice (some ⟨b11, 0, none⟩) 1 1 from fun v => ⟨e6, e11⟩)
   clear hK hC hW hL HV s0 s1 f11 f12
   rw [HFR.out, e6, e11]
   clear e6 e11
   have HB := Lib.hid hB
   have K3 := Lib.hid k11
   clear hB k11
   refine wpList_append_growsJ rfl (.tmp 12) (.tmp 17) 38 rfl 37 Tryz.underlying38 _ 6 144 poinfo3 rfl (by decide) (.slice A1 jj.m.length jj.m.length) jj.m.length css.flatten rfl A1 rfl (HCSS.out.2.2.1.ext HB.out.2.2.2.1) (.slice (some ⟨b11, 0, none⟩) 1 1) 1 [xu, xv, xz, xa, xs, xq] rfl (rs_po1 K3.out) HON.out (by decide) HLN.out (by decide) HNIL.out ?_
   intro v5 w5 o5 g5
   show K _ _; have := H.out (v5) _ (ext_of_grown g5) (MkC.add HB.out.1.lt o5 HCSS.out.1 HCSS.out.2.1 HCSS.out.2.2.2 rfl HPP.out); rw [HFR.out] at this
   obtain ⟨u6, u11⟩ := HU.out _
   rw [u6, u11] at this
   exact this
  ·rintro L A W K hL hC hW ⟨V, rfl, HV, s0, s1, f11, f12⟩ hK
   have e0 := HV 0 _ rfl (hW 0 rfl)
   have H := Lib.hid (show ∀ W', Ext W W' → K (fr (upd V 13 (.pointer (some ⟨g, 0, none⟩)))) W' from fun W' he => hK _ _ ⟨_, rfl, HV.us 13 _ rfl, fun h0 => EnJ.ext (s0 (mnf h0 rfl)) he, fun h0 => MkJ.ext (s1 (more_ne h0 rfl)) he, fun h0 h1 => BdP.ext (f11 (mnf h0 rfl) (more_ne h1 rfl)) he, fun h0 h1 => MkC.ext (f12 (mnf h0 rfl) (more_ne h1 rfl)) he⟩)
   have HU := Lib.hid (show (upd V 13 (.pointer (some ⟨g, 0, none⟩))) 0 = .pointer (some ⟨g, 0, none⟩) from e0)
   clear hK hC hW hL HV s0 s1 f11 f12
   rw [HFR.out, e0]
   clear e0
   go_wp2_with fail
   show K _ _; have := H.out _ (Ext.refl _); rw [HFR.out] at this
   obtain u0 := HU.out
   rw [u0] at this
   exact this
  ·rintro L A W K hL hC hW ⟨V, rfl, HV, s0, s1, f11, f12⟩ hK
   have e13 := HV 13 _ rfl (hW 13 rfl)
   have H := Lib.hid (show ∀ W', Ext W W' → K (fr (upd V 14 (.pointer (some ⟨g, 6, none⟩)))) W' from fun W' he => hK _ _ ⟨_, rfl, HV.us 14 _ rfl, fun h0 => EnJ.ext (s0 (mnf h0 rfl)) he, fun h0 => MkJ.ext (s1 (more_ne h0 rfl)) he, fun h0 h1 => BdP.ext (f11 (mnf h0 rfl) (more_ne h1 rfl)) he, fun h0 h1 => MkC.ext (f12 (mnf h0 rfl) (more_ne h1 rfl)) he⟩)
   have HU := Lib.hid (show (upd V 14 (.pointer (some ⟨g, 6, none⟩))) 13 = .pointer (some ⟨g, 0, none⟩) from e13)
   clear hK hC hW hL HV s0 s1 f11 f12
   rw [HFR.out, e13]
   clear e13
   go_wp2_with fail
   show K _ _; have := H.out _ (Ext.refl _); rw [HFR.out] at this
   obtain u13 := HU.out
   rw [u13] at this
   exact this
  ·rintro L A W K hL hC hW ⟨V, rfl, HV, s0, s1, f11, f12⟩ hK
   have e14 := HV 14 _ rfl (hW 14 rfl)
   have hB := s0 hL
   have q12 := f12 hL (hW 12 rfl)
   obtain ⟨A12, c12, e12, z12⟩ := q12.shp
   have H := Lib.hid (show ∀ W', (MkJ w W0 g gn (jj.m.length : Nat) xu xv xz xa xs xq (jj.m ++ [jj.p]) (V 12) W') → K (fr (V)) W' from fun W' hA => hK _ _ ⟨V, rfl, HV.st 15 rfl, fun h0 => msf h0, fun h0 => hA, fun h0 h1 => msf h0, fun h0 h1 => msf h0⟩)
   have HU := Lib.hid (show (V) 14 = .pointer (some ⟨g, 6, none⟩) ∧ (V) 12 = .slice A12 (jj.m ++ [jj.p]).length c12 from ⟨e14, e12⟩)
   clear hK hC hW hL HV s0 s1 f11 f12
   rw [HFR.out, e14, e12]
   clear e14 e12
   have HB := Lib.hid hB
   have Z1 := Lib.hid z12
   clear hB z12
   refine wpList_store_one rfl rfl 38 (.tmp 20) (.tmp 18) rfl g 6 40 #[xu, xv, xz, xa, xs, xq, .slice AM jj.m.length c] (.slice A12 (jj.m ++ [jj.p]).length c12) rfl rfl rfl HB.out.1 infoLPo (of_decide_eq_true rfl) rfl ?_
   intro w' kk gg
   have HA := Lib.hid (show MkJ w W0 g gn (jj.m.length : Nat) xu xv xz xa xs xq (jj.m ++ [jj.p]) (V 12) w' from by rw [HU.out.2]; exact ⟨HB.out.put kk gg hn hw, Z1.out.put gg⟩)
   clear kk gg
   show K _ _; have := H.out _ HA.out; rw [HFR.out] at this
   obtain ⟨u14, u12⟩ := HU.out
   rw [u14, u12] at this
   exact this
  ·rintro L A W hL ⟨V, rfl, HV, s0, s1, f11, f12⟩
   have e0 := HV 0 _ rfl (hL 0 (by simp))
   have e1 := HV 1 _ rfl (hL 1 (by simp))
   have e2 := HV 2 _ rfl (hL 2 (by simp))
   have e3 := HV 3 _ rfl (hL 3 (by simp))
   have e4 := HV 4 _ rfl (hL 4 (by simp))
   have e5 := HV 5 _ rfl (hL 5 (by simp))
   have e6 := HV 6 _ rfl (hL 6 (by simp))
   have e7 := HV 7 _ rfl (hL 7 (by simp))
   have e8 := HV 8 _ rfl (hL 8 (by simp))
   have e9 := HV 9 _ rfl (hL 9 (by simp))
   have e10 := HV 10 _ rfl (hL 10 (by simp))
   have e13 := HV 13 _ rfl (hL 13 (by simp))
   have e14 := HV 14 _ rfl (hL 14 (by simp))
   have hA := s1 (hL 15 (by simp))
   rw [HFR.out, e0, e1, e2, e3, e4, e5, e6, e7, e8, e9, e10, e13, e14]
   clear hL HV HFR e0 e1 e2 e3 e4 e5 e6 e7 e8 e9 e10 e13 e14 s0 s1 f11 f12
   have HA := Lib.hid hA
   clear hA
   go_wp2_with fail
   go_ret
   have hE := HA.out.1.2.2.2.1
   exact ⟨by rw [HEND.out]; rfl, HA.out.1.2.2.1, fun _ => ⟨_, HA.out.1.1, _, _, _, _, _, _, _, rfl, HX.out.1.ext hE, HX.out.2.1.ext hE, HA.out.2.pos hE⟩⟩
end Go.Proofs.YtnjpdchmdimaaaaGreat
