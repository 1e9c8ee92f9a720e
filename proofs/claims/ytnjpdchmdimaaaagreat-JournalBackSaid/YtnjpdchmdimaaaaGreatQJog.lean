/- Package journal: the laws' gone. -/
import Derived.Test.YtnjpdchmdimaaaaGreatQJof
namespace Go.Proofs.YtnjpdchmdimaaaaGreat
open Go.ChangeShapes Go.WideShapes Go.ChangeAt Go.RowKit Go.Shelf

set_option maxRecDepth 100000 in
theorem infoSp : (Tryz.prog.info? 61).map (·.size) = some 8 := by kernel_rfl
set_option maxRecDepth 100000 in
theorem wpList_loadSp {ops : Array Oper} {rest : List Oper} {o : Oper} {a0 : Act} {w : World} {Q : Exit → Act → World → Prop} (hgd : Region.wanted o (yielded ops a0.tmps) = true) (x : Operand) (ho : o.op = .load 61 x)
  (g k : Nat) (k0 n0 u v z a s q : Value) (hx : a0.eval x = .pointer (some ⟨g, k, none⟩)) (hg : w.rangeAt g k [k0, n0, u, v, z, a, s, q]) (h : wpList Tryz.prog ops Q rest (a0.put o.dst (.agg #[k0, n0, u, v, z, a, s, q])) w) : wpList Tryz.prog ops Q (o :: rest) a0 w := by
 refine wpList_step fun K hK => ?_
 rw [if_pos hgd]
 refine wp_load_mid 61 x ho g k hx [k0, n0, u, v, z, a, s, q] _ hg Tryz.underlying61 rfl infoSp ?_
 exact hK _ _ h
set_option maxRecDepth 100000 in
theorem wpList_storeSp {ops : Array Oper} {rest : List Oper} {o : Oper} {a0 : Act} {w : World} {Q : Exit → Act → World → Prop} (hgd : o.guard = none) (hd : o.dst = none) (x y : Operand) (ho : o.op = .store 61 x y)
  (g : Nat) (cs' cs : Array Value) (hx : a0.eval x = .pointer (some ⟨g, 0, none⟩)) (hy : a0.eval y = .agg cs) (hs : cs.size = 8) (hs' : cs'.size = 8) (h1 : cs.all (·.oneCell') = true) (hg : Cs w g 61 cs')
  (h : ∀ w', Cs w' g 61 cs → w.grownBy w' (some g) → wpList Tryz.prog ops Q rest a0 w') : wpList Tryz.prog ops Q (o :: rest) a0 w := by
 have h' : ∀ w', Cs w' g 61 cs → w.grownBy w' (some g) → wpList Tryz.prog ops Q rest (a0.put o.dst undef) w' := by rw [hd]; exact h
 refine wpList_store_row hgd 61 x y ho g cs hx hy 61 cs' hg (by rw [hs]; exact infoSp) (by rw [hs, hs']) h1 (h' _ ?_ ?_)
 ·exact setRow_heap w g _ _ 61 (0, 0) hg
 ·exact ⟨rfl, rfl, rfl, by simp [World.setRow], fun k _ hk => setRow_other w g k _ (fun e => hk (by simp [e]))⟩
def cutS (s : Sp) : Sp := ⟨s.k, s.n, cutO s.w, cutX s.x⟩
def sp0 : Sp := ⟨0, 0, wo0, ax0⟩
def gnS (m : Int) (j : Jn) (s : Sp) : Jn := if abvB (cutS s) m = true then (if (doJ (cutS s) j).2.2 = 0 then (doJ (cutS s) j).1 else j) else j
def gonJ (m : Int) (j : Jn) (l : List Sp) : Jn := (l.take 20).foldl (gnS m) j
theorem endJ_szj {j : Jn} {n : Int} {p : Po} (hz : SzJ j) (hp : SzW p.w) (he : (endJ j n p).2 = 0) : SzJ (endJ j n p).1 := by
 obtain ⟨_, _, _, e⟩ := endJ_zero he
 rw [e]
 exact ⟨hp, fun q hq => hz.2 q (List.mem_of_mem_take hq)⟩
theorem doJ_sz {s : Sp} {j : Jn} (hz : SzJ j) (hs : SzW s.w) (he : (doJ s j).2.2 = 0) : SzJ (doJ s j).1 := by
 unfold doJ at he ⊢
 split at he
 ·rename_i h
  rw [if_pos h]
  unfold markJ at he ⊢
  split at he
  ·rename_i h0
   rw [if_pos h0]
   obtain ⟨_, _, e⟩ := mkR_zero h0
   rw [e]
   exact ⟨hz.1, fun q hq => by
    rcases List.mem_append.1 hq with hq | hq
    ·exact hz.2 q hq
    ·rw [List.mem_singleton.1 hq]; exact hz.1⟩
  ·rename_i h0
   exact absurd he h0
 ·rename_i h
  rw [if_neg h]
  split at he
  ·rename_i h
   rw [if_pos h]
   refine endJ_szj hz ?_ he
   obtain ⟨_, h1, h2, _⟩ := endJ_zero (show (endJ j s.n (j.m.getD s.n.toNat po0)).2 = 0 from he)
   refine hz.2 _ ?_
   have hlt : s.n.toNat < j.m.length := by omega
   rw [List.getD_eq_getElem?_getD, List.getElem?_eq_getElem hlt]
   exact List.getElem_mem hlt
  ·rename_i h
   rw [if_neg h]
   split at he
   ·rename_i h
    rw [if_pos h]
    exact endJ_szj hz hz.1 he
   ·rename_i h
    rw [if_neg h]
    split at he
    ·rename_i h
     rw [if_pos h]
     obtain ⟨hr, ho⟩ := layJ_zero he
     rw [layJ_yes hr ho]
     exact ⟨hs, hz.2⟩
    ·rename_i h
     rw [if_neg h]
     obtain ⟨hr, h2, _⟩ := jchg_zero (show (jchg j (tchE s.x) ⟨⟨j.p.w, s.x⟩, j.m⟩).2 = 0 from he)
     rw [tchJ_yes hr (tchE_zero.1 h2)]
     exact ⟨hz.1, hz.2⟩
theorem gnS_sz {m : Int} {j : Jn} {s : Sp} (hz : SzJ j) : SzJ (gnS m j s) := by
 unfold gnS
 split
 ·split
  ·rename_i h
   exact doJ_sz hz (cutO_sz s.w) h
  ·exact hz
 ·exact hz
theorem gon_sz {m : Int} : ∀ (l : List Sp) {j : Jn}, SzJ j → SzJ (l.foldl (gnS m) j)
 | [], _, h => h
 | s :: l, _, h => gon_sz l (gnS_sz (s := s) h)
def GoS (w : World) (g3 g6 : Nat) (a b c d e f m : Value) (j : Jn) (W : World) : Prop :=
 Cs W g3 40 #[a, b, c, d, e, f, m] ∧ Cs W g6 40 #[.slice none 0 0, .slice none 0 0, .slice none 0 0, .slice none 0 0, .slice none 0 0, .slice none 0 0, .slice none 0 0] ∧ Ext w W ∧ ((WoR w a b c j.p.w ∧ AxR w d e f j.p.x ∧ Pos w m j.m) ∨ RetJn (g6 + 1) W (.agg #[a, b, c, d, e, f, m]) j)
theorem GoS.ext {w : World} {g3 g6 : Nat} {a b c d e f m : Value} {j : Jn} {W W' : World} (h : GoS w g3 g6 a b c d e f m j W) (he : Ext W W') : GoS w g3 g6 a b c d e f m j W' :=
 ⟨Cs.ext h.1 he, Cs.ext h.2.1 he, h.2.2.1.trans he, h.2.2.2.imp id (·.ext he)⟩
theorem GoS.read {w : World} {g3 g6 : Nat} {a b c d e f m : Value} {j : Jn} {W : World} (h : GoS w g3 g6 a b c d e f m j W) : WoR W a b c j.p.w ∧ AxR W d e f j.p.x ∧ Pos W m j.m := by
 rcases h.2.2.2 with h1 | h1
 ·exact ⟨h1.1.ext h.2.2.1, h1.2.1.ext h.2.2.1, h1.2.2.ext h.2.2.1⟩
 ·exact h1.parts
theorem GoS.one {w : World} {g3 g6 : Nat} {a b c d e f m : Value} {j : Jn} {W : World} (h : GoS w g3 g6 a b c d e f m j W) : (#[a, b, c, d, e, f, m] : Array Value).all (·.oneCell') = true := by
 obtain ⟨h1, h2, h3⟩ := h.read
 obtain ⟨y1, y2, y3⟩ := axr_one h2
 simp [acs_one h1.1, hds_one h1.2.1, nns_one h1.2.2, y1, y2, y3, pos_one h3]
theorem GoS.put {w : World} {g3 g6 : Nat} {a b c d e f m a' b' c' d' e' f' m' : Value} {j j' : Jn} {W W' : World} (h : GoS w g3 g6 a b c d e f m j W) (hr : RetJn (g6 + 1) W (.agg #[a', b', c', d', e', f', m']) j') (hk : Cs W' g3 40 #[a', b', c', d', e', f', m']) (hg : W.grownBy W' (some g3)) (h36 : g3 < g6) (hw : w.heap.size ≤ g3) : GoS w g3 g6 a' b' c' d' e' f' m' j' W' :=
 ⟨hk, Cs.kept h.2.1 hg (fun e => absurd (Option.some.inj e) (by omega)), h.2.2.1.grown hg hw, .inr (hr.old hg (by omega))⟩
theorem GoS.fin {w : World} {g3 g6 : Nat} {a b c d e f m : Value} {j : Jn} {W W' : World} (h : GoS w g3 g6 a b c d e f m j W) (hg : W.grownBy W' (some g6)) (hw : w.heap.size ≤ g6) : (WoR W' a b c j.p.w ∧ AxR W' d e f j.p.x ∧ Pos W' m j.m) ∧ Ext w W' := by
 have he := h.2.2.1.grown hg hw
 refine ⟨?_, he⟩
 rcases h.2.2.2 with h1 | h1
 ·exact ⟨h1.1.ext he, h1.2.1.ext he, h1.2.2.ext he⟩
 ·exact (h1.old hg (Nat.lt_succ_self _)).parts
def GoB (w0 : World) (g : Nat) (k n : Int) (v2 v5 : Value) (W : World) : Prop := ∃ p q r x y z, v2 = .agg #[p, q, r] ∧ v5 = .agg #[x, y, z] ∧ Cs W g 61 #[.int .i64 k, .int .i64 n, p, q, r, x, y, z] ∧ Ext w0 W
theorem GoB.ext {w0 : World} {g : Nat} {k n : Int} {v2 v5 : Value} {W W' : World} (h : GoB w0 g k n v2 v5 W) (he : Ext W W') : GoB w0 g k n v2 v5 W' := by
 obtain ⟨p, q, r, x, y, z, e1, e2, h1, h2⟩ := h
 exact ⟨p, q, r, x, y, z, e1, e2, Cs.ext h1 he, h2.trans he⟩
theorem GoF.ext {w0 : World} {g lo : Nat} {k n : Int} {v2 v5 v2' v5' : Value} {o : Wo} {x : Ax} {W W' : World} (h : GoB w0 g k n v2 v5 W ∧ RetWo lo W v2' o ∧ RetX lo W v5' x) (he : Ext W W') : GoB w0 g k n v2 v5 W' ∧ RetWo lo W' v2' o ∧ RetX lo W' v5' x := ⟨h.1.ext he, h.2.1.ext he, h.2.2.ext he⟩
theorem Sps.len {W : World} {v : Value} {l : List Sp} (h : Sps W v l) : ∃ A c, v = .slice A l.length c ∧ l.length ≤ c ∧ c ≤ maxLen := by
 obtain ⟨A, c, e, h1, h2, _⟩ := h
 exact ⟨A, c, e, h1, h2⟩
theorem Sps.at {W : World} {A : Option Addr} {n c : Nat} {l : List Sp} (h : Sps W (.slice A n c) l) (i : Nat) (hi : i < l.length) : ∃ b o u v z a s q, A = some ⟨b, o, none⟩ ∧ W.rangeAt b (o + i * 8) [.int .i64 (l.getD i sp0).k, .int .i64 (l.getD i sp0).n, u, v, z, a, s, q] ∧ WoR W u v z (l.getD i sp0).w ∧ AxR W a s q (l.getD i sp0).x := by
 obtain ⟨A', c', e, _, _, h3⟩ := h
 injection e with e1 e2 e3
 subst e1
 obtain ⟨b, o, rfl, hc⟩ := h3 (by omega)
 have hx : l[i]? = some (l.getD i sp0) := by rw [List.getD_eq_getElem?_getD, List.getElem?_eq_getElem hi]; rfl
 obtain ⟨cs, _, ⟨_, _, u, v, z, a, s, q, rfl, h1, h2⟩, h5⟩ := hc i _ hx
 exact ⟨b, o, u, v, z, a, s, q, rfl, h5, h1, h2⟩
theorem retX_allJ {a b c : Value} (h : a.oneCell' = true ∧ b.oneCell' = true ∧ c.oneCell' = true) : (#[a, b, c] : Array Value).all (·.oneCell') = true := by simp [h.1, h.2.1, h.2.2]
set_option maxRecDepth 100000 in
set_option maxHeartbeats 8000000 in
theorem gone_any (xu xv xz xa xs xq xm sl : Value) (j : Jn) (l : List Sp) (mk : Int) (w : World) (hx : WoR w xu xv xz j.p.w ∧ AxR w xa xs xq j.p.x ∧ Pos w xm j.m) (hz : SzJ j) (hl : Sps w sl l) :
  Calls Tryz.prog 27 #[.agg #[xu, xv, xz, xa, xs, xq, xm], sl, .int .i64 mk] w fun e w' => ∃ a b c d x y m, e = .returned (.agg #[a, b, c, d, x, y, m]) ∧ (WoR w' a b c (gonJ mk j l).p.w ∧ AxR w' d x y (gonJ mk j l).p.x ∧ Pos w' m (gonJ mk j l).m) ∧ Ext w w' := by
 obtain ⟨AL, cL, rfl, hl1, hl2⟩ := hl.len
 have HL := Lib.hid hl
 have HZ := Lib.hid hz
 have HDF : Hid (gonJ mk j l = (l.take 20).foldl (gnS mk) j) := Lib.hid rfl
 have ho1 : (#[xu, xv, xz, xa, xs, xq, xm] : Array Value).all (·.oneCell') = true := by
  obtain ⟨y1, y2, y3⟩ := axr_one hx.2.1
  simp [acs_one hx.1.1, hds_one hx.1.2.1, nns_one hx.1.2.2, y1, y2, y3, pos_one hx.2.2]
 obtain ⟨w0, hw0⟩ : ∃ w0, (w.alloc (.cells #[xu, xv, xz, xa, xs, xq, xm] 40)).alloc (.cells #[.slice none 0 0, .slice none 0 0, .slice none 0 0, .slice none 0 0, .slice none 0 0, .slice none 0 0, .slice none 0 0] 40) = w0 := ⟨_, rfl⟩
 have HJ0 : Hid (GoS w w.heap.size (w.heap.size + 1) xu xv xz xa xs xq xm j w0) := Lib.hid ⟨by rw [← hw0]; exact Cs.alloc (Cs.new _ _ _ _ rfl) _, by rw [← hw0]; exact Cs.new _ _ _ _ (by simp), by rw [← hw0]; exact ((Ext.refl w).alloc _).alloc _, .inl hx⟩
 have HW0 := Lib.hid hw0
 have HLB := Lib.hid (And.intro hl1 hl2)
 clear hx hz hl hw0 hl1 hl2
 go_enter Tryz.func27, Tryz.ntmps27
 go_upto_region 1 with fail
 rw [HW0.out]
 clear HW0 ho1
 go_wp2_with fail
 have hlb := HLB.out
 unfold maxLen at hlb
 go_loopw [14] (fun iv wr => ∃ k : Nat, k ≤ l.length ∧ k ≤ 20 ∧ iv = .int .i64 k ∧ Hid (∃ a b c d x y m, GoS w w.heap.size (w.heap.size + 1) a b c d x y m ((l.take k).foldl (gnS mk) j) wr)) (fun iv _ => l.length - (intOf iv).toNat)
 case atStart => exact ⟨0, by omega, by omega, rfl, Lib.hid ⟨_, _, _, _, _, _, _, HJ0.out⟩⟩
 case round =>
  obtain ⟨k, hk, hk20, rfl, HJ⟩ := hrel
  clear HJ0
  obtain ⟨ja, jb, jc, jd, je, jf, jm, hJ⟩ := HJ.out
  have HSJ := Lib.hid (gon_sz (m := mk) (l.take k) HZ.out)
  by_cases hlt : k < l.length
  ·have hd : decide (k < l.length) = true := decide_eq_true hlt
   have hd2 : decide ((k : Int) < (l.length : Int)) = true := decide_eq_true (by omega)
   obtain ⟨bb, oo, su, sv, sz, sa, ss, sq, rfl, hrg, hw, hx⟩ := HL.out.at k hlt
   have HSW := Lib.hid (show WoR wr su sv sz (l.getD k sp0).w ∧ AxR wr sa ss sq (l.getD k sp0).x from ⟨hw.ext hJ.2.2.1, hx.ext hJ.2.2.1⟩)
   have HRG := Lib.hid (show wr.rangeAt bb (oo + k * 8) [.int .i64 (l.getD k sp0).k, .int .i64 (l.getD k sp0).n, su, sv, sz, sa, ss, sq] from fun j x hx => hJ.2.2.1.cell (hrg j x hx))
   have HON := Lib.hid (show (#[.int .i64 (l.getD k sp0).k, .int .i64 (l.getD k sp0).n, su, sv, sz, sa, ss, sq] : Array Value).all (·.oneCell') = true by
    obtain ⟨y1, y2, y3⟩ := axr_one hx
    simp [acs_one hw.1, hds_one hw.2.1, nns_one hw.2.2, y1, y2, y3]
    exact ⟨rfl, rfl⟩)
   have HTK := Lib.hid (show (l.take (k + 1)).foldl (gnS mk) j = gnS mk ((l.take k).foldl (gnS mk) j) (l.getD k sp0) by
    rw [List.take_add_one, List.foldl_append, List.getElem?_eq_getElem hlt, List.getD_eq_getElem?_getD, List.getElem?_eq_getElem hlt]
    rfl)
   have HJK := Lib.hid hJ
   clear hrg hw hx hJ HJ
   generalize l.getD k sp0 = s at *
   generalize hjk : (l.take k).foldl (gnS mk) j = jk at *
   have HTJ := Lib.hid hjk
   clear hjk
   by_cases h20 : k = 20
   ·have f20 : ((k : Int) == 20) = true := by rw [h20]; rfl
    have HFIN := Lib.hid (show gonJ mk j l = jk by rw [HDF.out, ← h20]; exact HTJ.out)
    clear h20
    go_wp2_with (first
     | ((with_reducible refine wpList_loadSp ?_ (.tmp 17) ?_ bb (oo + k * 8) (.int .i64 s.k) (.int .i64 s.n) su sv sz sa ss sq ?_ ?_ ?_); (exact rfl); (exact rfl); (exact rfl); (exact HRG.out))
     | ((with_reducible refine wpList_storeSp ?_ ?_ (.tmp 8) (.tmp 18) ?_ wr.heap.size #[.int .i64 0, .int .i64 0, .slice none 0 0, .slice none 0 0, .slice none 0 0, .slice none 0 0, .slice none 0 0, .slice none 0 0] #[.int .i64 s.k, .int .i64 s.n, su, sv, sz, sa, ss, sq] ?_ ?_ ?_ ?_ ?_ ?_ ?_); (exact rfl); (exact rfl); (exact rfl); (exact rfl); (exact rfl); (exact rfl); (exact rfl); (exact HON.out); (exact Cs.new _ _ _ _ rfl); intro w5 k5 g5; have K5 := Lib.hid k5; have E5 := Lib.hid (((Ext.refl wr).alloc (.cells #[.int .i64 0, .int .i64 0, .slice none 0 0, .slice none 0 0, .slice none 0 0, .slice none 0 0, .slice none 0 0, .slice none 0 0] 61)).grown g5 (Nat.le_refl _)); have HJF := Lib.hid (HJK.out.ext E5.out); have RGF : Hid (w5.rangeAt w.heap.size 0 [ja, jb, jc, jd, je, jf, jm]) := Lib.hid (Cs.rg HJF.out.1); have HOF := Lib.hid HJF.out.one; have HCF := Lib.hid HJF.out.2.1; clear k5 g5)
     | ((with_reducible refine wpList_loadJn ?_ (.tmp 3) ?_ w.heap.size 0 ja jb jc jd je jf jm ?_ ?_ ?_); (exact rfl); (exact rfl); (exact rfl); (exact RGF.out))
     | ((with_reducible refine wpList_storeJn ?_ ?_ (.tmp 6) (.tmp 44) ?_ (w.heap.size + 1) (.slice none 0 0) (.slice none 0 0) (.slice none 0 0) (.slice none 0 0) (.slice none 0 0) (.slice none 0 0) (.slice none 0 0) ja jb jc jd je jf jm ?_ ?_ HOF.out HCF.out ?_); (exact rfl); (exact rfl); (exact rfl); (exact rfl); (exact rfl); intro w9 k9 g9; have K9 := Lib.hid k9; have HFI := Lib.hid (HJF.out.fin g9 (Nat.le_succ _)); clear k9 g9))
    refine bodyPost_ret (results_jno Tryz.results27 _ _ (w.heap.size + 1) _ _ _ _ _ _ _ rfl K9.out) rfl ?_
    rw [HFIN.out]
    exact ⟨_, _, _, _, _, _, _, rfl, HFI.out.1, HFI.out.2⟩
   have f20 : ((k : Int) == 20) = false := by rw [beq_eq_false_iff_ne]; omega
   go_upto_region 5 with (first
    | ((with_reducible refine wpList_loadSp ?_ (.tmp 17) ?_ bb (oo + k * 8) (.int .i64 s.k) (.int .i64 s.n) su sv sz sa ss sq ?_ ?_ ?_); (exact rfl); (exact rfl); (exact rfl); (exact HRG.out))
    | ((with_reducible refine wpList_storeSp ?_ ?_ (.tmp 8) (.tmp 18) ?_ wr.heap.size #[.int .i64 0, .int .i64 0, .slice none 0 0, .slice none 0 0, .slice none 0 0, .slice none 0 0, .slice none 0 0, .slice none 0 0] #[.int .i64 s.k, .int .i64 s.n, su, sv, sz, sa, ss, sq] ?_ ?_ ?_ ?_ ?_ ?_ ?_); (exact rfl); (exact rfl); (exact rfl); (exact rfl); (exact rfl); (exact rfl); (exact rfl); (exact HON.out); (exact Cs.new _ _ _ _ rfl); intro w5 k5 g5; have K5 := Lib.hid k5; have E5 := Lib.hid (((Ext.refl wr).alloc (.cells #[.int .i64 0, .int .i64 0, .slice none 0 0, .slice none 0 0, .slice none 0 0, .slice none 0 0, .slice none 0 0, .slice none 0 0] 61)).grown g5 (Nat.le_refl _)); clear k5 g5))
   have HGB : Hid (GoB wr wr.heap.size s.k s.n (.agg #[su, sv, sz]) (.agg #[sa, ss, sq]) w5) := Lib.hid ⟨_, _, _, _, _, _, rfl, rfl, K5.out, E5.out⟩
   clear K5 E5 HRG HON
   refine wp_named fun a0 ha0 => ?_
   obtain ⟨fr, hfr⟩ : ∃ fr : (Nat → Value) → Act, ∀ V, fr V = ((((((((a0.put (some 21) (V 0)).put (some 22) (V 1)).put (some 23) (V 2)).put (some 24) (V 3)).put (some 25) (V 4)).put (some 26) (V 5)).put (some 27) (V 6)).put (some 28) (V 8)) := ⟨_, fun _ => rfl⟩
   rw [ha0] at hfr
   simp only [Act.put, List.setIfInBounds_toArray, List.set_cons_zero, List.set_cons_succ] at hfr
   have HFR := Lib.hid hfr
   clear hfr
   refine wp_region_inv (by kernel_rfl) (by kernel_rfl) (fun L A W => ∃ V : Nat → Value, A = fr V ∧ Vals (fun j => ([some (.pointer (some ⟨wr.heap.size, 2, none⟩)), some (.agg #[su, sv, sz]), none, some (.pointer (some ⟨wr.heap.size, 5, none⟩)), some (.agg #[sa, ss, sq]), none, some (.pointer (some ⟨wr.heap.size, 2, none⟩)), none, some (.pointer (some ⟨wr.heap.size, 5, none⟩)), none] : List (Option Value)).getD j none) L V ∧ (L 7 = false → GoB wr wr.heap.size s.k s.n (.agg #[su, sv, sz]) (.agg #[sa, ss, sq]) W) ∧ (L 7 = true → L 9 = false → (GoB wr wr.heap.size s.k s.n (V 2) (.agg #[sa, ss, sq]) W ∧ RetWo (wr.heap.size + 1) W (V 2) (cutO s.w) ∧ RetX (wr.heap.size + 1) W (V 5) (cutX s.x))) ∧ (L 9 = true → (GoB wr wr.heap.size s.k s.n (V 2) (V 5) W ∧ RetWo (wr.heap.size + 1) W (V 2) (cutO s.w) ∧ RetX (wr.heap.size + 1) W (V 5) (cutX s.x))) ∧ (L 2 = true → RetWo (wr.heap.size + 1) W (V 2) (cutO s.w)) ∧ (L 5 = true → RetX (wr.heap.size + 1) W (V 5) (cutX s.x))) ?_ ⟨?_, ?_, ?_, ?_, ?_, ?_, ?_, ?_, ?_, ?_, trivial⟩ ?_
   ·refine ⟨fun j => a0.tmps.getD (([21, 22, 23, 24, 25, 26, 27, 0, 28, 0] : List Nat).getD j 0) undef, ?_, Vals.no _ _ _ (far_none _ _ rfl), fun _ => HGB.out.ext (Ext.refl _).drew, fun h0 h1 => absurd h0 (by decide), fun h0 => absurd h0 (by decide), fun h0 => absurd h0 (by decide), fun h0 => absurd h0 (by decide)⟩
    rw [HFR.out, ha0]
    rfl
   all_goals clear ha0
   ·rintro L A W K hL hC hW ⟨V, rfl, HV, s0, s1, s2, f2, f5⟩ hK
    have H := Lib.hid (show ∀ W', Ext W W' → K (fr (upd V 0 (.pointer (some ⟨wr.heap.size, 2, none⟩)))) W' from fun W' he => hK _ _ ⟨_, rfl, HV.us 0 _ rfl, fun h0 => GoB.ext (s0 (mnf h0 rfl)) he, fun h0 h1 => GoF.ext (s1 (more_ne h0 rfl) (mnf h1 rfl)) he, fun h0 => GoF.ext (s2 (more_ne h0 rfl)) he, fun h0 => RetWo.ext (f2 (more_ne h0 rfl)) he, fun h0 => RetX.ext (f5 (more_ne h0 rfl)) he⟩)
    clear hK hC hW hL HV s0 s1 s2 f2 f5
    rw [HFR.out]
    go_wp2_with fail
    show K _ _; have := H.out _ (Ext.refl _); rw [HFR.out] at this
    exact this
   ·rintro L A W K hL hC hW ⟨V, rfl, HV, s0, s1, s2, f2, f5⟩ hK
    have e0 := HV 0 _ rfl (hW 0 rfl)
    have hB := s0 (hC.no (hC.no hL 2 _ rfl rfl) 7 _ rfl rfl)
    have H := Lib.hid (show ∀ W', Ext W W' → K (fr (upd V 1 (.agg #[su, sv, sz]))) W' from fun W' he => hK _ _ ⟨_, rfl, HV.us 1 _ rfl, fun h0 => GoB.ext (s0 (mnf h0 rfl)) he, fun h0 h1 => GoF.ext (s1 (more_ne h0 rfl) (mnf h1 rfl)) he, fun h0 => GoF.ext (s2 (more_ne h0 rfl)) he, fun h0 => RetWo.ext (f2 (more_ne h0 rfl)) he, fun h0 => RetX.ext (f5 (more_ne h0 rfl)) he⟩)
    have HU := Lib.hid (show (upd V 1 (.agg #[su, sv, sz])) 0 = .pointer (some ⟨wr.heap.size, 2, none⟩) from e0)
    clear hK hC hW hL HV s0 s1 s2 f2 f5
    rw [HFR.out, e0]
    clear e0
    obtain ⟨p, q, r, xx, y, z, e1, e2, k1, _⟩ := hB
    injection e1 with e1
    injection e2 with e2
    simp only [Array.mk.injEq, List.cons.injEq, and_true] at e1 e2
    obtain ⟨rfl, rfl, rfl⟩ := e1
    obtain ⟨rfl, rfl, rfl⟩ := e2
    have HRG := Lib.hid (rg_part (cs := [.int .i64 s.k, .int .i64 s.n, su, sv, sz, sa, ss, sq]) (ds := [su, sv, sz]) (o := 0) 2 (Cs.rg k1) (fun j y hy => by rcases j with _ | _ | _ | j; all_goals first | exact hy | (simp at hy)))
    clear k1
    refine wpList_loadWo rfl (.tmp 21) rfl wr.heap.size 2 su sv sz rfl HRG.out ?_
    show K _ _; have := H.out _ (Ext.refl _); rw [HFR.out] at this
    obtain u0 := HU.out
    rw [u0] at this
    exact this
   ·rintro L A W K hL hC hW ⟨V, rfl, HV, s0, s1, s2, f2, f5⟩ hK
    have e1 := HV 1 _ rfl (hW 1 rfl)
    have hB := s0 (hC.no hL 7 _ rfl rfl)
    have H := Lib.hid (show ∀ v W', Ext W W' → (RetWo (wr.heap.size + 1) W' v (cutO s.w)) → K (fr (upd V 2 v)) W' from fun v W' he hp => hK _ _ ⟨_, rfl, HV.un 2 _ rfl, fun h0 => GoB.ext (s0 (mnf h0 rfl)) he, fun h0 h1 => mtf (hC.no hL 7 _ rfl rfl) (more_ne h0 rfl), fun h0 => mtf (hC.no (hC.no hL 5 _ rfl rfl) 9 _ rfl rfl) (more_ne h0 rfl), fun h0 => hp, fun h0 => RetX.ext (f5 (more_ne h0 rfl)) he⟩)
    have HU := Lib.hid (show ∀ v, (upd V 2 v) 1 = .agg #[su, sv, sz] from fun v => e1)
    clear hK hC hW hL HV s0 s1 s2 f2 f5
    rw [HFR.out, e1]
    clear e1
    obtain ⟨_, _, _, _, _, _, _, _, k1, k2⟩ := hB
    have HB := Lib.hid k2
    have HSZ := Lib.hid (Nat.succ_le_of_lt k1.lt)
    clear k1 k2
    go_wp2_with fail
    refine (worldO_any _ _ _ s.w _ (HSW.out.1.ext HB.out)).mono ?_
    rintro e wx ⟨vx, rfl, ho, he⟩
    have := H.out _ _ he (ho.low HSZ.out)
    clear H
    go_wp2_with fail
    show K _ _
    rw [HFR.out] at this
    obtain u1 := HU.out _
    rw [u1] at this
    exact this
   ·rintro L A W K hL hC hW ⟨V, rfl, HV, s0, s1, s2, f2, f5⟩ hK
    have H := Lib.hid (show ∀ W', Ext W W' → K (fr (upd V 3 (.pointer (some ⟨wr.heap.size, 5, none⟩)))) W' from fun W' he => hK _ _ ⟨_, rfl, HV.us 3 _ rfl, fun h0 => GoB.ext (s0 (mnf h0 rfl)) he, fun h0 h1 => GoF.ext (s1 (more_ne h0 rfl) (mnf h1 rfl)) he, fun h0 => GoF.ext (s2 (more_ne h0 rfl)) he, fun h0 => RetWo.ext (f2 (more_ne h0 rfl)) he, fun h0 => RetX.ext (f5 (more_ne h0 rfl)) he⟩)
    clear hK hC hW hL HV s0 s1 s2 f2 f5
    rw [HFR.out]
    go_wp2_with fail
    show K _ _; have := H.out _ (Ext.refl _); rw [HFR.out] at this
    exact this
   ·rintro L A W K hL hC hW ⟨V, rfl, HV, s0, s1, s2, f2, f5⟩ hK
    have e3 := HV 3 _ rfl (hW 3 rfl)
    have hB := s0 (hC.no (hC.no hL 5 _ rfl rfl) 7 _ rfl rfl)
    have H := Lib.hid (show ∀ W', Ext W W' → K (fr (upd V 4 (.agg #[sa, ss, sq]))) W' from fun W' he => hK _ _ ⟨_, rfl, HV.us 4 _ rfl, fun h0 => GoB.ext (s0 (mnf h0 rfl)) he, fun h0 h1 => GoF.ext (s1 (more_ne h0 rfl) (mnf h1 rfl)) he, fun h0 => GoF.ext (s2 (more_ne h0 rfl)) he, fun h0 => RetWo.ext (f2 (more_ne h0 rfl)) he, fun h0 => RetX.ext (f5 (more_ne h0 rfl)) he⟩)
    have HU := Lib.hid (show (upd V 4 (.agg #[sa, ss, sq])) 3 = .pointer (some ⟨wr.heap.size, 5, none⟩) from e3)
    clear hK hC hW hL HV s0 s1 s2 f2 f5
    rw [HFR.out, e3]
    clear e3
    obtain ⟨p, q, r, xx, y, z, e1, e2, k1, _⟩ := hB
    injection e1 with e1
    injection e2 with e2
    simp only [Array.mk.injEq, List.cons.injEq, and_true] at e1 e2
    obtain ⟨rfl, rfl, rfl⟩ := e1
    obtain ⟨rfl, rfl, rfl⟩ := e2
    have HRG := Lib.hid (rg_part (cs := [.int .i64 s.k, .int .i64 s.n, su, sv, sz, sa, ss, sq]) (ds := [sa, ss, sq]) (o := 0) 5 (Cs.rg k1) (fun j y hy => by rcases j with _ | _ | _ | j; all_goals first | exact hy | (simp at hy)))
    clear k1
    refine wpList_loadXk rfl (.tmp 24) rfl wr.heap.size 5 sa ss sq rfl HRG.out ?_
    show K _ _; have := H.out _ (Ext.refl _); rw [HFR.out] at this
    obtain u3 := HU.out
    rw [u3] at this
    exact this
   ·rintro L A W K hL hC hW ⟨V, rfl, HV, s0, s1, s2, f2, f5⟩ hK
    have e4 := HV 4 _ rfl (hW 4 rfl)
    have hB := s0 (hC.no hL 7 _ rfl rfl)
    have q2 := f2 (hW 2 rfl)
    obtain ⟨a2, b2, c2, e2, z2⟩ := retWo_shp q2
    have H := Lib.hid (show ∀ v W', Ext W W' → (RetX (wr.heap.size + 1) W' v (cutX s.x)) → K (fr (upd V 5 v)) W' from fun v W' he hp => hK _ _ ⟨_, rfl, HV.un 5 _ rfl, fun h0 => GoB.ext (s0 (mnf h0 rfl)) he, fun h0 h1 => mtf (hC.no hL 7 _ rfl rfl) (more_ne h0 rfl), fun h0 => mtf (hC.no hL 9 _ rfl rfl) (more_ne h0 rfl), fun h0 => RetWo.ext (f2 (more_ne h0 rfl)) he, fun h0 => hp⟩)
    have HU := Lib.hid (show ∀ v, (upd V 5 v) 4 = .agg #[sa, ss, sq] ∧ (upd V 5 v) 2 = .agg #[a2, b2, c2] from fun v => ⟨e4, e2⟩)
    clear hK hC hW hL HV s0 s1 s2 f2 f5
    rw [HFR.out, e4, e2]
    clear e4 e2
    obtain ⟨_, _, _, _, _, _, _, _, k1, k2⟩ := hB
    have HB := Lib.hid k2
    have HSZ := Lib.hid (Nat.succ_le_of_lt k1.lt)
    clear k1 k2
    go_wp2_with fail
    refine (touchedX_any _ _ _ s.x _ (HSW.out.2.ext HB.out)).mono ?_
    rintro e wx ⟨vx, rfl, ho, he⟩
    have := H.out _ _ he (ho.low HSZ.out)
    clear H
    go_wp2_with fail
    show K _ _
    rw [HFR.out] at this
    obtain ⟨u4, u2⟩ := HU.out _
    rw [u4, u2] at this
    exact this
   ·rintro L A W K hL hC hW ⟨V, rfl, HV, s0, s1, s2, f2, f5⟩ hK
    have H := Lib.hid (show ∀ W', Ext W W' → K (fr (upd V 6 (.pointer (some ⟨wr.heap.size, 2, none⟩)))) W' from fun W' he => hK _ _ ⟨_, rfl, HV.us 6 _ rfl, fun h0 => GoB.ext (s0 (mnf h0 rfl)) he, fun h0 h1 => GoF.ext (s1 (more_ne h0 rfl) (mnf h1 rfl)) he, fun h0 => GoF.ext (s2 (more_ne h0 rfl)) he, fun h0 => RetWo.ext (f2 (more_ne h0 rfl)) he, fun h0 => RetX.ext (f5 (more_ne h0 rfl)) he⟩)
    clear hK hC hW hL HV s0 s1 s2 f2 f5
    rw [HFR.out]
    go_wp2_with fail
    show K _ _; have := H.out _ (Ext.refl _); rw [HFR.out] at this
    exact this
   ·rintro L A W K hL hC hW ⟨V, rfl, HV, s0, s1, s2, f2, f5⟩ hK
    have e6 := HV 6 _ rfl (hW 6 rfl)
    have hB := s0 hL
    have qa1 := f2 (hW 2 rfl)
    have qa2 := f5 (hW 5 rfl)
    have q2 := f2 (hW 2 rfl)
    obtain ⟨a2, b2, c2, e2, z2⟩ := retWo_shp q2
    have q5 := f5 (hW 5 rfl)
    obtain ⟨a5, b5, c5, e5, z5⟩ := retX_shp q5
    have H := Lib.hid (show ∀ W', ((GoB wr wr.heap.size s.k s.n (V 2) (.agg #[sa, ss, sq]) W' ∧ RetWo (wr.heap.size + 1) W' (V 2) (cutO s.w) ∧ RetX (wr.heap.size + 1) W' (V 5) (cutX s.x))) → K (fr (V)) W' from fun W' hA => hK _ _ ⟨V, rfl, HV.st 7 rfl, fun h0 => msf h0, fun h0 h1 => hA, fun h0 => mtf (hC.no hL 9 _ rfl rfl) (more_ne h0 rfl), fun h0 => hA.2.1, fun h0 => hA.2.2⟩)
    have HU := Lib.hid (show (V) 6 = .pointer (some ⟨wr.heap.size, 2, none⟩) ∧ (V) 2 = .agg #[a2, b2, c2] ∧ (V) 5 = .agg #[a5, b5, c5] from ⟨e6, e2, e5⟩)
    clear hK hC hW hL HV s0 s1 s2 f2 f5
    rw [HFR.out, e6, e2, e5]
    clear e6 e2 e5
    have ZZ := Lib.hid z2
    have Q1 := Lib.hid qa1
    have Q2 := Lib.hid qa2
    obtain ⟨p, q, r, xx, y, z, ee1, ee2, k1, k2⟩ := hB
    injection ee1 with ee1
    injection ee2 with ee2
    simp only [Array.mk.injEq, List.cons.injEq, and_true] at ee1 ee2
    obtain ⟨rfl, rfl, rfl⟩ := ee1
    obtain ⟨rfl, rfl, rfl⟩ := ee2
    have HK := Lib.hid k1
    have HKE := Lib.hid k2
    clear z2 qa1 qa2 k1 k2
    refine wpList_store_in rfl rfl 30 (.tmp 27) (.tmp 23) rfl wr.heap.size 2 61 #[.int .i64 s.k, .int .i64 s.n, su, sv, sz, sa, ss, sq] #[a2, b2, c2] rfl rfl HK.out infoWo (of_decide_eq_true rfl) ZZ.out.one ?_
    intro w' kk gg
    have HA := Lib.hid (show (GoB wr wr.heap.size s.k s.n (V 2) (.agg #[sa, ss, sq]) w' ∧ RetWo (wr.heap.size + 1) w' (V 2) (cutO s.w) ∧ RetX (wr.heap.size + 1) w' (V 5) (cutX s.x)) from ⟨⟨_, _, _, _, _, _, HU.out.2.1, rfl, kk, HKE.out.grown gg (Nat.le_refl _)⟩, Q1.out.old gg (Nat.lt_succ_self _), Q2.out.old gg (Nat.lt_succ_self _)⟩)
    clear kk gg
    show K _ _; have := H.out _ HA.out; rw [HFR.out] at this
    obtain ⟨u6, u2, u5⟩ := HU.out
    rw [u6, u2, u5] at this
    exact this
   ·rintro L A W K hL hC hW ⟨V, rfl, HV, s0, s1, s2, f2, f5⟩ hK
    have H := Lib.hid (show ∀ W', Ext W W' → K (fr (upd V 8 (.pointer (some ⟨wr.heap.size, 5, none⟩)))) W' from fun W' he => hK _ _ ⟨_, rfl, HV.us 8 _ rfl, fun h0 => GoB.ext (s0 (mnf h0 rfl)) he, fun h0 h1 => GoF.ext (s1 (more_ne h0 rfl) (mnf h1 rfl)) he, fun h0 => GoF.ext (s2 (more_ne h0 rfl)) he, fun h0 => RetWo.ext (f2 (more_ne h0 rfl)) he, fun h0 => RetX.ext (f5 (more_ne h0 rfl)) he⟩)
    clear hK hC hW hL HV s0 s1 s2 f2 f5
    rw [HFR.out]
    go_wp2_with fail
    show K _ _; have := H.out _ (Ext.refl _); rw [HFR.out] at this
    exact this
   ·rintro L A W K hL hC hW ⟨V, rfl, HV, s0, s1, s2, f2, f5⟩ hK
    have e8 := HV 8 _ rfl (hW 8 rfl)
    have hB := s1 (hW 7 rfl) hL
    have q5 := f5 (hW 5 rfl)
    obtain ⟨a5, b5, c5, e5, z5⟩ := retX_shp q5
    have H := Lib.hid (show ∀ W', ((GoB wr wr.heap.size s.k s.n (V 2) (V 5) W' ∧ RetWo (wr.heap.size + 1) W' (V 2) (cutO s.w) ∧ RetX (wr.heap.size + 1) W' (V 5) (cutX s.x))) → K (fr (V)) W' from fun W' hA => hK _ _ ⟨V, rfl, HV.st 9 rfl, fun h0 => mtf (mnf h0 rfl) (hW 7 rfl), fun h0 h1 => msf h1, fun h0 => hA, fun h0 => hA.2.1, fun h0 => hA.2.2⟩)
    have HU := Lib.hid (show (V) 8 = .pointer (some ⟨wr.heap.size, 5, none⟩) ∧ (V) 5 = .agg #[a5, b5, c5] from ⟨e8, e5⟩)
    clear hK hC hW hL HV s0 s1 s2 f2 f5
    rw [HFR.out, e8, e5]
    clear e8 e5
    have ZZ := Lib.hid z5
    have Q1 := Lib.hid hB.2.1
    have Q2 := Lib.hid hB.2.2
    obtain ⟨p, q, r, xx, y, z, ee1, ee2, k1, k2⟩ := hB.1
    injection ee2 with ee2
    simp only [Array.mk.injEq, List.cons.injEq, and_true] at ee2
    obtain ⟨rfl, rfl, rfl⟩ := ee2
    have HK := Lib.hid k1
    have HKE := Lib.hid k2
    have HV2 := Lib.hid ee1
    clear hB z5 k1 k2 ee1
    refine wpList_store_in rfl rfl 35 (.tmp 28) (.tmp 26) rfl wr.heap.size 5 61 #[.int .i64 s.k, .int .i64 s.n, p, q, r, sa, ss, sq] #[a5, b5, c5] rfl rfl HK.out infoXk (of_decide_eq_true rfl) (retX_allJ ZZ.out.one) ?_
    intro w' kk gg
    have HA := Lib.hid (show (GoB wr wr.heap.size s.k s.n (V 2) (V 5) w' ∧ RetWo (wr.heap.size + 1) w' (V 2) (cutO s.w) ∧ RetX (wr.heap.size + 1) w' (V 5) (cutX s.x)) from ⟨⟨_, _, _, _, _, _, HV2.out, HU.out.2, kk, HKE.out.grown gg (Nat.le_refl _)⟩, Q1.out.old gg (Nat.lt_succ_self _), Q2.out.old gg (Nat.lt_succ_self _)⟩)
    clear kk gg
    show K _ _; have := H.out _ HA.out; rw [HFR.out] at this
    obtain ⟨u8, u5⟩ := HU.out
    rw [u8, u5] at this
    exact this
   ·rintro L A W hL ⟨V, rfl, HV, s0, s1, s2, f2, f5⟩
    have e0 := HV 0 _ rfl (hL 0 (by simp))
    have e1 := HV 1 _ rfl (hL 1 (by simp))
    have e3 := HV 3 _ rfl (hL 3 (by simp))
    have e4 := HV 4 _ rfl (hL 4 (by simp))
    have e6 := HV 6 _ rfl (hL 6 (by simp))
    have e8 := HV 8 _ rfl (hL 8 (by simp))
    have hA := s2 (hL 9 (by simp))
    have p23 := f2 (hL 2 (by simp))
    have p26 := f5 (hL 5 (by simp))
    rw [HFR.out, e0, e1, e3, e4, e6, e8]
    clear hL HV HFR e0 e1 e3 e4 e6 e8 s0 s1 s2 f2 f5
    obtain ⟨⟨p, q, r, x', y', z', e1, e2, k1, k2⟩, hr2, hr5⟩ := hA
    rw [e1] at hr2
    rw [e2] at hr5
    rw [e1, e2]
    have KS := Lib.hid k1
    have HEW := Lib.hid k2
    have HWO := Lib.hid (And.intro hr2.wor hr5.axr)
    have HO8 := Lib.hid (show (#[.int .i64 s.k, .int .i64 s.n, p, q, r, x', y', z'] : Array Value).all (·.oneCell') = true by
     have h1 := hr2.one
     have h2 := hr5.one
     simp only [List.all_toArray, List.all_cons, List.all_nil, Bool.and_true, Bool.and_eq_true] at h1 ⊢
     exact ⟨rfl, rfl, h1.1, h1.2.1, h1.2.2, h2.1, h2.2.1, h2.2.2⟩)
    have RS : Hid (W.rangeAt wr.heap.size 0 [.int .i64 s.k, .int .i64 s.n, p, q, r, x', y', z']) := Lib.hid (Cs.rg k1)
    clear k1 k2 hr2 hr5 e1 e2 HGB HSW p23 p26
    go_wp2_with ((with_reducible refine wpList_loadSp ?_ (.tmp 8) ?_ wr.heap.size 0 (.int .i64 s.k) (.int .i64 s.n) p q r x' y' z' ?_ ?_ ?_); (exact rfl); (exact rfl); (exact rfl); (exact RS.out))
    refine (above_any (cutS s) p q r x' y' z' mk _ HO8.out).mono ?_
    rintro e w6 ⟨rfl, he⟩
    have HJ6 := Lib.hid (HJK.out.ext (HEW.out.trans he))
    have HWO := Lib.hid (And.intro (HWO.out.1.ext he) (HWO.out.2.ext he))
    have RS : Hid (w6.rangeAt wr.heap.size 0 [.int .i64 s.k, .int .i64 s.n, p, q, r, x', y', z']) := Lib.hid (Cs.rg (Cs.ext KS.out he))
    have RJ3 : Hid (w6.rangeAt w.heap.size 0 [ja, jb, jc, jd, je, jf, jm]) := Lib.hid (Cs.rg HJ6.out.1)
    clear he KS HEW HJK
    cases hab : abvB (cutS s) mk with
    | false =>
     have HGN := Lib.hid (show gnS mk jk s = jk by unfold gnS; rw [hab]; rfl)
     clear hab
     go_wp2_with fail
     exact ⟨⟨k + 1, by omega, by omega, by go_num, Lib.hid ⟨_, _, _, _, _, _, _, by rw [HTK.out, HGN.out]; exact HJ6.out⟩⟩, by simp [intOf]; omega⟩
    | true =>
     have HAB := Lib.hid hab
     clear hab
     go_wp2_with (first
      | ((with_reducible refine wpList_loadSp ?_ (.tmp 8) ?_ wr.heap.size 0 (.int .i64 s.k) (.int .i64 s.n) p q r x' y' z' ?_ ?_ ?_); (exact rfl); (exact rfl); (exact rfl); (exact RS.out))
      | ((with_reducible refine wpList_loadJn ?_ (.tmp 3) ?_ w.heap.size 0 ja jb jc jd je jf jm ?_ ?_ ?_); (exact rfl); (exact rfl); (exact rfl); (exact RJ3.out)))
     refine (doesJ_any (cutS s) p q r x' y' z' ja jb jc jd je jf jm jk _ HWO.out (cutO_sz s.w) HJ6.out.read HSJ.out).mono ?_
     rintro e w7 ⟨v7, rfl, ho, he⟩
     have HGD := Lib.hid (show gnS mk jk s = if (doJ (cutS s) jk).2.2 = 0 then (doJ (cutS s) jk).1 else jk by unfold gnS; rw [HAB.out]; rfl)
     obtain ⟨dj, hdj⟩ : ∃ dj, doJ (cutS s) jk = dj := ⟨_, rfl⟩
     rw [hdj] at ho HGD ⊢
     clear hdj
     obtain ⟨a7, b7, c7, d7, x7, y7, m7, rfl, ho⟩ := retJn_shp ho
     have HR7 := Lib.hid ho
     have HJ7 := Lib.hid (HJ6.out.ext he)
     have HLT := Lib.hid (show w.heap.size + 1 + 1 ≤ w6.heap.size from Nat.succ_le_of_lt HJ6.out.2.1.lt)
     clear ho he RS RJ3 HJ6 HWO
     have HO7 := Lib.hid HR7.out.one
     by_cases h0 : dj.2.2 = 0
     ·have f0 : (dj.2.2 == 0) = true := by rw [beq_iff_eq]; exact h0
      have HGN := Lib.hid (show gnS mk jk s = dj.1 by rw [HGD.out, if_pos h0])
      clear h0
      go_wp2_with (first
       | ((with_reducible refine wpList_storeJn ?_ ?_ (.tmp 9) (.tmp 37) ?_ w7.heap.size (.slice none 0 0) (.slice none 0 0) (.slice none 0 0) (.slice none 0 0) (.slice none 0 0) (.slice none 0 0) (.slice none 0 0) a7 b7 c7 d7 x7 y7 m7 ?_ ?_ HO7.out ?_ ?_); (exact rfl); (exact rfl); (exact rfl); (exact rfl); (exact rfl); (exact (Cs.new _ _ _ _ rfl)); intro w8 k8 g8; have RJ9 : Hid (w8.rangeAt w7.heap.size 0 [a7, b7, c7, d7, x7, y7, m7]) := Lib.hid (Cs.rg k8); have E8 := Lib.hid (((Ext.refl w7).alloc (.cells #[.slice none 0 0, .slice none 0 0, .slice none 0 0, .slice none 0 0, .slice none 0 0, .slice none 0 0, .slice none 0 0] 40)).grown g8 (Nat.le_refl _)); have HJ8 := Lib.hid (HJ7.out.ext E8.out); have HC8 := Lib.hid HJ8.out.1; have HR8 := Lib.hid ((HR7.out.ext E8.out).low HLT.out); clear k8 g8)
       | ((with_reducible refine wpList_loadJn ?_ (.tmp 9) ?_ w7.heap.size 0 a7 b7 c7 d7 x7 y7 m7 ?_ ?_ ?_); (exact rfl); (exact rfl); (exact rfl); (exact RJ9.out))
       | ((with_reducible refine wpList_storeJn ?_ ?_ (.tmp 3) (.tmp 42) ?_ w.heap.size ja jb jc jd je jf jm a7 b7 c7 d7 x7 y7 m7 ?_ ?_ HO7.out HC8.out ?_); (exact rfl); (exact rfl); (exact rfl); (exact rfl); (exact rfl); intro w9 k9 g9; have HJ9 := Lib.hid (HJ8.out.put HR8.out k9 g9 (Nat.lt_succ_self _) (Nat.le_refl _)); clear k9 g9))
      exact ⟨⟨k + 1, by omega, by omega, by go_num, Lib.hid ⟨_, _, _, _, _, _, _, by rw [HTK.out, HGN.out]; exact HJ9.out⟩⟩, by simp [intOf]; omega⟩
     ·have f0 : (dj.2.2 == 0) = false := by rw [beq_eq_false_iff_ne]; exact h0
      have HGN := Lib.hid (show gnS mk jk s = jk by rw [HGD.out, if_neg h0])
      clear h0
      go_wp2_with ((with_reducible refine wpList_storeJn ?_ ?_ (.tmp 9) (.tmp 37) ?_ w7.heap.size (.slice none 0 0) (.slice none 0 0) (.slice none 0 0) (.slice none 0 0) (.slice none 0 0) (.slice none 0 0) (.slice none 0 0) a7 b7 c7 d7 x7 y7 m7 ?_ ?_ HO7.out ?_ ?_); (exact rfl); (exact rfl); (exact rfl); (exact rfl); (exact rfl); (exact (Cs.new _ _ _ _ rfl)); intro w8 k8 g8; have E8 := Lib.hid (((Ext.refl w7).alloc (.cells #[.slice none 0 0, .slice none 0 0, .slice none 0 0, .slice none 0 0, .slice none 0 0, .slice none 0 0, .slice none 0 0] 40)).grown g8 (Nat.le_refl _)); have HJ8 := Lib.hid (HJ7.out.ext E8.out); clear k8 g8)
      exact ⟨⟨k + 1, by omega, by omega, by go_num, Lib.hid ⟨_, _, _, _, _, _, _, by rw [HTK.out, HGN.out]; exact HJ8.out⟩⟩, by simp [intOf]; omega⟩
  ·obtain rfl : k = l.length := by omega
   have hd : decide (l.length < l.length) = false := decide_eq_false (by omega)
   have hd2 : decide ((l.length : Int) < (l.length : Int)) = false := decide_eq_false (by omega)
   have HFIN := Lib.hid (show gonJ mk j l = (l.take l.length).foldl (gnS mk) j by rw [HDF.out, List.take_of_length_le hk20, List.take_length])
   have HJF := Lib.hid hJ
   have RGF : Hid (wr.rangeAt w.heap.size 0 [ja, jb, jc, jd, je, jf, jm]) := Lib.hid (Cs.rg hJ.1)
   have HOF := Lib.hid hJ.one
   have HCF := Lib.hid hJ.2.1
   clear hJ
   go_wp2_with (first
    | ((with_reducible refine wpList_loadJn ?_ (.tmp 3) ?_ w.heap.size 0 ja jb jc jd je jf jm ?_ ?_ ?_); (exact rfl); (exact rfl); (exact rfl); (exact RGF.out))
    | ((with_reducible refine wpList_storeJn ?_ ?_ (.tmp 6) (.tmp 44) ?_ (w.heap.size + 1) (.slice none 0 0) (.slice none 0 0) (.slice none 0 0) (.slice none 0 0) (.slice none 0 0) (.slice none 0 0) (.slice none 0 0) ja jb jc jd je jf jm ?_ ?_ HOF.out HCF.out ?_); (exact rfl); (exact rfl); (exact rfl); (exact rfl); (exact rfl); intro w9 k9 g9; have K9 := Lib.hid k9; have HFI := Lib.hid (HJF.out.fin g9 (Nat.le_succ _)); clear k9 g9))
   refine bodyPost_ret (results_jno Tryz.results27 _ _ (w.heap.size + 1) _ _ _ _ _ _ _ rfl K9.out) rfl ?_
   rw [HFIN.out]
   exact ⟨_, _, _, _, _, _, _, rfl, HFI.out.1, HFI.out.2⟩
end Go.Proofs.YtnjpdchmdimaaaaGreat
