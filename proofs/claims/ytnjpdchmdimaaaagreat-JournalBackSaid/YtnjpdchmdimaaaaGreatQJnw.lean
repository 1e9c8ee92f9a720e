/- Package journal: the laws' world. -/
import Derived.Test.YtnjpdchmdimaaaaGreatQJnr
namespace Go.Proofs.YtnjpdchmdimaaaaGreat
open Go.ChangeShapes Go.WideShapes Go.ChangeAt Go.RowKit Go.Shelf

def richA (n : Nat) : Ac := ⟨20, n, 0, [], []⟩
def richO (n : Nat) : Wo := ⟨[richA n], [], []⟩
set_option maxRecDepth 100000 in
set_option maxHeartbeats 8000000 in
theorem rich_any (n : Nat) (w : World) (hok : (richA n).ok) (hw : acc (richA n) (.slice none 0 0) (.slice none 0 0) = #[.int .u64 20, .int .u64 (n : Nat), .int .u64 0, .int .u64 0, .int .u64 0, .int .u64 0, .slice none 0 0, .slice none 0 0]) :
  Calls Tryz.prog 32 #[.int .u64 (n : Nat)] w fun e w' => ∃ v', e = .returned v' ∧ RetWo w.heap.size w' v' (richO n) ∧ Ext w w' := by
 have HACC := Lib.hid hw
 have HOK := Lib.hid hok
 obtain ⟨w0, hw0⟩ : ∃ w0, w.alloc (.cells #[.slice none 0 0, .slice none 0 0, .slice none 0 0] 30) = w0 := ⟨_, rfl⟩
 have HR0 : Hid (Cs w0 w.heap.size 30 #[.slice none 0 0, .slice none 0 0, .slice none 0 0]) := Lib.hid (by rw [← hw0]; exact Cs.new _ _ _ _ (by simp))
 have HE0 : Hid (Ext w w0) := Lib.hid (by rw [← hw0]; exact (Ext.refl w).alloc _)
 have HW0 := Lib.hid hw0
 clear hw hok hw0
 go_enter Tryz.func32, Tryz.ntmps32
 go_upto_region 1 with fail
 rw [HW0.out]
 clear HW0
 have HR1 := Lib.hid (Cs.ext HR0.out ((Ext.refl w0).alloc (.cells #[.int .u64 20, .int .u64 (n : Nat), .int .u64 0, .int .u64 0, .int .u64 0, .int .u64 0, .slice none 0 0, .slice none 0 0] 79)))
 go_wp2_with (first
  | ((with_reducible refine wpList_build_one ?_ (.tmp 5) 22 79 ?_ Tryz.underlying22 _ 8 96 acinfo3 ?_ ?_ #[.int .u64 20, .int .u64 (n : Nat), .int .u64 0, .int .u64 0, .int .u64 0, .int .u64 0, .slice none 0 0, .slice none 0 0] ?_ ?_ ?_); (exact rfl); (exact rfl); (exact (by decide)); (exact (by decide)); (exact rfl); (exact rfl))
  | ((with_reducible refine wpList_storeWo ?_ ?_ (.tmp 2) (.tmp 8) ?_ w.heap.size (.slice none 0 0) (.slice none 0 0) (.slice none 0 0) (.slice (some ⟨w0.heap.size, 0, none⟩) 1 1) (.slice none 0 0) (.slice none 0 0) ?_ ?_ ?_ HR1.out ?_); (exact rfl); (exact rfl); (exact rfl); (exact rfl); (exact rfl); (exact (by simp only [List.all_toArray, List.all_cons, List.all_nil, Bool.and_true]; rfl)); intro w7 k7 g7; have K7 := Lib.hid k7; have G7 := Lib.hid g7; clear k7 g7))
 refine bodyPost_ret (results_woo Tryz.results32 _ _ w.heap.size _ _ _ rfl K7.out) rfl ?_
 have hx : Ext w0 (w0.alloc (.cells #[.int .u64 20, .int .u64 (n : Nat), .int .u64 0, .int .u64 0, .int .u64 0, .int .u64 0, .slice none 0 0, .slice none 0 0] 79)) := (Ext.refl w0).alloc _
 refine ⟨_, rfl, ⟨_, _, _, rfl, ?_, OwnH.nil _ _, OwnN.nil _ _⟩, (HE0.out.trans hx).grown G7.out (Nat.le_refl _)⟩
 have hl : w.heap.size < w0.heap.size := HR0.out.lt
 have hcs : Cs w7 w0.heap.size 79 #[.int .u64 20, .int .u64 (n : Nat), .int .u64 0, .int .u64 0, .int .u64 0, .int .u64 0, .slice none 0 0, .slice none 0 0] := Cs.kept (Cs.new _ _ _ _ rfl) G7.out (fun e => absurd (Option.some.inj e) (by omega))
 refine ⟨[(acc (richA n) (.slice none 0 0) (.slice none 0 0)).toList], rfl, fun cs hc => ?_, ⟨?_, .inr ⟨w0.heap.size, 1, _, rfl, Nat.le_of_lt hl, hcs, Nat.le_refl _, by unfold maxLen; decide, rfl, ?_⟩⟩, fun i cs x hi hx => ?_⟩
 ·rw [List.mem_singleton.1 hc]; rfl
 ·rfl
 ·rw [HACC.out]; rfl
 ·rcases i with _ | i
  ·have e1 : (acc (richA n) (.slice none 0 0) (.slice none 0 0)).toList = cs := by simpa using hi
   have e2 : richA n = x := by simpa [richO] using hx
   rw [← e1, ← e2]
   exact Far.true _ _ _ (fun W' => ⟨HOK.out, _, _, rfl, Bs.nil _, ⟨none, 0, rfl, Nat.le_refl _, Nat.zero_le _, fun h => absurd h (by simp [richA])⟩⟩)
  ·simp at hi
set_option maxRecDepth 100000 in
theorem rich5_any (w : World) : Calls Tryz.prog 32 #[.int .u64 5] w fun e w' => ∃ v', e = .returned v' ∧ RetWo w.heap.size w' v' (richO 5) ∧ Ext w w' := rich_any 5 w ⟨by decide, by unfold richA M256; decide, by decide⟩ (by kernel_rfl)
set_option maxRecDepth 100000 in
theorem rich7_any (w : World) : Calls Tryz.prog 32 #[.int .u64 7] w fun e w' => ∃ v', e = .returned v' ∧ RetWo w.heap.size w' v' (richO 7) ∧ Ext w w' := rich_any 7 w ⟨by decide, by unfold richA M256; decide, by decide⟩ (by kernel_rfl)
end Go.Proofs.YtnjpdchmdimaaaaGreat
namespace Go.Proofs.YtnjpdchmdimaaaaGreat
open Go.ChangeShapes Go.WideShapes Go.ChangeAt Go.RowKit Go.Shelf

theorem chkWo_zero {o : Wo} : chkWo o = 0 ↔ rightWo o = true := by
 unfold chkWo
 cases rightWo o <;> simp
theorem tchE_zero {x : Ax} : tchE x = 0 ↔ rightX x = true := by
 unfold tchE
 cases rightX x <;> simp
theorem chkJn_zero {j : Jn} : chkJn j = 0 ↔ rightJn j = true := by
 unfold chkJn
 cases rightJn j <;> simp
theorem chkJn_no {j : Jn} (h : rightJn j = false) : chkJn j = 200 := by unfold chkJn; rw [h]; rfl
theorem jchg_zero {j y : Jn} {er : Int} (h : (jchg j er y).2 = 0) : rightJn j = true ∧ er = 0 ∧ (jchg j er y).1 = y := by
 unfold jchg at h ⊢
 cases hr : rightJn j with
 | false => rw [hr] at h; simp at h
 | true =>
  rw [hr] at h
  by_cases h0 : er = 0
  ·simp [h0]
  ·simp [h0] at h
theorem jchg_yes {j y : Jn} (hr : rightJn j = true) : jchg j 0 y = (y, 0) := by unfold jchg; rw [hr]; rfl
theorem jchg_err {j y : Jn} {er : Int} (h : (jchg j er y).2 ≠ 0) : (jchg j er y).1 = jn0 ∧ ((jchg j er y).2 = chkJn j ∨ (rightJn j = true ∧ (jchg j er y).2 = er)) := by
 unfold jchg at h ⊢
 cases hr : rightJn j with
 | false =>
  rw [chkJn_no hr]
  exact ⟨rfl, .inl rfl⟩
 | true =>
  rw [hr] at h
  by_cases h0 : er = 0
  ·simp [h0] at h
  ·simp [h0]
theorem rightJn_of {p : Po} {m : List Po} (hl : m.length ≤ 16) (hp : rightPo p = true) (hm : ∀ q ∈ m, rightPo q = true) : rightJn ⟨p, m⟩ = true := by
 unfold rightJn
 simp only [Bool.and_eq_true, decide_eq_true_eq, List.all_eq_true]
 exact ⟨hl, hp, hm⟩
theorem rightJn_to {j : Jn} (h : rightJn j = true) : j.m.length ≤ 16 ∧ rightPo j.p = true ∧ ∀ q ∈ j.m, rightPo q = true := by
 unfold rightJn at h
 simp only [Bool.and_eq_true, decide_eq_true_eq, List.all_eq_true] at h
 exact h
theorem right_lay {j : Jn} {o : Wo} (hr : rightJn j = true) (ho : rightWo o = true) : rightJn ⟨⟨o, j.p.x⟩, j.m⟩ = true := by
 obtain ⟨h1, h2, h3⟩ := rightJn_to hr
 refine rightJn_of h1 ?_ h3
 unfold rightPo at h2 ⊢
 simp only [Bool.and_eq_true] at h2 ⊢
 exact ⟨ho, h2.2⟩
theorem right_tch {j : Jn} {x : Ax} (hr : rightJn j = true) (hx : rightX x = true) : rightJn ⟨⟨j.p.w, x⟩, j.m⟩ = true := by
 obtain ⟨h1, h2, h3⟩ := rightJn_to hr
 refine rightJn_of h1 ?_ h3
 unfold rightPo at h2 ⊢
 simp only [Bool.and_eq_true] at h2 ⊢
 exact ⟨h2.1, hx⟩
theorem right_mark {j : Jn} (hr : rightJn j = true) (hl : j.m.length ≠ 16) : rightJn ⟨j.p, j.m ++ [j.p]⟩ = true := by
 obtain ⟨h1, h2, h3⟩ := rightJn_to hr
 refine rightJn_of (by simp only [List.length_append, List.length_singleton]; omega) h2 fun q hq => ?_
 rcases List.mem_append.1 hq with hq | hq
 ·exact h3 q hq
 ·rw [List.mem_singleton.1 hq]; exact h2
theorem right_end {j : Jn} {p : Po} (n : Nat) (hr : rightJn j = true) (hp : rightPo p = true) : rightJn ⟨p, j.m.take n⟩ = true := by
 obtain ⟨h1, h2, h3⟩ := rightJn_to hr
 exact rightJn_of (Nat.le_trans (by rw [List.length_take]; exact Nat.min_le_right _ _) h1) hp fun q hq => h3 q (List.mem_of_mem_take hq)
theorem layJ_yes {j : Jn} {o : Wo} (hr : rightJn j = true) (ho : rightWo o = true) : layJ j o = (⟨⟨o, j.p.x⟩, j.m⟩, 0) := by
 unfold layJ
 rw [chkWo_zero.2 ho]
 exact jchg_yes hr
theorem layJ_zero {j : Jn} {o : Wo} (h : (layJ j o).2 = 0) : rightJn j = true ∧ rightWo o = true := by
 obtain ⟨h1, h2, _⟩ := jchg_zero h
 exact ⟨h1, chkWo_zero.1 h2⟩
theorem tchJ_yes {j : Jn} {x : Ax} (hr : rightJn j = true) (hx : rightX x = true) : tchJ j x = (⟨⟨j.p.w, x⟩, j.m⟩, 0) := by
 unfold tchJ
 rw [tchE_zero.2 hx]
 exact jchg_yes hr
theorem tchJ_two {j : Jn} {x : Ax} (hr : rightJn j = true) : (tchJ j x).2 = tchE x := by
 unfold tchJ jchg
 rw [hr]
 by_cases h : tchE x = 0
 ·simp [h]
 ·simp [h]
def Abv (m0 : List Po) (k : Jn) : Prop := rightJn k = true ∧ k.m.take m0.length = m0 ∧ m0.length ≤ k.m.length
theorem Abv.lay {m0 : List Po} {k : Jn} {o : Wo} (h : Abv m0 k) (he : (layJ k o).2 = 0) : Abv m0 (layJ k o).1 := by
 obtain ⟨hr, ho⟩ := layJ_zero he
 rw [layJ_yes hr ho]
 exact ⟨right_lay hr ho, h.2⟩
theorem Abv.tch {m0 : List Po} {k : Jn} {x : Ax} (h : Abv m0 k) (he : (tchJ k x).2 = 0) : Abv m0 (tchJ k x).1 := by
 have hx : rightX x = true := tchE_zero.1 (by rw [← tchJ_two h.1]; exact he)
 rw [tchJ_yes h.1 hx]
 exact ⟨right_tch h.1 hx, h.2⟩
theorem mkR_zero {k : Jn} (he : (mkR k).2 = 0) : rightJn k = true ∧ k.m.length ≠ 16 ∧ mkR k = (⟨k.p, k.m ++ [k.p]⟩, 0) := by
 obtain ⟨h1, h2, h3⟩ := jchg_zero he
 refine ⟨h1, fun e => ?_, ?_⟩
 ·unfold mkE at h2
  rw [if_pos e] at h2
  cases h2
 ·unfold mkR
  rw [h2]
  exact jchg_yes h1
theorem Abv.mark {m0 : List Po} {k : Jn} (h : Abv m0 k) (he : (mkR k).2 = 0) : Abv m0 (mkR k).1 := by
 obtain ⟨h1, h2, h3⟩ := mkR_zero he
 rw [h3]
 refine ⟨right_mark h1 h2, ?_, ?_⟩
 ·show (k.m ++ [k.p]).take m0.length = m0
  rw [List.take_append_of_le_length h.2.2]
  exact h.2.1
 ·show m0.length ≤ (k.m ++ [k.p]).length
  rw [List.length_append]
  have := h.2.2
  omega
theorem endJ_zero {k : Jn} {n : Int} {p : Po} (he : (endJ k n p).2 = 0) : rightJn k = true ∧ 0 ≤ n ∧ n < (k.m.length : Int) ∧ endJ k n p = (⟨p, k.m.take n.toNat⟩, 0) := by
 obtain ⟨h1, h2, h3⟩ := jchg_zero he
 obtain ⟨h4, h5⟩ := endE_zero h2
 refine ⟨h1, h4, h5, ?_⟩
 unfold endJ
 rw [h2]
 exact jchg_yes h1
theorem Abv.end {m0 : List Po} {k : Jn} {n : Int} {p : Po} (h : Abv m0 k) (hp : rightPo p = true) (hn : (m0.length : Int) ≤ n) (he : (endJ k n p).2 = 0) : Abv m0 (endJ k n p).1 := by
 obtain ⟨h1, h2, h3, h4⟩ := endJ_zero he
 rw [h4]
 refine ⟨right_end _ h1 hp, ?_, ?_⟩
 ·show (k.m.take n.toNat).take m0.length = m0
  rw [List.take_take, Nat.min_eq_left (by omega)]
  exact h.2.1
 ·show m0.length ≤ (k.m.take n.toNat).length
  rw [List.length_take]
  have := h.2.2
  omega
theorem getD_right {k : Jn} (hr : rightJn k = true) {n : Nat} (hn : n < k.m.length) : rightPo (k.m.getD n po0) = true := by
 refine (rightJn_to hr).2.2 _ ?_
 rw [List.getD_eq_getElem?_getD, List.getElem?_eq_getElem hn]
 exact List.getElem_mem hn
theorem Abv.back {m0 : List Po} {k : Jn} {n : Int} (h : Abv m0 k) (hn : (m0.length : Int) ≤ n) (he : (backJ k n).2 = 0) : Abv m0 (backJ k n).1 := by
 obtain ⟨h1, h2, h3, _⟩ := endJ_zero (show (endJ k n (k.m.getD n.toNat po0)).2 = 0 from he)
 exact Abv.end h (getD_right h1 (by omega)) hn he
theorem Abv.keep {m0 : List Po} {k : Jn} {n : Int} (h : Abv m0 k) (hn : (m0.length : Int) ≤ n) (he : (keepJ k n).2 = 0) : Abv m0 (keepJ k n).1 :=
 Abv.end h (rightJn_to h.1).2.1 hn he
theorem endE_lt {k : Jn} {n : Nat} (h : n < k.m.length) : endE k (n : Int) = 0 := by
 unfold endE
 rw [if_neg (by omega)]
theorem back_done {j k : Jn} (h : Abv (j.m ++ [j.p]) k) : backJ k (j.m.length : Nat) = (j, 0) ∧ keepJ k (j.m.length : Nat) = (⟨k.p, j.m⟩, 0) := by
 obtain ⟨hr, ht, hl⟩ := h
 rw [List.length_append, List.length_singleton] at ht hl
 have h1 : k.m.take j.m.length = j.m := by
  have := congrArg (List.take j.m.length) ht
  rw [List.take_take, Nat.min_eq_left (Nat.le_succ _), List.take_append_of_le_length (Nat.le_refl _), List.take_length] at this
  exact this
 have h2 : k.m.getD j.m.length po0 = j.p := by
  have : (k.m.take (j.m.length + 1))[j.m.length]? = some j.p := by
   rw [ht, List.getElem?_append_right (Nat.le_refl _), Nat.sub_self]
   rfl
  rw [List.getElem?_take, if_pos (Nat.lt_succ_self _)] at this
  rw [List.getD_eq_getElem?_getD, this]
  rfl
 have he := endE_lt (k := k) (n := j.m.length) (by omega)
 unfold backJ keepJ endJ
 rw [he, jchg_yes hr, jchg_yes hr, Int.toNat_natCast, h1, h2]
 exact ⟨rfl, rfl⟩
end Go.Proofs.YtnjpdchmdimaaaaGreat
namespace Go.Proofs.YtnjpdchmdimaaaaGreat
open Go.ChangeShapes Go.WideShapes Go.ChangeAt Go.RowKit Go.Shelf

theorem jset_mid (P cs Q : List Value) (i : Nat) (hi : i < cs.length) (v : Value) : (P ++ cs ++ Q).take (P.length + i) ++ [v] ++ (P ++ cs ++ Q).drop (P.length + i + 1) = P ++ cs.set i v ++ Q := by
 rw [List.set_eq_take_append_cons_drop, if_pos hi, List.append_assoc P cs Q, List.take_append, List.drop_append]
 rw [List.take_of_length_le (show P.length ≤ P.length + i by omega), List.drop_of_length_le (show P.length ≤ P.length + i + 1 by omega)]
 rw [show P.length + i - P.length = i by omega, show P.length + i + 1 - P.length = i + 1 by omega]
 rw [List.take_append_of_le_length (by omega), List.drop_append_of_le_length (by omega)]
 simp
theorem lay_one {s : Nat} (css : List (List Value)) (hl : ∀ cs ∈ css, cs.length = s) (rest : List Value) (k i : Nat) (cs : List Value) (hk : css[k]? = some cs) (hi : i < s) (v : Value) : layC (css.flatten ++ rest).toArray (k * s + i) #[v] = ((css.set k (cs.set i v)).flatten ++ rest).toArray := by
 have hkl : k < css.length := (List.getElem?_eq_some_iff.1 hk).1
 have hcl : cs.length = s := hl cs (List.mem_of_getElem? hk)
 have hf := flat_len css hl
 have hle : k * s + s ≤ css.flatten.length := by
  rw [hf]
  have := Nat.mul_le_mul_right s (show k + 1 ≤ css.length from hkl)
  rw [Nat.add_mul, Nat.one_mul] at this
  exact this
 have hP : (css.flatten.take (k * s)).length = k * s := by rw [List.length_take, Nat.min_eq_left (by omega)]
 have hsplit : css.flatten ++ rest = css.flatten.take (k * s) ++ cs ++ (css.flatten.drop (k * s + s) ++ rest) := by
  have h1 := flat_at css hl k cs hk
  have h2 : css.flatten.drop (k * s) = cs ++ css.flatten.drop (k * s + s) := by
   rw [← List.take_append_drop s (css.flatten.drop (k * s)), h1, List.drop_drop]
  rw [List.append_assoc, ← List.append_assoc cs, ← h2, ← List.append_assoc, List.take_append_drop]
 have h3 := jset_mid (css.flatten.take (k * s)) cs (css.flatten.drop (k * s + s) ++ rest) i (by omega) v
 rw [hP, ← hsplit] at h3
 rw [← flat_set css hl k (cs.set i v) hkl (by rw [List.length_set, hcl])]
 unfold layC
 simp only [List.append_assoc] at h3 ⊢
 exact congrArg List.toArray h3
theorem bs_rsJ {W : World} {v : Value} {l : List UInt8} (h : Bs W v l) : Rs W 1 v l.length (l.map bv) := by
 obtain ⟨A, c, e, h1, h2, h3⟩ := h
 refine ⟨by simp, A, c, e, h1, h2, fun hp => ?_⟩
 obtain ⟨b, o, ea, hc⟩ := h3 hp
 refine ⟨b, o, ea, fun i u hu => ?_⟩
 rw [List.getElem?_map] at hu
 obtain ⟨x, hx, rfl⟩ := Option.map_eq_some_iff.1 hu
 have hi : i < l.length := (List.getElem?_eq_some_iff.1 hx).1
 rw [hc i hi, List.getD_eq_getElem?_getD, hx]
 rfl
theorem bv_oneJ (l : List UInt8) : ∀ u ∈ l.map bv, u.oneCell' = true := by
 intro u hu
 obtain ⟨x, _, rfl⟩ := List.mem_map.1 hu
 rfl
def cutA (a : Ac) : Ac := { a with code := a.code.take 300, store := a.store.take 40 }
def cutO (o : Wo) : Wo := ⟨(o.s.take 45).map cutA, o.g.take 40, o.n.take 70⟩
def cutP (p : Po) : Po := ⟨cutO p.w, cutX p.x⟩
def cutJ (j : Jn) : Jn := ⟨cutP j.p, (j.m.take 18).map cutP⟩
theorem cutO_sz (o : Wo) : SzW (cutO o) := by
 show ((o.s.take 45).map cutA).length ≤ 100000
 rw [List.length_map, List.length_take]
 omega
theorem cutJ_sz (j : Jn) : SzJ (cutJ j) := by
 refine ⟨cutO_sz _, fun p hp => ?_⟩
 obtain ⟨q, _, rfl⟩ := List.mem_map.1 hp
 exact cutO_sz _
end Go.Proofs.YtnjpdchmdimaaaaGreat
namespace Go.Proofs.YtnjpdchmdimaaaaGreat
open Go.ChangeShapes Go.WideShapes Go.ChangeAt Go.RowKit Go.Shelf

def wcc (css : List (List Value)) (k : Nat) (rest : List Value) (x : Ac) (u v : Value) : Array Value := ((css.set k (acc x u v).toList).flatten ++ rest).toArray
theorem wcc_len {css : List (List Value)} {k : Nat} {x : Ac} {u v : Value} (hl : ∀ cs ∈ css, cs.length = 8) : ∀ cs ∈ css.set k (acc x u v).toList, cs.length = 8 := fun cs hc => by
 rcases List.mem_or_eq_of_mem_set hc with hc | rfl
 ·exact hl cs hc
 ·rfl
theorem wcc_at {css : List (List Value)} {k : Nat} {x : Ac} {u v : Value} (hk : k < css.length) : (css.set k (acc x u v).toList)[k]? = some (acc x u v).toList := List.getElem?_set_self hk
theorem wcc_six {css : List (List Value)} {k : Nat} {rest : List Value} {x : Ac} {u v u' : Value} (hl : ∀ cs ∈ css, cs.length = 8) (hk : k < css.length) : layC (wcc css k rest x u v) (k * 8 + 6) #[u'] = wcc css k rest x u' v := by
 unfold wcc
 rw [lay_one _ (wcc_len hl) rest k 6 _ (wcc_at hk) (by decide) u', List.set_set]
 rfl
theorem wcc_seven {css : List (List Value)} {k : Nat} {rest : List Value} {x : Ac} {u v v' : Value} (hl : ∀ cs ∈ css, cs.length = 8) (hk : k < css.length) : layC (wcc css k rest x u v) (k * 8 + 7) #[v'] = wcc css k rest x u v' := by
 unfold wcc
 rw [lay_one _ (wcc_len hl) rest k 7 _ (wcc_at hk) (by decide) v', List.set_set]
 rfl
theorem wcc_size {css : List (List Value)} {k : Nat} {rest : List Value} {x : Ac} {u v : Value} (hl : ∀ cs ∈ css, cs.length = 8) (hk : k < css.length) : k * 8 + 8 ≤ (wcc css k rest x u v).size := by
 unfold wcc
 rw [List.size_toArray, List.length_append, flat_len _ (wcc_len hl), List.length_set]
 have := Nat.mul_le_mul_right 8 (show k + 1 ≤ css.length from hk)
 omega
theorem wcc_same {css : List (List Value)} {k : Nat} {rest : List Value} {x : Ac} {u v : Value} (h : css[k]? = some (acc x u v).toList) : wcc css k rest x u v = (css.flatten ++ rest).toArray := by
 obtain ⟨hk, e⟩ := List.getElem?_eq_some_iff.1 h
 unfold wcc
 rw [← e, List.set_getElem_self hk]
def WdS (w : World) (b g1 g2 lo k : Nat) (wv : Array Value) (css : List (List Value)) (l : List Ac) (C : Array Value) (W : World) : Prop :=
 Cs W b 79 C ∧ (∀ (i : Nat) cs x, i < k → css[i]? = some cs → l[i]? = some x → Far lo (fun g => g = b) W (fun W => AcR W cs x)) ∧ Cs W g1 30 wv ∧ Cs W g2 30 #[.slice none 0 0, .slice none 0 0, .slice none 0 0] ∧ Ext w W
theorem WdS.ext {w : World} {b g1 g2 lo k : Nat} {wv : Array Value} {css : List (List Value)} {l : List Ac} {C : Array Value} {W W' : World} (h : WdS w b g1 g2 lo k wv css l C W) (he : Ext W W') : WdS w b g1 g2 lo k wv css l C W' :=
 ⟨Cs.ext h.1 he, fun i cs x h1 h2 h3 => (h.2.1 i cs x h1 h2 h3).ext he, Cs.ext h.2.2.1 he, Cs.ext h.2.2.2.1 he, h.2.2.2.2.trans he⟩
theorem WdS.put {w : World} {b g1 g2 lo k : Nat} {wv : Array Value} {css : List (List Value)} {l : List Ac} {C C' : Array Value} {W W' : World} (h : WdS w b g1 g2 lo k wv css l C W) (hk : Cs W' b 79 C') (hg : W.grownBy W' (some b)) (h1 : g1 ≠ b) (h2 : g2 ≠ b) (hw : w.heap.size ≤ b) : WdS w b g1 g2 lo k wv css l C' W' :=
 ⟨hk, fun i cs x q1 q2 q3 => (h.2.1 i cs x q1 q2 q3).old hg (.inr (.inl rfl)), Cs.kept h.2.2.1 hg (fun e => h1 (Option.some.inj e)), Cs.kept h.2.2.2.1 hg (fun e => h2 (Option.some.inj e)), h.2.2.2.2.grown hg hw⟩
def WdM (w : World) (b g1 g2 lo k : Nat) (wv : Array Value) (css : List (List Value)) (l : List Ac) (C : Array Value) (u v : Value) (xc : List UInt8) (xs : List (Nat × Nat)) (W : World) : Prop :=
 WdS w b g1 g2 lo k wv css l C W ∧ JbS (b + 1) W u xc ∧ JkS (b + 1) W v xs
theorem WdM.ext {w : World} {b g1 g2 lo k : Nat} {wv : Array Value} {css : List (List Value)} {l : List Ac} {C : Array Value} {u v : Value} {xc : List UInt8} {xs : List (Nat × Nat)} {W W' : World} (h : WdM w b g1 g2 lo k wv css l C u v xc xs W) (he : Ext W W') : WdM w b g1 g2 lo k wv css l C u v xc xs W' := ⟨h.1.ext he, h.2.1.ext he, h.2.2.ext he⟩
theorem JbS.putJ {b : Nat} {W W' : World} {v : Value} {l : List UInt8} (h : JbS (b + 1) W v l) (hg : W.grownBy W' (some b)) : JbS (b + 1) W' v l := by obtain ⟨A, c, e, h⟩ := h; exact ⟨A, c, e, own_low h hg (Nat.lt_succ_self _)⟩
theorem JkS.putJ {b : Nat} {W W' : World} {v : Value} {l : List (Nat × Nat)} (h : JkS (b + 1) W v l) (hg : W.grownBy W' (some b)) : JkS (b + 1) W' v l := by obtain ⟨A, c, e, h⟩ := h; exact ⟨A, c, e, own_low h.1 hg (Nat.lt_succ_self _), h.2⟩
theorem WdM.next {w : World} {b g1 g2 lo k : Nat} {wv : Array Value} {css css0 : List (List Value)} {rest : List Value} {l : List Ac} {x : Ac} {u v : Value} {W : World} (h : WdM w b g1 g2 lo k wv css l (wcc css k rest x u v) u v (cutA x).code (cutA x).store W) (h1 : css.length = l.length) (h2 : ∀ cs ∈ css, cs.length = 8) (h5 : ∀ i, k ≤ i → css[i]? = css0[i]?) (hk : k < l.length) (hx : l[k]? = some (cutA x)) (hok : x.ok) (hlb : lo ≤ b + 1) : EaJ 79 8 AcR w b lo css0 rest l (k + 1) W := by
 obtain ⟨⟨q1, q2, _, _, q5⟩, q6, q7⟩ := h
 refine ⟨css.set k (acc x u v).toList, by rw [List.length_set, h1], wcc_len h2, q1, fun i cs y hi hcs hy => ?_, fun i hi => ?_, q5⟩
 ·by_cases hik : i = k
  ·subst hik
   rw [List.getElem?_set_self (by omega)] at hcs
   rw [hx] at hy
   rw [← Option.some.inj hcs, ← Option.some.inj hy]
   exact acm_far (x := cutA x) hok q6 q7 hlb (Nat.lt_succ_self _)
  ·rw [List.getElem?_set_ne (fun e => hik e.symm)] at hcs
   exact q2 i cs y (by omega) hcs hy
 ·rw [List.getElem?_set_ne (by omega)]
  exact h5 i (by omega)
end Go.Proofs.YtnjpdchmdimaaaaGreat
