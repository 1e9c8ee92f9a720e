/- Package ledger: ledgers and deeds that came in. -/
import Derived.Test.YtepggbhibpjkpaaLhn
import Derived.Test.YtepggbhibpjkpaaFrm
import Derived.Deep.Strs
namespace Go.Proofs.Ytepggbhibpjkpaa
open Go.ChangeShapes Go.WideShapes Go.ChangeAt Go.RowKit Go.Shelf

set_option maxRecDepth 100000 in
theorem u64_trodL {H : Type} {enc : TypeId × Value → H} {W : World} {f : Nat → Bool} {b : Bool} {fuel : Nat} {t : TypeId} {cs : List Value} {x : DataW H × List MemPlace} (ht : Try.prog.underlying t = some (.int .u64)) (h : DataW.trod enc Try.prog W 0 f b fuel t cs = some x) : ∃ z : Nat, z < 18446744073709551616 ∧ cs = [.int .u64 (z : Nat)] := by
  obtain ⟨z, e0, _, wz⟩ := DataW.trod_int ht h
  have hb : 0 ≤ z ∧ z ≤ 18446744073709551615 := by simpa [Lit.wf, IntKind.min, IntKind.max, IntKind.signed, IntKind.bits] using wz
  exact ⟨z.toNat, by omega, by rw [e0, Int.toNat_of_nonneg hb.1]⟩
set_option maxRecDepth 100000 in
theorem i64_trodL {H : Type} {enc : TypeId × Value → H} {W : World} {f : Nat → Bool} {b : Bool} {fuel : Nat} {t : TypeId} {cs : List Value} {x : DataW H × List MemPlace} (ht : Try.prog.underlying t = some (.int .i64)) (h : DataW.trod enc Try.prog W 0 f b fuel t cs = some x) : ∃ z : Int, (-9223372036854775808 ≤ z ∧ z ≤ 9223372036854775807) ∧ cs = [.int .i64 z] := by
  obtain ⟨z, e0, _, wz⟩ := DataW.trod_int ht h
  have hb : -9223372036854775808 ≤ z ∧ z ≤ 9223372036854775807 := by simpa [Lit.wf, IntKind.min, IntKind.max, IntKind.signed, IntKind.bits] using wz
  exact ⟨z, hb, e0⟩
/-- The cells cs read as the deed d. -/
def DdR (cs : List Value) (d : Dd) : Prop := d.ok ∧ cs = (ddc d).toList
def Dds (W : World) (v : Value) (l : List Dd) : Prop := Sl W 8 DdR v l
set_option maxRecDepth 100000 in
theorem Dds.ext {W W' : World} {v : Value} {l : List Dd} (h : Dds W v l) (he : Ext W W') : Dds W' v l := Sl.mono h (fun _ _ hc => he.cell hc) fun _ _ h => h
set_option maxRecDepth 100000 in
theorem Dds.len {W : World} {v : Value} {l : List Dd} (h : Dds W v l) : ∃ A c, v = .slice A l.length c ∧ l.length ≤ c ∧ c ≤ maxLen := by
  obtain ⟨A, c, e, h1, h2, _⟩ := h
  exact ⟨A, c, e, h1, h2⟩
def dz0 : Dd := ⟨0, 0, 0, 0, 0⟩
set_option maxRecDepth 100000 in
theorem Dds.at {W : World} {A : Option Addr} {n c : Nat} {l : List Dd} (h : Dds W (.slice A n c) l) (i : Nat) (hi : i < l.length) : ∃ b o, A = some ⟨b, o, none⟩ ∧ W.rangeAt b (o + i * 8) (ddc (l.getD i dz0)).toList ∧ (l.getD i dz0).ok := by
  obtain ⟨A', c', e, _, _, h3⟩ := h
  injection e with e1 e2 e3
  subst e1
  obtain ⟨b, o, rfl, hc⟩ := h3 (by omega)
  obtain ⟨cs, _, ⟨k0, rfl⟩, k3⟩ := hc i _ (List.getElem?_eq_getElem hi)
  have e : l.getD i dz0 = l[i] := by simp [List.getD, List.getElem?_eq_getElem hi]
  rw [e]
  exact ⟨b, o, rfl, k3, k0⟩
set_option maxRecDepth 100000 in
theorem ddinfo : (Try.prog.info? 92).map (·.size) = some 8 := by kernel_rfl
def Db (W : World) (g : Nat) (d : Dd) : Prop := Cs W g 92 (ddc d)
set_option maxRecDepth 100000 in
theorem Db.ext {W W' : World} {g : Nat} {d : Dd} (k : Db W g d) (he : Ext W W') : Db W' g d := Cs.ext k he
set_option maxRecDepth 100000 in
theorem wpList_load_dd {ops : Array Oper} {rest : List Oper} {o : Oper} {a : Act} {w : World} {Q : Exit → Act → World → Prop} (hgd : Region.wanted o (yielded ops a.tmps) = true) (x : Operand) (ho : o.op = .load 92 x)
    (g k : Nat) (p : Dd) (hx : a.eval x = .pointer (some ⟨g, k, none⟩)) (hg : w.rangeAt g k (ddc p).toList) (h : wpList Try.prog ops Q rest (a.put o.dst (.agg (ddc p))) w) : wpList Try.prog ops Q (o :: rest) a w := by
  refine wpList_step fun K hK => ?_
  rw [if_pos hgd]
  refine wp_load_mid 92 x ho g k hx (ddc p).toList _ hg Try.underlying92 rfl ddinfo ?_
  exact hK _ _ h
set_option maxRecDepth 100000 in
theorem deed_trod {H : Type} {enc : TypeId × Value → H} {W : World} {f : Nat → Bool} {b : Bool} {fuel : Nat} {cs : List Value} {x : DataW H × List MemPlace} (h : DataW.trod enc Try.prog W 0 f b fuel 92 cs = some x) : ∃ z, DdR cs z := by
  obtain ⟨xs, n, _, _, hl, hlen, hf⟩ := DataW.trod_struct Try.underlying92 h
  have hC : Try.prog.cellsOf 92 = 8 := by kernel_rfl
  have hI : Try.prog.cellsOf 3 = 1 := by kernel_rfl
  have hA : Try.prog.cellsOf 27 = 1 := by kernel_rfl
  have hW : Try.prog.cellsOf 29 = 4 := by kernel_rfl
  have hU : Try.prog.cellsOf 26 = 1 := by kernel_rfl
  rw [hC] at hl
  match xs, hlen with
  | [y0, y1, y2, y3, y4], _ =>
    have h0 : DataW.trod enc Try.prog W 0 f b n 3 ((cs.drop 0).take (Try.prog.cellsOf 3)) = some y0 := by simpa using hf 0 _ rfl
    have h1 : DataW.trod enc Try.prog W 0 f b n 27 ((cs.drop 1).take (Try.prog.cellsOf 27)) = some y1 := by simpa using hf 1 _ rfl
    have h2 : DataW.trod enc Try.prog W 0 f b n 29 ((cs.drop 2).take (Try.prog.cellsOf 29)) = some y2 := by simpa using hf 2 _ rfl
    have h3 : DataW.trod enc Try.prog W 0 f b n 26 ((cs.drop 6).take (Try.prog.cellsOf 26)) = some y3 := by simpa using hf 3 _ rfl
    have h4 : DataW.trod enc Try.prog W 0 f b n 26 ((cs.drop 7).take (Try.prog.cellsOf 26)) = some y4 := by simpa using hf 4 _ rfl
    rw [hI] at h0
    rw [hA] at h1
    rw [hW] at h2
    rw [hU] at h3 h4
    obtain ⟨z0, b0, e0⟩ := i64_trodL Try.underlying3 h0
    obtain ⟨z1, b1, e1⟩ := u64_trodL Try.underlying27 h1
    obtain ⟨z2, b2, hl2, hc2⟩ := word_trod h2
    have e2 := wc_list z2 _ hl2 hc2
    obtain ⟨z3, b3, e3⟩ := u64_trodL Try.underlying26 h3
    obtain ⟨z4, b4, e4⟩ := u64_trodL Try.underlying26 h4
    refine ⟨⟨z0, z1, z2, z3, z4⟩, ⟨b0, b1, b2, b3, b4⟩, ?_⟩
    have e : cs = (cs.drop 0).take 1 ++ ((cs.drop 1).take 1 ++ ((cs.drop 2).take 4 ++ ((cs.drop 6).take 1 ++ (cs.drop 7).take 1))) := by
      rw [List.take_of_length_le (show (cs.drop 7).length ≤ 1 by rw [List.length_drop]; omega), show cs.drop 7 = (cs.drop 6).drop 1 by rw [List.drop_drop], List.take_append_drop, show cs.drop 6 = (cs.drop 2).drop 4 by rw [List.drop_drop], List.take_append_drop, show cs.drop 2 = (cs.drop 1).drop 1 by rw [List.drop_drop], List.take_append_drop, show cs.drop 1 = (cs.drop 0).drop 1 by rw [List.drop_drop], List.take_append_drop, List.drop_zero]
    rw [e, e0, e1, e2, e3, e4]
    rfl
set_option maxRecDepth 100000 in
theorem held_trod {H : Type} {enc : TypeId × Value → H} {W : World} {f : Nat → Bool} {b : Bool} {fuel : Nat} {cs : List Value} {x : DataW H × List MemPlace} (h : DataW.trod enc Try.prog W 0 f b fuel 97 cs = some x) : ∃ z, HdR cs z := by
  obtain ⟨xs, n, _, _, hl, hlen, hf⟩ := DataW.trod_struct Try.underlying97 h
  have hC : Try.prog.cellsOf 97 = 11 := by kernel_rfl
  have hA : Try.prog.cellsOf 27 = 1 := by kernel_rfl
  have hW : Try.prog.cellsOf 29 = 4 := by kernel_rfl
  have hU : Try.prog.cellsOf 26 = 1 := by kernel_rfl
  rw [hC] at hl
  match xs, hlen with
  | [y0, y1, y2, y3, y4], _ =>
    have h0 : DataW.trod enc Try.prog W 0 f b n 27 ((cs.drop 0).take (Try.prog.cellsOf 27)) = some y0 := by simpa using hf 0 _ rfl
    have h1 : DataW.trod enc Try.prog W 0 f b n 29 ((cs.drop 1).take (Try.prog.cellsOf 29)) = some y1 := by simpa using hf 1 _ rfl
    have h2 : DataW.trod enc Try.prog W 0 f b n 29 ((cs.drop 5).take (Try.prog.cellsOf 29)) = some y2 := by simpa using hf 2 _ rfl
    have h3 : DataW.trod enc Try.prog W 0 f b n 26 ((cs.drop 9).take (Try.prog.cellsOf 26)) = some y3 := by simpa using hf 3 _ rfl
    have h4 : DataW.trod enc Try.prog W 0 f b n 26 ((cs.drop 10).take (Try.prog.cellsOf 26)) = some y4 := by simpa using hf 4 _ rfl
    rw [hA] at h0
    rw [hW] at h1 h2
    rw [hU] at h3 h4
    obtain ⟨z0, b0, e0⟩ := u64_trodL Try.underlying27 h0
    obtain ⟨z1, b1, hl1, hc1⟩ := word_trod h1
    have e1 := wc_list z1 _ hl1 hc1
    obtain ⟨z2, b2, hl2, hc2⟩ := word_trod h2
    have e2 := wc_list z2 _ hl2 hc2
    obtain ⟨z3, b3, e3⟩ := u64_trodL Try.underlying26 h3
    obtain ⟨z4, b4, e4⟩ := u64_trodL Try.underlying26 h4
    refine ⟨⟨z0, z1, z2, z3, z4⟩, ⟨b0, b1, b2, b3, b4⟩, ?_⟩
    have e : cs = (cs.drop 0).take 1 ++ ((cs.drop 1).take 4 ++ ((cs.drop 5).take 4 ++ ((cs.drop 9).take 1 ++ (cs.drop 10).take 1))) := by
      rw [List.take_of_length_le (show (cs.drop 10).length ≤ 1 by rw [List.length_drop]; omega), show cs.drop 10 = (cs.drop 9).drop 1 by rw [List.drop_drop], List.take_append_drop, show cs.drop 9 = (cs.drop 5).drop 4 by rw [List.drop_drop], List.take_append_drop, show cs.drop 5 = (cs.drop 1).drop 4 by rw [List.drop_drop], List.take_append_drop, show cs.drop 1 = (cs.drop 0).drop 1 by rw [List.drop_drop], List.take_append_drop, List.drop_zero]
    rw [e, e0, e1, e2, e3, e4]
    rfl
set_option maxRecDepth 100000 in
theorem deed_came {H : Type} {enc : TypeId × Value → H} {W : World} {base : Nat} {v : Value} {d : DataW H} {p : List MemPlace}
    (hval : Value.okWide Try.prog W .any base 92 v) (h : DataW.Trod enc Try.prog W 0 (fun _ => true) true 92 v d p) : ∃ o : Dd, v = .agg (ddc o) ∧ o.ok := by
  simp only [Value.okWide, Try.underlying92] at hval
  obtain ⟨cs, rfl, hsz, _⟩ := hval
  obtain ⟨fuel, hf⟩ := h
  obtain ⟨o, hok, e⟩ := deed_trod hf
  have e' : cs = ddc o := by
    apply Array.toList_inj.1
    rw [← e]
    rfl
  exact ⟨o, by rw [e'], hok⟩
set_option maxRecDepth 100000 in
theorem deeds_came {H : Type} {enc : TypeId × Value → H} {W : World} {v : Value} {d : DataW H} {p : List MemPlace}
    (h : DataW.Trod enc Try.prog W 0 (fun _ => true) true 89 v d p) (hv : v.cells.toList = [v]) : ∃ l : List Dd, Dds W v l := by
  obtain ⟨fuel, hf⟩ := h
  obtain ⟨s, l, hc, hl⟩ := slice_came (α := Dd) (s := 8) Try.underlying89 (by kernel_rfl) (by decide) DdR (fun _ _ _ h => deed_trod h) hf
  rw [hv] at hc
  injection hc with hc _
  rw [hc]
  exact ⟨l, hl⟩
set_option maxRecDepth 100000 in
theorem ledger_came {H : Type} {enc : TypeId × Value → H} {W : World} {base : Nat} {v : Value} {d : DataW H} {p : List MemPlace}
    (hval : Value.okWide Try.prog W .any base 88 v) (h : DataW.Trod enc Try.prog W 0 (fun _ => true) true 88 v d p) : ∃ (s : Value) (l : List Hd), v = .agg #[s] ∧ Hds W s l := by
  simp only [Value.okWide, Try.underlying88] at hval
  obtain ⟨cs, rfl, hsz, _⟩ := hval
  have hC : Try.prog.cellsOf 88 = 1 := by kernel_rfl
  have hS : Try.prog.cellsOf 86 = 1 := by kernel_rfl
  rw [hC] at hsz
  obtain ⟨fuel, hf⟩ := h
  obtain ⟨y0, n, _, _, h0⟩ := trod_struct1 Try.underlying88 hf
  dsimp only at h0
  rw [hS] at h0
  obtain ⟨s, l, hv, hl⟩ := slice_came (α := Hd) (s := 11) Try.underlying86 (by kernel_rfl) (by decide) HdR (fun _ _ _ h => held_trod h) h0
  refine ⟨s, l, ?_, hl⟩
  have e : cs.toList = [s] := by
    rw [← hv]
    simp [Value.cells, List.take_of_length_le, hsz]
  have : cs = #[s] := by apply Array.toList_inj.1; rw [e]
  rw [this]
/-! ### Deeds of two addresses -/
set_option maxRecDepth 100000 in
theorem Cn.det {r : Hd} {t1 t2 l1 l2 : Nat} {d : Dd} {h h' : Hd} {w w' : Nat} (c : Cn r t1 l1 d h w) (c' : Cn r t2 l2 d h' w') : h = h' ∧ w = w' := by
  unfold Cn at c c'
  rcases c with ⟨k, _, rfl, rfl⟩ | ⟨k, _, rfl, rfl⟩ | ⟨k, _, _, _, rfl, rfl⟩ | ⟨k, _, _, rfl, rfl⟩ | ⟨k, _, _, _, _, rfl, rfl⟩ <;>
  rcases c' with ⟨k', _, rfl, rfl⟩ | ⟨k', _, rfl, rfl⟩ | ⟨k', _, _, _, rfl, rfl⟩ | ⟨k', _, _, rfl, rfl⟩ | ⟨k', _, _, _, _, rfl, rfl⟩ <;>
  first
  | exact ⟨rfl, rfl⟩
  | (rw [k] at k'; exact absurd k' (by decide))
set_option maxRecDepth 100000 in
theorem Cn.move {r : Hd} {t1 t2 l1 l2 : Nat} {d : Dd} {h : Hd} {w : Nat} (c : Cn r t1 l1 d h w) (hc : kdD d = 0 ∨ kdD d = 2 → d.n + t2 < M256 ∧ (d.n = 0 ∨ r.hasB = true ∨ l2 ≠ 24)) : Cn r t2 l2 d h w := by
  unfold Cn at c ⊢
  rcases c with ⟨k, _, e, e'⟩ | ⟨k, c1, e, e'⟩ | ⟨k, c1, c2, _, e, e'⟩ | ⟨k, c1, c2, e, e'⟩ | ⟨k, c1, c2, c3, c4, e, e'⟩
  · exact .inl ⟨k, hc (.inl k), e, e'⟩
  · exact .inr (.inl ⟨k, c1, e, e'⟩)
  · exact .inr (.inr (.inl ⟨k, c1, c2, hc (.inr k), e, e'⟩))
  · exact .inr (.inr (.inr (.inl ⟨k, c1, c2, e, e'⟩)))
  · exact .inr (.inr (.inr (.inr ⟨k, c1, c2, c3, c4, e, e'⟩)))
set_option maxRecDepth 100000 in
/-- What a deed needs of all that is held, and of how many rows there are. -/
theorem Cn.need {r : Hd} {t l : Nat} {d : Dd} {h : Hd} {w : Nat} (c : Cn r t l d h w) (k : kdD d = 0 ∨ kdD d = 2) : (d.n + t < M256 ∧ (d.n = 0 ∨ r.hasB = true ∨ l ≠ 24)) ∧ w = 0 ∧ (d.n ≠ 0 → h.hasB = true) := by
  unfold Cn at c
  rcases c with ⟨k', c1, e, e'⟩ | ⟨k', _, e, e'⟩ | ⟨k', _, _, c1, e, e'⟩ | ⟨k', _, _, e, e'⟩ | ⟨k', _, _, _, _, e, e'⟩
  · refine ⟨c1, e', fun hn => ?_⟩; rw [hasB_iff, e]; dsimp only; omega
  · rw [k'] at k; rcases k with k | k <;> exact absurd k (by decide)
  · refine ⟨c1, e', fun hn => ?_⟩; rw [hasB_iff, e]; dsimp only; omega
  · rw [k'] at k; rcases k with k | k <;> exact absurd k (by decide)
  · rw [k'] at k; rcases k with k | k <;> exact absurd k (by decide)
set_option maxRecDepth 100000 in
/-- A row comes where there was none only by something that is put in. -/
theorem Cn.fresh {r : Hd} {t l : Nat} {d : Dd} {h : Hd} {w : Nat} (c : Cn r t l d h w) (h0 : r.hasB = false) (h1 : h.hasB = true) : (kdD d = 0 ∨ kdD d = 2) ∧ d.n ≠ 0 := by
  have hr := hasB_no h0
  have r1 : r.dep = 0 := by rw [hr]
  have r2 : r.stk = 0 := by rw [hr]
  have r3 : r.dly = 0 := by rw [hr]
  have r4 : r.fre = 0 := by rw [hr]
  rw [hasB_iff] at h1
  unfold Cn at c
  rcases c with ⟨k', c1, e, e'⟩ | ⟨k', _, e, e'⟩ | ⟨k', _, c1, _, e, e'⟩ | ⟨k', _, c1, e, e'⟩ | ⟨k', _, c1, _, _, e, e'⟩
  · refine ⟨.inl k', ?_⟩; rw [e] at h1; dsimp only at h1; omega
  · rw [e] at h1; dsimp only at h1; omega
  · refine ⟨.inr k', ?_⟩; omega
  · omega
  · omega
set_option maxRecDepth 100000 in
theorem kd_lt2 (d : Dd) : decide (kdD d < 2) = true ↔ kdD d = 0 ∨ kdD d = 1 := by
  rw [decide_eq_true_eq]
  rcases kdD_cases d with h | h | h | h | h <;> rw [h] <;> decide
set_option maxRecDepth 100000 in
theorem doS_own {l : List Hd} (hok : ∀ p ∈ l, p.ok) (hl : Rg l) {d : Dd} (hd : d.ok) {m : List Hd} {wd : Nat} (e : doS l d = (m, wd, 0)) :
    d.addr ≠ 0 ∧ Rg m ∧ (∀ p ∈ m, p.ok) ∧ (∀ b, b ≠ d.addr → rowG m b = rowG l b) ∧ Cn (rowG l d.addr) (totG l) l.length d (rowG m d.addr) wd ∧ wd < M256 ∧ totG m + (if kdD d = 1 then d.n else 0) + wd = totG l + (if kdD d = 0 ∨ kdD d = 2 then d.n else 0) ∧ m = plG l (rowG m d.addr) := by
  obtain ⟨ha, h, hc, rfl⟩ := (doS_iff hok hl hd).1 e
  obtain ⟨h1, h2, h3, h4, h5⟩ := Cn.rg hok hl hd ha hc
  have hr : rowG (plG l h) d.addr = h := by rw [rowG_plG hl.rise, if_pos h1.symm]
  refine ⟨ha, h3, plG_ok hok h2, fun b hb => by rw [rowG_plG hl.rise, if_neg (by rw [h1]; exact hb)], by rw [hr]; exact hc, h4, h5, by rw [hr]⟩
set_option maxRecDepth 100000 in
theorem doS_apart {l : List Hd} (hok : ∀ p ∈ l, p.ok) (hl : Rg l) {a b : Dd} (ha : a.ok) (hb : b.ok) (hne : a.addr ≠ b.addr) {n m x : List Hd} {wa wb wx : Nat} (e1 : doS l a = (n, wa, 0)) (e2 : doS l b = (m, wb, 0)) (e3 : doS n b = (x, wx, 0)) : ∃ wy, doS m a = (x, wy, 0) := by
  obtain ⟨a0, n1, n2, n3, n4, n5, n6, n7⟩ := doS_own hok hl ha e1
  obtain ⟨b0, m1, m2, m3, m4, m5, m6, m7⟩ := doS_own hok hl hb e2
  obtain ⟨_, x1, x2, x3, x4, x5, x6, x7⟩ := doS_own n2 n1 hb e3
  rw [n3 b.addr (fun e => hne e.symm)] at x4
  have hd := Cn.det m4 x4
  have hrow : rowG m a.addr = rowG l a.addr := m3 a.addr hne
  have hlm := plG_length hl.rise (rowG m b.addr)
  have hln := plG_length hl.rise (rowG n a.addr)
  rw [← m7, rowG_addr, hl.has] at hlm
  rw [← n7, rowG_addr, hl.has] at hln
  have hfw := hl.few
  have key : kdD a = 0 ∨ kdD a = 2 → a.n + totG m < M256 ∧ (a.n = 0 ∨ (rowG l a.addr).hasB = true ∨ m.length ≠ 24) := by
    intro k
    obtain ⟨⟨c1, c2⟩, c3, c4⟩ := n4.need k
    have k1 : ¬ kdD a = 1 := by rcases k with k | k <;> rw [k] <;> decide
    rw [if_neg k1, if_pos k, c3] at n6
    constructor
    · by_cases kb : kdD b = 0 ∨ kdD b = 2
      · obtain ⟨⟨d1, _⟩, d3, _⟩ := x4.need kb
        have kb1 : ¬ kdD b = 1 := by rcases kb with k | k <;> rw [k] <;> decide
        rw [if_neg kb1, if_pos kb] at m6
        omega
      · rw [if_neg kb] at m6
        omega
    · rcases c2 with c2 | c2 | c2
      · exact .inl c2
      · exact .inr (.inl c2)
      · by_cases h0 : a.n = 0
        · exact .inl h0
        · cases hba : (rowG l a.addr).hasB with
          | true => exact .inr (.inl rfl)
          | false =>
            refine .inr (.inr (fun h24 => ?_))
            rw [hba, c4 h0] at hln
            simp only [Bool.false_eq_true, if_false, if_true] at hln
            cases hbb : (rowG l b.addr).hasB with
            | true =>
              rw [hbb] at hlm
              simp only [if_true] at hlm
              split at hlm <;> omega
            | false =>
              rw [hbb] at hlm
              simp only [Bool.false_eq_true, if_false] at hlm
              cases hbm : (rowG m b.addr).hasB with
              | false => rw [hbm] at hlm; simp only [Bool.false_eq_true, if_false] at hlm; omega
              | true =>
                rw [hbm] at hlm
                simp only [if_true] at hlm
                obtain ⟨kb, hbn⟩ := m4.fresh hbb hbm
                obtain ⟨⟨_, d2⟩, _, _⟩ := x4.need kb
                rcases d2 with d2 | d2 | d2
                · exact hbn d2
                · rw [hbb] at d2; cases d2
                · omega
  have hc : Cn (rowG m a.addr) (totG m) m.length a (rowG n a.addr) wa := by
    rw [hrow]
    exact n4.move key
  refine ⟨wa, (doS_iff m2 m1 ha).2 ⟨a0, rowG n a.addr, hc, ?_⟩⟩
  obtain ⟨_, _, y1, _, _⟩ := Cn.rg m2 m1 ha a0 hc
  refine Rg.view x1 y1 (fun q => ?_)
  rw [rowG_plG m1.rise, rowG_addr]
  by_cases hq : q = a.addr
  · rw [if_pos hq, hq]
    exact x3 a.addr hne
  · rw [if_neg hq]
    by_cases hqb : q = b.addr
    · rw [hqb, hd.1]
    · rw [x3 q hqb, n3 q hq, m3 q hqb]
end Go.Proofs.Ytepggbhibpjkpaa
