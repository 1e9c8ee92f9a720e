/- What is done to states, as it comes in; how many accounts there may be. The law's run: what is done to a state. -/
import Derived.Test.YtiojfpdjnblkhaaQPai
import Derived.Test.YtiojfpdjnblkhaaQSpt
namespace Go.Proofs.Ytiojfpdjnblkhaa
open Go.ChangeShapes Go.WideShapes Go.ChangeAt Go.RowKit Go.Shelf

structure Opn where
 kind : Int
 a : Nat
 b : Nat
 n : Nat
 pr : Nat × Nat
 ac : Ac
def Opn.ok (o : Opn) : Prop := (-9223372036854775808 ≤ o.kind ∧ o.kind ≤ 9223372036854775807) ∧ o.a < 18446744073709551616 ∧ o.b < 18446744073709551616 ∧ o.n < M256 ∧ o.pr.1 < M256 ∧ o.pr.2 < M256 ∧ o.ac.ok
def opc (o : Opn) (u v : Value) : Array Value := #[.int .i64 o.kind, .int .u64 (o.a : Nat), .int .u64 (o.b : Nat), lv (lb o.n 0), lv (lb o.n 1), lv (lb o.n 2), lv (lb o.n 3),
 lv (lb o.pr.1 0), lv (lb o.pr.1 1), lv (lb o.pr.1 2), lv (lb o.pr.1 3), lv (lb o.pr.2 0), lv (lb o.pr.2 1), lv (lb o.pr.2 2), lv (lb o.pr.2 3),
 .int .u64 (o.ac.addr : Nat), lv (lb o.ac.bal 0), lv (lb o.ac.bal 1), lv (lb o.ac.bal 2), lv (lb o.ac.bal 3), .int .u64 (o.ac.nonce : Nat), u, v]
def OpR (W : World) (cs : List Value) (o : Opn) : Prop := o.ok ∧ ∃ u v, cs = (opc o u v).toList ∧ Bs W u o.ac.code ∧ Pks W v o.ac.store
set_option maxRecDepth 100000 in
theorem i64_trod {H : Type} {enc : TypeId × Value → H} {W : World} {f : Nat → Bool} {b : Bool} {fuel : Nat} {t : TypeId} {cs : List Value} {x : DataW H × List MemPlace} (ht : Try.prog.underlying t = some (.int .i64)) (h : DataW.trod enc Try.prog W 0 f b fuel t cs = some x) : ∃ z : Int, (-9223372036854775808 ≤ z ∧ z ≤ 9223372036854775807) ∧ cs = [.int .i64 z] := by
 obtain ⟨z, e0, _, wz⟩ := DataW.trod_int ht h
 have hb : -9223372036854775808 ≤ z ∧ z ≤ 9223372036854775807 := by simpa [Lit.wf, IntKind.min, IntKind.max, IntKind.signed, IntKind.bits] using wz
 exact ⟨z, hb, e0⟩
set_option maxRecDepth 100000 in
theorem op_trod {H : Type} {enc : TypeId × Value → H} {W : World} {f : Nat → Bool} {b : Bool} {fuel : Nat} {cs : List Value} {x : DataW H × List MemPlace} (h : DataW.trod enc Try.prog W 0 f b fuel 39 cs = some x) : ∃ z, OpR W cs z := by
 obtain ⟨xs, n, _, _, hl, hlen, hf⟩ := DataW.trod_struct Try.underlying39 h
 have hC : Try.prog.cellsOf 39 = 23 := by kernel_rfl
 have hI : Try.prog.cellsOf 3 = 1 := by kernel_rfl
 have hA : Try.prog.cellsOf 29 = 1 := by kernel_rfl
 have hW : Try.prog.cellsOf 31 = 4 := by kernel_rfl
 have hP : Try.prog.cellsOf 33 = 8 := by kernel_rfl
 have hS : Try.prog.cellsOf 37 = 8 := by kernel_rfl
 rw [hC] at hl
 match xs, hlen with
 | [y0, y1, y2, y3, y4, y5], _ =>
  have h0 : DataW.trod enc Try.prog W 0 f b n 3 ((cs.drop 0).take (Try.prog.cellsOf 3)) = some y0 := by simpa using hf 0 _ rfl
  have h1 : DataW.trod enc Try.prog W 0 f b n 29 ((cs.drop 1).take (Try.prog.cellsOf 29)) = some y1 := by simpa using hf 1 _ rfl
  have h2 : DataW.trod enc Try.prog W 0 f b n 29 ((cs.drop 2).take (Try.prog.cellsOf 29)) = some y2 := by simpa using hf 2 _ rfl
  have h3 : DataW.trod enc Try.prog W 0 f b n 31 ((cs.drop 3).take (Try.prog.cellsOf 31)) = some y3 := by simpa using hf 3 _ rfl
  have h4 : DataW.trod enc Try.prog W 0 f b n 33 ((cs.drop 7).take (Try.prog.cellsOf 33)) = some y4 := by simpa using hf 4 _ rfl
  have h5 : DataW.trod enc Try.prog W 0 f b n 37 ((cs.drop 15).take (Try.prog.cellsOf 37)) = some y5 := by simpa using hf 5 _ rfl
  rw [hI] at h0
  rw [hA] at h1 h2
  rw [hW] at h3
  rw [hP] at h4
  rw [hS] at h5
  obtain ⟨z0, b0, e0⟩ := i64_trod Try.underlying3 h0
  obtain ⟨z1, b1, e1⟩ := u64_trod Try.underlying29 h1
  obtain ⟨z2, b2, e2⟩ := u64_trod Try.underlying29 h2
  obtain ⟨z3, b3, hl3, hc3⟩ := word_trod h3
  have e3 := wc_list z3 _ hl3 hc3
  obtain ⟨z4, b4, b4', e4⟩ := pair_trod h4
  obtain ⟨z5, b5, u, v, e5, hu, hv⟩ := ac_trod h5
  refine ⟨⟨z0, z1, z2, z3, z4, z5⟩, ⟨b0, b1, b2, b3, b4, b4', b5⟩, u, v, ?_, hu, hv⟩
  have e : cs = (cs.drop 0).take 1 ++ ((cs.drop 1).take 1 ++ ((cs.drop 2).take 1 ++ ((cs.drop 3).take 4 ++ ((cs.drop 7).take 8 ++ (cs.drop 15).take 8)))) := by
   rw [List.take_of_length_le (show (cs.drop 15).length ≤ 8 by rw [List.length_drop]; omega), show cs.drop 15 = (cs.drop 7).drop 8 by rw [List.drop_drop], List.take_append_drop, show cs.drop 7 = (cs.drop 3).drop 4 by rw [List.drop_drop], List.take_append_drop, show cs.drop 3 = (cs.drop 2).drop 1 by rw [List.drop_drop], List.take_append_drop, show cs.drop 2 = (cs.drop 1).drop 1 by rw [List.drop_drop], List.take_append_drop, show cs.drop 1 = (cs.drop 0).drop 1 by rw [List.drop_drop], List.take_append_drop, List.drop_zero]
  rw [e, e0, e1, e2, e3, e4, e5]
  rfl
theorem op_word {W : World} {g : Nat} {t : TypeId} {o : Opn} {u v : Value} (h : Cs W g t (opc o u v)) : W.rangeAt g 3 (wc o.n).toList := fun j x hx => by
 have hj : j < 4 := by
  have h1 := (List.getElem?_eq_some_iff.1 hx).1
  simpa [wc] using h1
 obtain rfl | rfl | rfl | rfl : j = 0 ∨ j = 1 ∨ j = 2 ∨ j = 3 := by omega
 all_goals exact Cs.cell h _ _ (by simpa [wc, opc] using hx)
theorem op_range {W : World} {g : Nat} {t : TypeId} {o : Opn} {u v : Value} (h : Cs W g t (opc o u v)) : W.rangeAt g 7 (pkc o.pr).toList ∧ W.rangeAt g 15 (acc o.ac u v).toList := by
 constructor
 ·intro j x hx
  have hj : j < 8 := by
   have h1 := (List.getElem?_eq_some_iff.1 hx).1
   simpa [pkc] using h1
  obtain rfl | rfl | rfl | rfl | rfl | rfl | rfl | rfl : j = 0 ∨ j = 1 ∨ j = 2 ∨ j = 3 ∨ j = 4 ∨ j = 5 ∨ j = 6 ∨ j = 7 := by omega
  all_goals exact Cs.cell h _ _ (by simpa [pkc, opc] using hx)
 ·intro j x hx
  have hj : j < 8 := by
   have h1 := (List.getElem?_eq_some_iff.1 hx).1
   simpa [acc] using h1
  obtain rfl | rfl | rfl | rfl | rfl | rfl | rfl | rfl : j = 0 ∨ j = 1 ∨ j = 2 ∨ j = 3 ∨ j = 4 ∨ j = 5 ∨ j = 6 ∨ j = 7 := by omega
  all_goals exact Cs.cell h _ _ (by simpa [acc, opc] using hx)

theorem fewL_sz (l : List Ac) : ∀ q ∈ fewL l, q.code.length ≤ 201 ∧ q.store.length ≤ 25 := fun q hq => by
 unfold fewL at hq
 obtain ⟨p, _, rfl⟩ := List.mem_map.1 hq
 unfold oneA
 simp
 omega
end Go.Proofs.Ytiojfpdjnblkhaa
namespace Go.Proofs.Ytiojfpdjnblkhaa
open Go.ChangeShapes Go.WideShapes Go.ChangeAt Go.RowKit Go.Shelf

def kdI (o : Opn) : Int := (IntKind.u64.wrap o.kind).tmod 5
theorem kdI_cases (o : Opn) : kdI o = 0 ∨ kdI o = 1 ∨ kdI o = 2 ∨ kdI o = 3 ∨ kdI o = 4 := by
 have h : ∃ n : Nat, IntKind.u64.wrap o.kind = (n : Int) := ⟨(IntKind.u64.wrap o.kind).toNat, by
  rw [Int.toNat_of_nonneg]
  simp only [IntKind.wrap, IntKind.signed, IntKind.bits]
  first | exact Int.emod_nonneg _ (by decide) | (split <;> first | exact Int.emod_nonneg _ (by decide) | omega)⟩
 obtain ⟨n, hn⟩ := h
 unfold kdI
 rw [hn]
 have : ((n : Int)).tmod 5 = ((n % 5 : Nat) : Int) := by rw [Int.tmod_eq_emod_of_nonneg (by omega)]; omega
 rw [this]
 omega
def runS (l : List Ac) (o : Opn) : List Ac × Int := if kdI o = 0 then putA l (oneA o.ac) else if kdI o = 1 then saveS l o.a o.pr else if kdI o = 2 then moveS l o.a o.b o.n else if kdI o = 3 then mintS l o.a o.n else burnS l o.a o.n
theorem own_keptLow {W W' : World} {lo g s n : Nat} {e : TypeId} {v : Value} {ds : List Value} (h : W.ownsRow lo e s v n ds) (hg : W.grownBy W' (some g)) (hl : g < lo) : W'.ownsRow lo e s v n ds :=
 h.kept hg (by
  cases hv : v.ownBlock with
  | none => exact .inl rfl
  | some k => exact .inr (fun e => by injection e with e; have := (h.lt k hv).1; omega))
theorem RwA.keptLow {lo g : Nat} {W W' : World} {vb va : Value} {l : List Ac} (h : RwA lo W vb va l) (hg : W.grownBy W' (some g)) (hl : g < lo) : RwA lo W' vb va l := by
 obtain ⟨t, h1, h2, h3, h4⟩ := h
 exact ⟨t, h1, own_keptLow h2 hg hl, h3, fun x hx => ⟨(h4 x hx).1, ⟨own_keptLow (h4 x hx).2.1.1 hg hl, own_keptLow (h4 x hx).2.1.2.1 hg hl, (h4 x hx).2.1.2.2⟩, (h4 x hx).2.2⟩⟩
structure RnJ (w : World) (lo1 lo2 g4 g6 g7 : Nat) (x : Ac) (ux vx vn : Value) (rl : List Ac) (k m : Nat) (W : World) : Prop where
 g6 : Cs W g6 37 (acc x ux vx)
 g7 : Cs W g7 24 #[vn]
 g4 : Cs W g4 24 #[.slice none 0 0]
 row : RwA lo2 W vn (.slice none 0 0) rl
 ext : Ext w W
 code : ∃ cs, W.ownsRow lo1 5 1 ux x.code.length cs ∧ ∀ j, k ≤ j → cs[j]? = (x.code.map bv)[j]?
 store : ∃ ds, W.ownsRow lo1 33 8 vx x.store.length ds ∧ ∀ j, m * 8 ≤ j → ds[j]? = (pkf x.store)[j]?
structure RnG (w : World) (lo1 lo2 g4 g6 g7 : Nat) (ux vx : Value) : Prop where
 w : w.heap.size ≤ lo1
 o4 : g4 < lo1
 u : ∀ b, ux.ownBlock = some b → b < g6 ∧ b < g7 ∧ b < lo2
 v : ∀ b, vx.ownBlock = some b → b < g6 ∧ b < g7 ∧ b < lo2
 uv : ∀ b c, ux.ownBlock = some b → vx.ownBlock = some c → b ≠ c
theorem RnJ.ext' {w : World} {lo1 lo2 g4 g6 g7 : Nat} {x : Ac} {ux vx vn : Value} {rl : List Ac} {k m : Nat} {W W' : World} (h : RnJ w lo1 lo2 g4 g6 g7 x ux vx vn rl k m W) (he : Ext W W') : RnJ w lo1 lo2 g4 g6 g7 x ux vx vn rl k m W' := by
 obtain ⟨cs, c1, c2⟩ := h.code
 obtain ⟨ds, d1, d2⟩ := h.store
 exact ⟨Cs.ext h.g6 he, Cs.ext h.g7 he, Cs.ext h.g4 he, h.row.ext he, h.ext.trans he, ⟨cs, own_ext c1 he, c2⟩, ⟨ds, own_ext d1 he, d2⟩⟩
theorem RnJ.putCode {w : World} {lo1 lo2 g4 g6 g7 b c n : Nat} {x : Ac} {vx vn : Value} {rl : List Ac} {k m : Nat} {W : World} (h : RnJ w lo1 lo2 g4 g6 g7 x (.slice (some ⟨b, 0, none⟩) n c) vx vn rl k m W) (hG : RnG w lo1 lo2 g4 g6 g7 (.slice (some ⟨b, 0, none⟩) n c) vx) (z : Value) :
  RnJ w lo1 lo2 g4 g6 g7 x (.slice (some ⟨b, 0, none⟩) n c) vx vn rl (k + 1) m (W.setCell ⟨b, k, none⟩ z) := by
 obtain ⟨cs, c1, c2⟩ := h.code
 obtain ⟨ds, d1, d2⟩ := h.store
 have hn : x.code.length = n := by
  rcases c1.2 with ⟨e, _⟩ | ⟨g, cap, cur, e, _⟩
  ·injection e with e; cases e
  ·injection e with _ e2 _; exact e2.symm
 rw [hn] at c1
 obtain ⟨s1, s2⟩ := c1.stored k z
 obtain ⟨hb6, hb7, hb2⟩ := hG.u b rfl
 have hlb := (c1.lt b rfl).1
 have h4 := hG.o4
 have hw := hG.w
 refine ⟨Cs.kept h.g6 s2 (some_ne (by omega)), Cs.kept h.g7 s2 (some_ne (by omega)), Cs.kept h.g4 s2 (some_ne (by omega)), h.row.keptLow s2 hb2, h.ext.grown s2 (by omega), ⟨_, by rw [hn]; exact s1, fun j hj => ?_⟩, ⟨ds, d1.kept s2 ?_, d2⟩⟩
 ·rw [List.getElem?_set_ne (by omega)]
  exact c2 j (by omega)
 ·cases hv : vx.ownBlock with
  | none => exact .inl rfl
  | some q => exact .inr (fun e => by injection e with e; exact hG.uv b q rfl hv e.symm)
theorem RnJ.putStore {w : World} {lo1 lo2 g4 g6 g7 b c n : Nat} {x : Ac} {ux vn : Value} {rl : List Ac} {k m : Nat} {W : World} (h : RnJ w lo1 lo2 g4 g6 g7 x ux (.slice (some ⟨b, 0, none⟩) n c) vn rl k m W) (hG : RnG w lo1 lo2 g4 g6 g7 ux (.slice (some ⟨b, 0, none⟩) n c)) (z : Value) :
  RnJ w lo1 lo2 g4 g6 g7 x ux (.slice (some ⟨b, 0, none⟩) n c) vn rl k (m + 1) (W.setCell ⟨b, m * 8 + 4, none⟩ z) := by
 obtain ⟨cs, c1, c2⟩ := h.code
 obtain ⟨ds, d1, d2⟩ := h.store
 have hn : x.store.length = n := by
  rcases d1.2 with ⟨e, _⟩ | ⟨g, cap, cur, e, _⟩
  ·injection e with e; cases e
  ·injection e with _ e2 _; exact e2.symm
 rw [hn] at d1
 obtain ⟨s1, s2⟩ := d1.stored (m * 8 + 4) z
 obtain ⟨hb6, hb7, hb2⟩ := hG.v b rfl
 have hlb := (d1.lt b rfl).1
 have h4 := hG.o4
 have hw := hG.w
 refine ⟨Cs.kept h.g6 s2 (some_ne (by omega)), Cs.kept h.g7 s2 (some_ne (by omega)), Cs.kept h.g4 s2 (some_ne (by omega)), h.row.keptLow s2 hb2, h.ext.grown s2 (by omega), ⟨cs, c1.kept s2 ?_, c2⟩, ⟨_, by rw [hn]; exact s1, fun j hj => ?_⟩⟩
 ·cases hv : ux.ownBlock with
  | none => exact .inl rfl
  | some q => exact .inr (fun e => by injection e with e; exact hG.uv q b hv rfl e)
 ·rw [List.getElem?_set_ne (by omega)]
  exact d2 j (by omega)
theorem own_addr {W : World} {lo s n c m : Nat} {e : TypeId} {A : Option Addr} {cs : List Value} (h : W.ownsRow lo e s (.slice A n c) m cs) (hn : 0 < m) : ∃ b, A = some ⟨b, 0, none⟩ := by
 rcases h.2 with ⟨_, h0⟩ | ⟨b, cap, cur, e, _⟩
 ·omega
 ·injection e with e
  exact ⟨b, e⟩
theorem pkf_get : ∀ (l : List (Nat × Nat)) (i j : Nat), i < l.length → j < 8 → (pkf l)[i * 8 + j]? = (pkc (l.getD i (0, 0))).toList[j]?
 | [], i, _, hi, _ => by simp at hi
 | p :: l, 0, j, _, hj => by
  have e : pkf (p :: l) = (pkc p).toList ++ pkf l := by simp [pkf]
  rw [e, List.getElem?_append_left (by simp [pkc]; omega)]
  simp
 | p :: l, i + 1, j, hi, hj => by
  have e : pkf (p :: l) = (pkc p).toList ++ pkf l := by simp [pkf]
  have hl : (pkc p).toList.length = 8 := rfl
  rw [e, List.getElem?_append_right (by omega), hl, show (i + 1) * 8 + j - 8 = i * 8 + j by omega, pkf_get l i j (by simpa using hi) hj]
  simp
set_option maxRecDepth 100000 in
set_option maxHeartbeats 8000000 in
theorem run_any (sv : Value) (l : List Ac) (o : Opn) (uo vo : Value) (w : World) (hs : Acs w sv l) (hl : l.length ≤ 1000) (hsz : ∀ q ∈ l, q.code.length ≤ 1000000 ∧ q.store.length ≤ 1000000) (hok : o.ok) (hu : Bs w uo o.ac.code) (hv : Pks w vo o.ac.store) (hSV : rightL l = true → SavedOK (accF l o.a).1.store o.pr) :
  Calls Try.prog 12 #[.agg (opc o uo vo), .agg #[sv]] w (RetS w (runS l o)) := by
 have HS := Lib.hid hs
 have HUV := Lib.hid (And.intro hu hv)
 have HSZ := Lib.hid hsz
 have HSZ2 := Lib.hid (show ∀ q ∈ l, q.code.length ≤ 1000000000 ∧ q.store.length ≤ 1000000000 from fun q hq => by have := hsz q hq; omega)
 have HA := Lib.hid hok.2.1
 have HB := Lib.hid hok.2.2.1
 have HN := Lib.hid hok.2.2.2.1
 have HAC := Lib.hid hok.2.2.2.2.2.2
 have HSV := Lib.hid hSV
 obtain ⟨A0, c0, rfl, h1, h2⟩ := hs.len
 have hk1 := hok.1.1
 have hk2 := hok.1.2
 obtain ⟨w0, hw0⟩ : ∃ w0, (((w.alloc (.cells (opc o uo vo) 39)).alloc (.cells #[.slice A0 l.length c0] 24)).alloc (.cells #[.slice none 0 0] 24)) = w0 := ⟨_, rfl⟩
 have HB0 : Hid (Cs w0 w.heap.size 39 (opc o uo vo) ∧ Cs w0 (w.heap.size + 1) 24 #[.slice A0 l.length c0] ∧ Cs w0 (w.heap.size + 1 + 1) 24 #[.slice none 0 0] ∧ Ext w w0 ∧ w.heap.size + 1 + 1 < w0.heap.size) := by
  rw [← hw0]
  exact Lib.hid ⟨Cs.alloc (Cs.alloc (Cs.new _ _ _ _ rfl) _) _, Cs.alloc (Cs.new _ _ _ _ (by simp)) _, Cs.new _ _ _ _ (by simp), (((Ext.refl w).alloc _).alloc _).alloc _, by simp⟩
 have HW0 := Lib.hid hw0
 have q0 : w0.cell? ⟨w.heap.size, 0, none⟩ = some (.int .i64 o.kind) := HB0.out.1.cell 0 _ rfl
 have q1 : w0.cell? ⟨w.heap.size, 1, none⟩ = some (.int .u64 (o.a : Nat)) := HB0.out.1.cell 1 _ rfl
 have q2 : w0.cell? ⟨w.heap.size, 2, none⟩ = some (.int .u64 (o.b : Nat)) := HB0.out.1.cell 2 _ rfl
 have q3 : w0.cell? ⟨w.heap.size + 1, 0, none⟩ = some (.slice A0 l.length c0) := HB0.out.2.1.cell 0 _ rfl
 have HWN := Lib.hid (op_word HB0.out.1)
 have HPR := Lib.hid (op_range HB0.out.1)
 have HK := Lib.hid (kdI_cases o)
 clear hs hsz hw0 hok hu hv hSV
 go_enter Try.func12, Try.ntmps12
 go_upto_region 1 with fail
 rw [HW0.out]
 clear HW0
 go_upto_region 2 with fail
 rw [show (IntKind.u64.wrap o.kind).tmod 5 = kdI o from rfl]
 clear q0 hk1 hk2
 rcases HK.out with hk | hk | hk | hk | hk
 ·have HF := Lib.hid (show runS l o = putA l (oneA o.ac) by unfold runS; rw [hk]; rfl)
  rw [hk]
  clear hk q1 q2 HWN HSV HN HA HB HSZ
  go_wp2_with ((with_reducible refine wpList_load_ac ?_ (.tmp 17) ?_ w.heap.size 15 o.ac uo vo ?_ ?_ ?_); (exact rfl); (exact rfl); (exact rfl); (exact HPR.out.2))
  refine (one_any o.ac uo vo _ (HUV.out.1.ext HB0.out.2.2.2.1) (HUV.out.2.ext HB0.out.2.2.2.1)).mono ?_
  rintro e w1 ⟨ux, vx, rfl, ho, he⟩
  have HOX := Lib.hid (show (oneA o.ac).ok from HAC.out)
  have HXZ := Lib.hid (show (oneA o.ac).code.length ≤ 1000000000 ∧ (oneA o.ac).store.length ≤ 1000000000 by unfold oneA; simp; omega)
  obtain ⟨x, hx⟩ : ∃ x, oneA o.ac = x := ⟨_, rfl⟩
  rw [hx] at ho HOX HXZ HF ⊢
  have HE1 := Lib.hid (HB0.out.2.2.2.1.trans he)
  have HS1 := Lib.hid (Cs.ext HB0.out.2.1 he)
  have HG1 := Lib.hid (Cs.ext HB0.out.2.2.1 he)
  have HO := Lib.hid ho
  have HLO := Lib.hid (fun b (h : ux.ownBlock = some b ∨ vx.ownBlock = some b) => ho.lt b h)
  obtain ⟨_, Au, cu, rfl, a1, a2, _⟩ := Rs.of_own ho.1
  obtain ⟨_, Av, cv, rfl, a3, a4, _⟩ := Rs.of_own ho.2.1
  unfold maxLen at a2 a4
  clear hx ho he HPR HUV HAC q3
  go_upto_region 4 with ((with_reducible refine wpList_store_ac ?_ ?_ (.tmp 6) (.tmp 19) ?_ w1.heap.size az0 x (.slice Au x.code.length cu) (.slice Av x.store.length cv) ?_ ?_ ?_ ?_ ?_ ?_ ?_); (exact rfl); (exact rfl); (exact rfl); (exact rfl); (exact rfl); (exact rfl); (exact rfl); (exact Cs.new _ _ _ _ rfl); (exact rfl); intro w2 k2 h2'; have K2 := Lib.hid k2; have HX2 := Lib.hid (((Ext.refl w1).alloc _).grown h2' (Nat.le_refl _)); have HGR := Lib.hid h2'; clear k2 h2')
  have HO2 := Lib.hid ((HO.out.ext ((Ext.refl w1).alloc _)).kept HGR.out (fun g e => by injection e with e; subst e; exact ⟨fun e => by have := (HLO.out _ (.inl e)).2; omega, fun e => by have := (HLO.out _ (.inr e)).2; omega⟩))
  have HL2 := Lib.hid (show w1.heap.size < w2.heap.size from Cs.lt K2.out)
  have HE2 := Lib.hid (HE1.out.trans HX2.out)
  have r3 : w2.cell? ⟨w.heap.size + 1, 0, none⟩ = some (.slice A0 l.length c0) := (Cs.ext HS1.out HX2.out).cell 0 _ rfl
  have HG2 := Lib.hid (Cs.ext HG1.out HX2.out)
  have HKR := Lib.hid K2.out.range
  clear HO HX2 HGR HS1 HG1
  go_wp2_with ((with_reducible refine wpList_load_ac ?_ (.tmp 6) ?_ w1.heap.size 0 x (.slice Au x.code.length cu) (.slice Av x.store.length cv) ?_ ?_ ?_); (exact rfl); (exact rfl); (exact rfl); (exact HKR.out))
  refine (putAcc_any _ l x (.slice Au x.code.length cu) (.slice Av x.store.length cv) _ (HS.out.ext HE2.out) hl HSZ2.out HOX.out HO2.out.1.bs HO2.out.2.pks HXZ.out).mono ?_
  rintro e w4 ⟨vn, rfl, hr, he⟩
  rw [← HF.out] at hr ⊢
  generalize runS l o = r at *
  have HR := Lib.hid hr
  obtain ⟨An, cn, rfl⟩ := hr.shape
  have HX4 := Lib.hid he
  clear hr he r3 HKR
  go_upto_region 5 with fail
  obtain ⟨w5, hw5⟩ : ∃ w5, w4.alloc (.cells #[.slice An r.1.length cn] 24) = w5 := ⟨_, rfl⟩
  have HX5 : Hid (Ext w4 w5) := Lib.hid (by rw [← hw5]; exact (Ext.refl _).alloc _)
  have HG7 : Hid (Cs w5 w4.heap.size 24 #[.slice An r.1.length cn]) := Lib.hid (by rw [← hw5]; exact Cs.new _ _ _ _ rfl)
  rw [hw5]
  have HJ0 : Hid (RnJ w w0.heap.size w2.heap.size (w.heap.size + 1 + 1) w1.heap.size w4.heap.size x (.slice Au x.code.length cu) (.slice Av x.store.length cv) (.slice An r.1.length cn) r.1 0 0 w5) := Lib.hid
   ⟨Cs.ext K2.out (HX4.out.trans HX5.out), HG7.out, Cs.ext HG2.out (HX4.out.trans HX5.out), HR.out.ext HX5.out, HE2.out.trans (HX4.out.trans HX5.out), ⟨_, own_ext HO2.out.1 (HX4.out.trans HX5.out), fun _ _ => rfl⟩, ⟨_, own_ext HO2.out.2.1 (HX4.out.trans HX5.out), fun _ _ => rfl⟩⟩
  have HGG : Hid (RnG w w0.heap.size w2.heap.size (w.heap.size + 1 + 1) w1.heap.size w4.heap.size (.slice Au x.code.length cu) (.slice Av x.store.length cv)) := Lib.hid
   ⟨HB0.out.2.2.2.1.size, HB0.out.2.2.2.2, fun b hb => by have := (HLO.out b (.inl hb)).2; have := HL2.out; have := HX4.out.size; omega, fun b hb => by have := (HLO.out b (.inr hb)).2; have := HL2.out; have := HX4.out.size; omega, fun b c hb hc e => by
    rcases own_diff (by decide) HO2.out.1 HO2.out.2.1 with h | h
    ·rw [h] at hb; cases hb
    ·exact h (by rw [hb, hc, e])⟩
  have HLW := Lib.hid (show w.heap.size ≤ w2.heap.size from HE2.out.size)
  clear hw5 HX5 HG7 K2 HX4 HG2 HR HE2 HO2 HLO HL2 HE1
  generalize w1.heap.size = g6 at *
  generalize w4.heap.size = g7 at *
  generalize w2.heap.size = lo2 at *
  generalize w0.heap.size = lo1 at *
  have c6 : w5.cell? ⟨g6, 6, none⟩ = some (.slice Au x.code.length cu) := HJ0.out.g6.cell 6 _ rfl
  go_wp2_with fail
  clear c6
  go_loopw [29] (fun iv wr => ∃ k : Nat, k ≤ x.code.length ∧ iv = .int .i64 k ∧ Hid (RnJ w lo1 lo2 (w.heap.size + 1 + 1) g6 g7 x (.slice Au x.code.length cu) (.slice Av x.store.length cv) (.slice An r.1.length cn) r.1 k 0 wr)) (fun iv _ => x.code.length - (intOf iv).toNat)
  case atStart => exact ⟨0, by omega, rfl, HJ0⟩
  case round =>
   clear HJ0
   obtain ⟨k, hk, rfl, HJ⟩ := hrel
   by_cases hlt : k < x.code.length
   ·have hd : decide (k < x.code.length) = true := decide_eq_true hlt
    obtain ⟨cs, d1, d2⟩ := HJ.out.code
    obtain ⟨b, rfl⟩ := own_addr d1 (by omega)
    have hbk := (d1.cellAt k (by omega)).trans (d2 k (Nat.le_refl _))
    have hfk : wr.frozen? ⟨b, k, none⟩ = false := d1.frozenAt k
    rw [List.getElem?_map, List.getElem?_eq_getElem hlt] at hbk
    replace hbk : wr.cell? ⟨b, k, none⟩ = some (.int .u8 ((x.code[k]).toNat : Int)) := hbk
    generalize (x.code[k]).toNat = y at *
    have c6 : wr.cell? ⟨g6, 6, none⟩ = some (.slice (some ⟨b, 0, none⟩) x.code.length cu) := HJ.out.g6.cell 6 _ rfl
    clear d1 d2
    go_wp2_with fail
    exact ⟨⟨k + 1, by omega, by go_num, Lib.hid (HJ.out.putCode HGG.out _)⟩, by simp [intOf]; omega⟩
   ·obtain rfl : k = x.code.length := by omega
    have HJ0 := Lib.hid HJ.out
    obtain ⟨w6, hw6⟩ : ∃ w6, wr = w6 := ⟨_, rfl⟩
    rw [hw6] at HJ0 ⊢
    clear hw6 HJ
    have c7 : w6.cell? ⟨g6, 7, none⟩ = some (.slice Av x.store.length cv) := HJ0.out.g6.cell 7 _ rfl
    go_wp2_with fail
    clear c7
    go_loopw [43] (fun iv wr => ∃ m : Nat, m ≤ x.store.length ∧ iv = .int .i64 m ∧ Hid (RnJ w lo1 lo2 (w.heap.size + 1 + 1) g6 g7 x (.slice Au x.code.length cu) (.slice Av x.store.length cv) (.slice An r.1.length cn) r.1 x.code.length m wr)) (fun iv _ => x.store.length - (intOf iv).toNat)
    case atStart => exact ⟨0, by omega, rfl, HJ0⟩
    case round =>
     clear HJ0
     obtain ⟨m, hm, rfl, HJ⟩ := hrel
     by_cases hlt : m < x.store.length
     ·have hd : decide (m < x.store.length) = true := decide_eq_true hlt
      obtain ⟨ds, d1, d2⟩ := HJ.out.store
      obtain ⟨b, rfl⟩ := own_addr d1 (by omega)
      have hbk := (d1.cellAt (m * 8 + 4) (by omega)).trans (d2 (m * 8 + 4) (by omega))
      have hfk : wr.frozen? ⟨b, m * 8 + 4, none⟩ = false := d1.frozenAt _
      rw [pkf_get x.store m 4 hlt (by omega)] at hbk
      replace hbk : wr.cell? ⟨b, m * 8 + 4, none⟩ = some (.int .u64 (lb (x.store.getD m (0, 0)).2 0 : Nat)) := hbk
      generalize lb (x.store.getD m (0, 0)).2 0 = y at *
      have c7 : wr.cell? ⟨g6, 7, none⟩ = some (.slice (some ⟨b, 0, none⟩) x.store.length cv) := HJ.out.g6.cell 7 _ rfl
      clear d1 d2
      go_upto_region 13 with fail
      go_region
      all_goals
       go_wp2_with fail
       exact ⟨⟨m + 1, by omega, by go_num, Lib.hid ((HJ.out.putStore HGG.out _).ext' (Ext.refl _).drew)⟩, by simp [intOf]; omega⟩
     ·obtain rfl : m = x.store.length := by omega
      have c7 : wr.cell? ⟨g7, 0, none⟩ = some (.slice An r.1.length cn) := HJ.out.g7.cell 0 _ rfl
      have r2 : wr.cell? ⟨w.heap.size + 1 + 1, 0, none⟩ = some (.slice none 0 0) := HJ.out.g4.cell 0 _ rfl
      have p2 : wr.frozen? ⟨w.heap.size + 1 + 1, 0, none⟩ = false := HJ.out.g4.frozen 0
      go_wp2_with fail
      refine bodyPost_ret (results_st_err Try.results12 _ _ (w.heap.size + 1 + 1) (.slice An r.1.length cn) rfl (by simpa using Cs.set HJ.out.g4 0 (.slice An r.1.length cn))) rfl ?_
      exact ⟨_, rfl, (HJ.out.row.keptS (grown_set _ _ _ _) HJ.out.g4).low HLW.out, HJ.out.ext.grown (grown_set _ _ _ _) (by omega)⟩
 ·have HF := Lib.hid (show runS l o = saveS l o.a o.pr by unfold runS; rw [hk]; rfl)
  rw [hk]
  clear hk
  go_wp2_with (first
   | ((with_reducible refine wpList_load_wordIn ?_ (.tmp 999) ?_ w.heap.size 3 (o.n) ?_ ?_ ?_); (exact rfl); (exact rfl); (exact rfl); (exact HWN.out))
   | ((with_reducible refine wpList_load_pair ?_ (.tmp 65) ?_ w.heap.size 7 o.pr ?_ ?_ ?_); (exact rfl); (exact rfl); (exact rfl); (exact HPR.out.1)))
  refine (stateSave_any _ l o.a o.pr _ (HS.out.ext HB0.out.2.2.2.1) HA.out hl HSZ.out HSV.out).mono ?_
  rintro e w1 ⟨vn, rfl, hr, he⟩
  rw [← HF.out] at hr ⊢
  generalize runS l o = r at *
  have HR := Lib.hid hr
  obtain ⟨An, cn, rfl⟩ := hr.shape
  have HG4 := Lib.hid (Cs.ext HB0.out.2.2.1 he)
  have HE1 := Lib.hid (HB0.out.2.2.2.1.trans he)
  have r2 : w1.cell? ⟨w.heap.size + 1 + 1, 0, none⟩ = some (.slice none 0 0) := HG4.out.cell 0 _ rfl
  have p2 : w1.frozen? ⟨w.heap.size + 1 + 1, 0, none⟩ = false := HG4.out.frozen 0
  clear hr he
  go_wp2_with fail
  refine bodyPost_ret (results_st_err Try.results12 _ _ (w.heap.size + 1 + 1) (.slice An r.1.length cn) rfl (by simpa using Cs.set HG4.out 0 (.slice An r.1.length cn))) rfl ?_
  exact ⟨_, rfl, (HR.out.keptS (grown_set _ _ _ _) HG4.out).low HB0.out.2.2.2.1.size, HE1.out.grown (grown_set _ _ _ _) (by omega)⟩
 ·have HF := Lib.hid (show runS l o = moveS l o.a o.b o.n by unfold runS; rw [hk]; rfl)
  rw [hk]
  clear hk
  go_wp2_with (first
   | ((with_reducible refine wpList_load_wordIn ?_ (.tmp 77) ?_ w.heap.size 3 (o.n) ?_ ?_ ?_); (exact rfl); (exact rfl); (exact rfl); (exact HWN.out))
   | ((with_reducible refine wpList_load_pair ?_ (.tmp 65) ?_ w.heap.size 7 o.pr ?_ ?_ ?_); (exact rfl); (exact rfl); (exact rfl); (exact HPR.out.1)))
  refine (stateMove_any _ l o.a o.b o.n _ (HS.out.ext HB0.out.2.2.2.1) hl HSZ2.out HN.out HA.out HB.out).mono ?_
  rintro e w1 ⟨vn, rfl, hr, he⟩
  rw [← HF.out] at hr ⊢
  generalize runS l o = r at *
  have HR := Lib.hid hr
  obtain ⟨An, cn, rfl⟩ := hr.shape
  have HG4 := Lib.hid (Cs.ext HB0.out.2.2.1 he)
  have HE1 := Lib.hid (HB0.out.2.2.2.1.trans he)
  have r2 : w1.cell? ⟨w.heap.size + 1 + 1, 0, none⟩ = some (.slice none 0 0) := HG4.out.cell 0 _ rfl
  have p2 : w1.frozen? ⟨w.heap.size + 1 + 1, 0, none⟩ = false := HG4.out.frozen 0
  clear hr he
  go_wp2_with fail
  refine bodyPost_ret (results_st_err Try.results12 _ _ (w.heap.size + 1 + 1) (.slice An r.1.length cn) rfl (by simpa using Cs.set HG4.out 0 (.slice An r.1.length cn))) rfl ?_
  exact ⟨_, rfl, (HR.out.keptS (grown_set _ _ _ _) HG4.out).low HB0.out.2.2.2.1.size, HE1.out.grown (grown_set _ _ _ _) (by omega)⟩
 ·have HF := Lib.hid (show runS l o = mintS l o.a o.n by unfold runS; rw [hk]; rfl)
  rw [hk]
  clear hk
  go_wp2_with (first
   | ((with_reducible refine wpList_load_wordIn ?_ (.tmp 87) ?_ w.heap.size 3 (o.n) ?_ ?_ ?_); (exact rfl); (exact rfl); (exact rfl); (exact HWN.out))
   | ((with_reducible refine wpList_load_pair ?_ (.tmp 65) ?_ w.heap.size 7 o.pr ?_ ?_ ?_); (exact rfl); (exact rfl); (exact rfl); (exact HPR.out.1)))
  refine (stateMint_any _ l o.a o.n _ (HS.out.ext HB0.out.2.2.2.1) hl HSZ2.out HN.out HA.out).mono ?_
  rintro e w1 ⟨vn, rfl, hr, he⟩
  rw [← HF.out] at hr ⊢
  generalize runS l o = r at *
  have HR := Lib.hid hr
  obtain ⟨An, cn, rfl⟩ := hr.shape
  have HG4 := Lib.hid (Cs.ext HB0.out.2.2.1 he)
  have HE1 := Lib.hid (HB0.out.2.2.2.1.trans he)
  have r2 : w1.cell? ⟨w.heap.size + 1 + 1, 0, none⟩ = some (.slice none 0 0) := HG4.out.cell 0 _ rfl
  have p2 : w1.frozen? ⟨w.heap.size + 1 + 1, 0, none⟩ = false := HG4.out.frozen 0
  clear hr he
  go_wp2_with fail
  refine bodyPost_ret (results_st_err Try.results12 _ _ (w.heap.size + 1 + 1) (.slice An r.1.length cn) rfl (by simpa using Cs.set HG4.out 0 (.slice An r.1.length cn))) rfl ?_
  exact ⟨_, rfl, (HR.out.keptS (grown_set _ _ _ _) HG4.out).low HB0.out.2.2.2.1.size, HE1.out.grown (grown_set _ _ _ _) (by omega)⟩
 ·have HF := Lib.hid (show runS l o = burnS l o.a o.n by unfold runS; rw [hk]; rfl)
  rw [hk]
  clear hk
  go_wp2_with (first
   | ((with_reducible refine wpList_load_wordIn ?_ (.tmp 95) ?_ w.heap.size 3 (o.n) ?_ ?_ ?_); (exact rfl); (exact rfl); (exact rfl); (exact HWN.out))
   | ((with_reducible refine wpList_load_pair ?_ (.tmp 65) ?_ w.heap.size 7 o.pr ?_ ?_ ?_); (exact rfl); (exact rfl); (exact rfl); (exact HPR.out.1)))
  refine (stateBurn_any _ l o.a o.n _ (HS.out.ext HB0.out.2.2.2.1) hl HSZ2.out HN.out HA.out).mono ?_
  rintro e w1 ⟨vn, rfl, hr, he⟩
  rw [← HF.out] at hr ⊢
  generalize runS l o = r at *
  have HR := Lib.hid hr
  obtain ⟨An, cn, rfl⟩ := hr.shape
  have HG4 := Lib.hid (Cs.ext HB0.out.2.2.1 he)
  have HE1 := Lib.hid (HB0.out.2.2.2.1.trans he)
  have r2 : w1.cell? ⟨w.heap.size + 1 + 1, 0, none⟩ = some (.slice none 0 0) := HG4.out.cell 0 _ rfl
  have p2 : w1.frozen? ⟨w.heap.size + 1 + 1, 0, none⟩ = false := HG4.out.frozen 0
  clear hr he
  go_wp2_with fail
  refine bodyPost_ret (results_st_err Try.results12 _ _ (w.heap.size + 1 + 1) (.slice An r.1.length cn) rfl (by simpa using Cs.set HG4.out 0 (.slice An r.1.length cn))) rfl ?_
  exact ⟨_, rfl, (HR.out.keptS (grown_set _ _ _ _) HG4.out).low HB0.out.2.2.2.1.size, HE1.out.grown (grown_set _ _ _ _) (by omega)⟩
end Go.Proofs.Ytiojfpdjnblkhaa
