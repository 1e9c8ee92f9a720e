/- Package nonce: nonces, questions, rows of sequences that came in. -/
import Derived.Test.YtepggbhibpjkpaaNoi
import Derived.Test.YtepggbhibpjkpaaWsp
import Derived.Test.YtepggbhibpjkpaaFrm
import Derived.Deep.Strs
namespace Go.Proofs.Ytepggbhibpjkpaa
open Go.ChangeShapes Go.WideShapes Go.ChangeAt Go.RowKit Go.Shelf

set_option maxRecDepth 100000 in
theorem u64_trodN {H : Type} {enc : TypeId × Value → H} {W : World} {f : Nat → Bool} {b : Bool} {fuel : Nat} {t : TypeId} {cs : List Value} {x : DataW H × List MemPlace} (ht : Try.prog.underlying t = some (.int .u64)) (h : DataW.trod enc Try.prog W 0 f b fuel t cs = some x) : ∃ z : Nat, z < 18446744073709551616 ∧ cs = [.int .u64 (z : Nat)] := by
  obtain ⟨z, e0, _, wz⟩ := DataW.trod_int ht h
  have hb : 0 ≤ z ∧ z ≤ 18446744073709551615 := by simpa [Lit.wf, IntKind.min, IntKind.max, IntKind.signed, IntKind.bits] using wz
  exact ⟨z.toNat, by omega, by rw [e0, Int.toNat_of_nonneg hb.1]⟩
set_option maxRecDepth 100000 in
theorem nonce_trod {H : Type} {enc : TypeId × Value → H} {W : World} {f : Nat → Bool} {b : Bool} {fuel : Nat} {cs : List Value} {x : DataW H × List MemPlace} (h : DataW.trod enc Try.prog W 0 f b fuel 38 cs = some x) : ∃ z, NnR cs z := by
  obtain ⟨xs, n, _, _, hl, hlen, hf⟩ := DataW.trod_struct Try.underlying38 h
  have hC : Try.prog.cellsOf 38 = 6 := by kernel_rfl
  have hA : Try.prog.cellsOf 27 = 1 := by kernel_rfl
  have hW : Try.prog.cellsOf 29 = 4 := by kernel_rfl
  have hU : Try.prog.cellsOf 26 = 1 := by kernel_rfl
  rw [hC] at hl
  match xs, hlen with
  | [y0, y1, y2], _ =>
    have h0 : DataW.trod enc Try.prog W 0 f b n 27 ((cs.drop 0).take (Try.prog.cellsOf 27)) = some y0 := by simpa using hf 0 _ rfl
    have h1 : DataW.trod enc Try.prog W 0 f b n 29 ((cs.drop 1).take (Try.prog.cellsOf 29)) = some y1 := by simpa using hf 1 _ rfl
    have h2 : DataW.trod enc Try.prog W 0 f b n 26 ((cs.drop 5).take (Try.prog.cellsOf 26)) = some y2 := by simpa using hf 2 _ rfl
    rw [hA] at h0
    rw [hW] at h1
    rw [hU] at h2
    obtain ⟨z0, b0, e0⟩ := u64_trodN Try.underlying27 h0
    obtain ⟨z1, b1, hl1, hc1⟩ := word_trod h1
    have e1 := wc_list z1 _ hl1 hc1
    obtain ⟨z2, b2, e2⟩ := u64_trodN Try.underlying26 h2
    refine ⟨⟨z0, z1, z2⟩, ⟨b0, b1, b2⟩, ?_⟩
    have e : cs = (cs.drop 0).take 1 ++ ((cs.drop 1).take 4 ++ (cs.drop 5).take 1) := by
      rw [List.take_of_length_le (show (cs.drop 5).length ≤ 1 by rw [List.length_drop]; omega), show cs.drop 5 = (cs.drop 1).drop 4 by rw [List.drop_drop], List.take_append_drop, show cs.drop 1 = (cs.drop 0).drop 1 by rw [List.drop_drop], List.take_append_drop]
      rfl
    rw [e, e0, e1, e2]
    rfl
set_option maxRecDepth 100000 in
theorem nns_trod {H : Type} {enc : TypeId × Value → H} {W : World} {f : Nat → Bool} {b : Bool} {fuel : Nat} {cs : List Value} {x : DataW H × List MemPlace} (h : DataW.trod enc Try.prog W 0 f b fuel 22 cs = some x) : ∃ (v : Value) (l : List Nn), cs = [v] ∧ Nns W v l :=
  slice_came (α := Nn) (s := 6) Try.underlying22 (by kernel_rfl) (by decide) NnR (fun _ _ _ h => nonce_trod h) h
set_option maxRecDepth 100000 in
theorem nns_came {H : Type} {enc : TypeId × Value → H} {W : World} {v : Value} {d : DataW H} {p : List MemPlace}
    (h : DataW.Trod enc Try.prog W 0 (fun _ => true) true 22 v d p) (hv : v.cells.toList = [v]) : ∃ l : List Nn, Nns W v l := by
  obtain ⟨fuel, hf⟩ := h
  obtain ⟨s, l, hc, hl⟩ := nns_trod hf
  rw [hv] at hc
  injection hc with hc _
  rw [hc]
  exact ⟨l, hl⟩
/-! ### Questions: an address, and a word -/
def QtR (cs : List Value) (q : Nat × Nat) : Prop := (q.1 < 18446744073709551616 ∧ q.2 < M256) ∧ cs = (okc q.1 q.2).toList
/-- The slice v reads as the questions l. -/
def Qts (W : World) (v : Value) (l : List (Nat × Nat)) : Prop := Sl W 5 QtR v l
set_option maxRecDepth 100000 in
theorem Qts.ext {W W' : World} {v : Value} {l : List (Nat × Nat)} (h : Qts W v l) (he : Ext W W') : Qts W' v l := Sl.mono h (fun _ _ hc => he.cell hc) fun _ _ h => h
set_option maxRecDepth 100000 in
theorem Qts.len {W : World} {v : Value} {l : List (Nat × Nat)} (h : Qts W v l) : ∃ A c, v = .slice A l.length c ∧ l.length ≤ c ∧ c ≤ maxLen := by
  obtain ⟨A, c, e, h1, h2, _⟩ := h
  exact ⟨A, c, e, h1, h2⟩
set_option maxRecDepth 100000 in
theorem Qts.at {W : World} {A : Option Addr} {n c : Nat} {l : List (Nat × Nat)} (h : Qts W (.slice A n c) l) (i : Nat) (hi : i < l.length) : ∃ b o, A = some ⟨b, o, none⟩ ∧ W.rangeAt b (o + i * 5) (okc (l.getD i (0, 0)).1 (l.getD i (0, 0)).2).toList ∧ (l.getD i (0, 0)).1 < 18446744073709551616 ∧ (l.getD i (0, 0)).2 < M256 := by
  obtain ⟨A', c', e, _, _, h3⟩ := h
  injection e with e1 e2 e3
  subst e1
  obtain ⟨b, o, rfl, hc⟩ := h3 (by omega)
  obtain ⟨cs, _, ⟨k0, rfl⟩, k3⟩ := hc i _ (List.getElem?_eq_getElem hi)
  have e : l.getD i (0, 0) = l[i] := by simp [List.getD, List.getElem?_eq_getElem hi]
  rw [e]
  exact ⟨b, o, rfl, k3, k0.1, k0.2⟩
set_option maxRecDepth 100000 in
theorem at_trod {H : Type} {enc : TypeId × Value → H} {W : World} {f : Nat → Bool} {b : Bool} {fuel : Nat} {cs : List Value} {x : DataW H × List MemPlace} (h : DataW.trod enc Try.prog W 0 f b fuel 31 cs = some x) : ∃ z, QtR cs z := by
  obtain ⟨xs, n, _, _, hl, hlen, hf⟩ := DataW.trod_struct Try.underlying31 h
  have hC : Try.prog.cellsOf 31 = 5 := by kernel_rfl
  have hA : Try.prog.cellsOf 27 = 1 := by kernel_rfl
  have hW : Try.prog.cellsOf 29 = 4 := by kernel_rfl
  rw [hC] at hl
  match xs, hlen with
  | [y0, y1], _ =>
    have h0 : DataW.trod enc Try.prog W 0 f b n 27 ((cs.drop 0).take (Try.prog.cellsOf 27)) = some y0 := by simpa using hf 0 _ rfl
    have h1 : DataW.trod enc Try.prog W 0 f b n 29 ((cs.drop 1).take (Try.prog.cellsOf 29)) = some y1 := by simpa using hf 1 _ rfl
    rw [hA] at h0
    rw [hW] at h1
    obtain ⟨z0, b0, e0⟩ := u64_trodN Try.underlying27 h0
    obtain ⟨z1, b1, hl1, hc1⟩ := word_trod h1
    have e1 := wc_list z1 _ hl1 hc1
    refine ⟨(z0, z1), ⟨b0, b1⟩, ?_⟩
    have e : cs = (cs.drop 0).take 1 ++ (cs.drop 1).take 4 := by
      rw [List.take_of_length_le (show (cs.drop 1).length ≤ 4 by rw [List.length_drop]; omega), show cs.drop 1 = (cs.drop 0).drop 1 by rw [List.drop_drop], List.take_append_drop]
      rfl
    rw [e, e0, e1]
    rfl
set_option maxRecDepth 100000 in
theorem qts_came {H : Type} {enc : TypeId × Value → H} {W : World} {v : Value} {d : DataW H} {p : List MemPlace}
    (h : DataW.Trod enc Try.prog W 0 (fun _ => true) true 23 v d p) (hv : v.cells.toList = [v]) : ∃ l : List (Nat × Nat), Qts W v l := by
  obtain ⟨fuel, hf⟩ := h
  obtain ⟨s, l, hc, hl⟩ := slice_came (α := Nat × Nat) (s := 5) Try.underlying23 (by kernel_rfl) (by decide) QtR (fun _ _ _ h => at_trod h) hf
  rw [hv] at hc
  injection hc with hc _
  rw [hc]
  exact ⟨l, hl⟩
set_option maxRecDepth 100000 in
theorem atinfo : (Try.prog.info? 31).map (·.size) = some 5 := by kernel_rfl
/-- A block that holds a question. -/
def Qb (W : World) (g a k : Nat) : Prop := Cs W g 31 (okc a k)
set_option maxRecDepth 100000 in
theorem Qb.ext {W W' : World} {g a k : Nat} (h : Qb W g a k) (he : Ext W W') : Qb W' g a k := Cs.ext h he
set_option maxRecDepth 100000 in
theorem Qb.key {W : World} {g a k : Nat} (h : Qb W g a k) : W.rangeAt g 1 (wc k).toList := by have := ok_key (Cs.rg h); rwa [Nat.zero_add] at this
set_option maxRecDepth 100000 in
theorem Qb.addr {W : World} {g a k : Nat} (h : Qb W g a k) : W.cell? ⟨g, 0, none⟩ = some (.int .u64 (a : Nat)) := Cs.cell h 0 _ rfl
set_option maxRecDepth 100000 in
theorem wpList_load_at {ops : Array Oper} {rest : List Oper} {o : Oper} {a : Act} {w : World} {Q : Exit → Act → World → Prop} (hgd : Region.wanted o (yielded ops a.tmps) = true) (x : Operand) (ho : o.op = .load 31 x)
    (g k b j : Nat) (hx : a.eval x = .pointer (some ⟨g, k, none⟩)) (hg : w.rangeAt g k (okc b j).toList) (h : wpList Try.prog ops Q rest (a.put o.dst (.agg (okc b j))) w) : wpList Try.prog ops Q (o :: rest) a w := by
  refine wpList_step fun K hK => ?_
  rw [if_pos hgd]
  refine wp_load_mid 31 x ho g k hx (okc b j).toList _ hg Try.underlying31 rfl atinfo ?_
  exact hK _ _ h
set_option maxRecDepth 100000 in
theorem wpList_store_at {ops : Array Oper} {rest : List Oper} {o : Oper} {a : Act} {w : World} {Q : Exit → Act → World → Prop} (hgd : o.guard = none) (hd : o.dst = none) (x y : Operand) (ho : o.op = .store 31 x y)
    (g b j b' j' : Nat) (hx : a.eval x = .pointer (some ⟨g, 0, none⟩)) (hy : a.eval y = .agg (okc b' j')) (hg : Qb w g b j)
    (h : ∀ w', Qb w' g b' j' → w.grownBy w' (some g) → wpList Try.prog ops Q rest a w') : wpList Try.prog ops Q (o :: rest) a w := by
  have h' : ∀ w', Qb w' g b' j' → w.grownBy w' (some g) → wpList Try.prog ops Q rest (a.put o.dst undef) w' := by rw [hd]; exact h
  refine wpList_store_row hgd 31 x y ho g (okc b' j') hx hy 31 (okc b j) hg atinfo rfl (okc_one b' j') (h' _ ?_ ?_)
  · exact setRow_heap w g _ _ 31 (0, 0) hg
  · exact ⟨rfl, rfl, rfl, by simp [World.setRow], fun k _ hk => setRow_other w g k _ (fun e => hk (by simp [e]))⟩
/-! ### Rows of sequences -/
def Sqs (W : World) (v : Value) (l : List Nat) : Prop := Sl W 1 (fun cs a => a < 18446744073709551616 ∧ cs = [.int .u64 (a : Nat)]) v l
set_option maxRecDepth 100000 in
theorem Sqs.ext {W W' : World} {v : Value} {l : List Nat} (h : Sqs W v l) (he : Ext W W') : Sqs W' v l := Sl.mono h (fun _ _ hc => he.cell hc) fun _ _ h => h
set_option maxRecDepth 100000 in
theorem Sqs.len {W : World} {v : Value} {l : List Nat} (h : Sqs W v l) : ∃ A c, v = .slice A l.length c ∧ l.length ≤ c ∧ c ≤ maxLen := by
  obtain ⟨A, c, e, h1, h2, _⟩ := h
  exact ⟨A, c, e, h1, h2⟩
set_option maxRecDepth 100000 in
theorem Sqs.at {W : World} {A : Option Addr} {n c : Nat} {l : List Nat} (h : Sqs W (.slice A n c) l) (i : Nat) (hi : i < l.length) : ∃ b o, A = some ⟨b, o, none⟩ ∧ W.cell? ⟨b, o + i, none⟩ = some (.int .u64 (l.getD i 0 : Nat)) ∧ l.getD i 0 < 18446744073709551616 := by
  obtain ⟨A', c', e, _, _, h3⟩ := h
  injection e with e1 e2 e3
  subst e1
  obtain ⟨b, o, rfl, hc⟩ := h3 (by omega)
  obtain ⟨cs, _, ⟨k1, rfl⟩, k3⟩ := hc i _ (List.getElem?_eq_getElem hi)
  have e : l.getD i 0 = l[i] := by simp [List.getD, List.getElem?_eq_getElem hi]
  rw [e]
  exact ⟨b, o, rfl, by have := k3 0 _ rfl; rwa [Nat.mul_one, Nat.add_zero] at this, k1⟩
set_option maxRecDepth 100000 in
theorem sqs_came {H : Type} {enc : TypeId × Value → H} {W : World} {v : Value} {d : DataW H} {p : List MemPlace}
    (h : DataW.Trod enc Try.prog W 0 (fun _ => true) true 51 v d p) (hv : v.cells.toList = [v]) : ∃ l : List Nat, Sqs W v l := by
  obtain ⟨fuel, hf⟩ := h
  obtain ⟨s, l, hc, hl⟩ := slice_came (α := Nat) (s := 1) Try.underlying51 (by kernel_rfl) (by decide) (fun cs a => a < 18446744073709551616 ∧ cs = [.int .u64 (a : Nat)]) (fun _ _ _ h => u64_trodN Try.underlying26 h) hf
  rw [hv] at hc
  injection hc with hc _
  rw [hc]
  exact ⟨l, hl⟩
/-! ### Rows of rows of nonces -/
def NssR (W : World) (cs : List Value) (l : List Nn) : Prop := ∃ v, cs = [v] ∧ Nns W v l
def Nss (W : World) (v : Value) (L : List (List Nn)) : Prop := Sl W 1 (NssR W) v L
set_option maxRecDepth 100000 in
theorem Nss.ext {W W' : World} {v : Value} {L : List (List Nn)} (h : Nss W v L) (he : Ext W W') : Nss W' v L := Sl.mono h (fun _ _ hc => he.cell hc) fun _ _ h => by
  obtain ⟨v, e, hv⟩ := h
  exact ⟨v, e, hv.ext he⟩
set_option maxRecDepth 100000 in
theorem Nss.len {W : World} {v : Value} {L : List (List Nn)} (h : Nss W v L) : ∃ A c, v = .slice A L.length c ∧ L.length ≤ c ∧ c ≤ maxLen := by
  obtain ⟨A, c, e, h1, h2, _⟩ := h
  exact ⟨A, c, e, h1, h2⟩
set_option maxRecDepth 100000 in
theorem Nss.at {W : World} {A : Option Addr} {n c : Nat} {L : List (List Nn)} (h : Nss W (.slice A n c) L) (i : Nat) (hi : i < L.length) : ∃ b o v, A = some ⟨b, o, none⟩ ∧ W.cell? ⟨b, o + i, none⟩ = some v ∧ Nns W v (L.getD i []) := by
  obtain ⟨A', c', e, _, _, h3⟩ := h
  injection e with e1 e2 e3
  subst e1
  obtain ⟨b, o, rfl, hc⟩ := h3 (by omega)
  obtain ⟨cs, _, ⟨v, rfl, hv⟩, k3⟩ := hc i _ (List.getElem?_eq_getElem hi)
  have e : L.getD i [] = L[i] := by simp [List.getD, List.getElem?_eq_getElem hi]
  rw [e]
  exact ⟨b, o, v, rfl, by have := k3 0 _ rfl; rwa [Nat.mul_one, Nat.add_zero] at this, hv⟩
set_option maxRecDepth 100000 in
theorem nss_came {H : Type} {enc : TypeId × Value → H} {W : World} {v : Value} {d : DataW H} {p : List MemPlace}
    (h : DataW.Trod enc Try.prog W 0 (fun _ => true) true 40 v d p) (hv : v.cells.toList = [v]) : ∃ L : List (List Nn), Nss W v L := by
  obtain ⟨fuel, hf⟩ := h
  obtain ⟨s, l, hc, hl⟩ := slice_came (α := List Nn) (s := 1) Try.underlying40 (by kernel_rfl) (by decide) (NssR W) (fun _ _ _ h => by
    obtain ⟨u, m, e, hm⟩ := nns_trod h
    exact ⟨m, u, e, hm⟩) hf
  rw [hv] at hc
  injection hc with hc _
  rw [hc]
  exact ⟨l, hl⟩
end Go.Proofs.Ytepggbhibpjkpaa
