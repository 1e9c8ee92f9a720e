/- Package state: accounts in memory; empty. Package state: own, copied. -/
import Derived.Test.YtiojfpdjnblkhaaQPka
import Derived.Test.YtiojfpdjnblkhaaQInw
import Derived.Test.YtiojfpdjnblkhaaQByt
import Derived.IntWalk
import Derived.Outline
import Derived.OwnWalk
import Derived.Laws.CopyRow
namespace Go.Proofs.Ytiojfpdjnblkhaa
open Go.ChangeShapes Go.WideShapes Go.ChangeAt Go.RowKit Go.Shelf

def pkc (p : Nat × Nat) : Array Value := #[lv (lb p.1 0), lv (lb p.1 1), lv (lb p.1 2), lv (lb p.1 3), lv (lb p.2 0), lv (lb p.2 1), lv (lb p.2 2), lv (lb p.2 3)]
theorem pkc_one (p : Nat × Nat) : (pkc p).all (·.oneCell') = true := by simp [pkc, lv, Value.oneCell']
def PkR (cs : List Value) (p : Nat × Nat) : Prop := p.1 < M256 ∧ p.2 < M256 ∧ cs = (pkc p).toList
def Pks (W : World) (v : Value) (l : List (Nat × Nat)) : Prop := Sl W 8 PkR v l
theorem Pks.ext {W W' : World} {v : Value} {l : List (Nat × Nat)} (h : Pks W v l) (he : Ext W W') : Pks W' v l := Sl.mono h (fun _ _ hc => he.cell hc) fun _ _ h => h
theorem Pks.len {W : World} {v : Value} {l : List (Nat × Nat)} (h : Pks W v l) : ∃ A c, v = .slice A l.length c ∧ l.length ≤ c ∧ c ≤ maxLen := by
 obtain ⟨A, c, e, h1, h2, _⟩ := h
 exact ⟨A, c, e, h1, h2⟩
theorem Pks.at {W : World} {A : Option Addr} {n c : Nat} {l : List (Nat × Nat)} (h : Pks W (.slice A n c) l) (i : Nat) (hi : i < l.length) : ∃ b o, A = some ⟨b, o, none⟩ ∧ W.rangeAt b (o + i * 8) (pkc (l.getD i (0, 0))).toList ∧ (l.getD i (0, 0)).1 < M256 ∧ (l.getD i (0, 0)).2 < M256 := by
 obtain ⟨A', c', e, _, _, h3⟩ := h
 injection e with e1 e2 e3
 subst e1
 obtain ⟨b, o, rfl, hc⟩ := h3 (by omega)
 obtain ⟨cs, _, ⟨k0, k1, rfl⟩, k3⟩ := hc i _ (List.getElem?_eq_getElem hi)
 have e : l.getD i (0, 0) = l[i] := by simp [List.getD, List.getElem?_eq_getElem hi]
 rw [e]
 exact ⟨b, o, rfl, k3, k0, k1⟩
set_option maxRecDepth 100000 in
theorem pkinfo : (Try.prog.info? 33).map (·.size) = some 8 := by kernel_rfl
set_option maxRecDepth 100000 in
theorem pkinfo3 : (Try.prog.info? 33).map (fun i => (i.zero, i.size, i.bytes)) = some (some (.agg (pkc (0, 0))), 8, 64) := by kernel_rfl
theorem pk_key {W : World} {b o : Nat} {p : Nat × Nat} (h : W.rangeAt b o (pkc p).toList) : W.rangeAt b o (wc p.1).toList := fun j v hv => by
 refine h j v ?_
 have hj : j < 4 := by have := (List.getElem?_eq_some_iff.1 hv).1; simpa [wc] using this
 match j, hj with
 | 0, _ => exact hv
 | 1, _ => exact hv
 | 2, _ => exact hv
 | 3, _ => exact hv
theorem pk_val {W : World} {b o : Nat} {p : Nat × Nat} (h : W.rangeAt b o (pkc p).toList) : W.rangeAt b (o + 4) (wc p.2).toList := fun j v hv => by
 have hj : j < 4 := by have := (List.getElem?_eq_some_iff.1 hv).1; simpa [wc] using this
 have := h (4 + j) v (by
  match j, hj with
  | 0, _ => exact hv
  | 1, _ => exact hv
  | 2, _ => exact hv
  | 3, _ => exact hv)
 rwa [show o + 4 + j = o + (4 + j) by omega]
set_option maxRecDepth 100000 in
theorem wpList_load_pair {ops : Array Oper} {rest : List Oper} {o : Oper} {a : Act} {w : World} {Q : Exit → Act → World → Prop} (hgd : Region.wanted o (yielded ops a.tmps) = true) (x : Operand) (ho : o.op = .load 33 x)
  (g k : Nat) (p : Nat × Nat) (hx : a.eval x = .pointer (some ⟨g, k, none⟩)) (hg : w.rangeAt g k (pkc p).toList) (h : wpList Try.prog ops Q rest (a.put o.dst (.agg (pkc p))) w) : wpList Try.prog ops Q (o :: rest) a w := by
 refine wpList_step fun K hK => ?_
 rw [if_pos hgd]
 refine wp_load_mid 33 x ho g k hx (pkc p).toList _ hg Try.underlying33 rfl pkinfo ?_
 exact hK _ _ h

structure Ac where
 addr : Nat
 bal : Nat
 nonce : Nat
 code : List UInt8
 store : List (Nat × Nat)
def acc (a : Ac) (u v : Value) : Array Value := #[.int .u64 (a.addr : Nat), lv (lb a.bal 0), lv (lb a.bal 1), lv (lb a.bal 2), lv (lb a.bal 3), .int .u64 (a.nonce : Nat), u, v]
def Ac.ok (a : Ac) : Prop := a.addr < 18446744073709551616 ∧ a.bal < M256 ∧ a.nonce < 18446744073709551616
def AcR (W : World) (cs : List Value) (a : Ac) : Prop := a.ok ∧ ∃ u v, cs = (acc a u v).toList ∧ Bs W u a.code ∧ Pks W v a.store
def Acs (W : World) (v : Value) (l : List Ac) : Prop := Sl W 8 (AcR W) v l
theorem AcR.ext {W W' : World} {cs : List Value} {a : Ac} (h : AcR W cs a) (he : Ext W W') : AcR W' cs a := by
 obtain ⟨h0, u, v, e, h1, h2⟩ := h
 exact ⟨h0, u, v, e, h1.ext he, h2.ext he⟩
theorem Acs.ext {W W' : World} {v : Value} {l : List Ac} (h : Acs W v l) (he : Ext W W') : Acs W' v l :=
 Sl.mono h (fun _ _ hc => he.cell hc) fun _ _ h => h.ext he
theorem Acs.len {W : World} {v : Value} {l : List Ac} (h : Acs W v l) : ∃ A c, v = .slice A l.length c ∧ l.length ≤ c ∧ c ≤ maxLen := by
 obtain ⟨A, c, e, h1, h2, _⟩ := h
 exact ⟨A, c, e, h1, h2⟩
def acz : Ac := ⟨0, 0, 0, [], []⟩
theorem Acs.at {W : World} {A : Option Addr} {n c : Nat} {l : List Ac} (h : Acs W (.slice A n c) l) (i : Nat) (hi : i < l.length) : ∃ b o u v, A = some ⟨b, o, none⟩ ∧ W.rangeAt b (o + i * 8) (acc (l.getD i acz) u v).toList ∧ Bs W u (l.getD i acz).code ∧ Pks W v (l.getD i acz).store ∧ (l.getD i acz).ok := by
 obtain ⟨A', c', e, _, _, h3⟩ := h
 injection e with e1 e2 e3
 subst e1
 obtain ⟨b, o, rfl, hc⟩ := h3 (by omega)
 obtain ⟨cs, _, ⟨k0, u, v, rfl, k1, k2⟩, k3⟩ := hc i _ (List.getElem?_eq_getElem hi)
 have e : l.getD i acz = l[i] := by simp [List.getD, List.getElem?_eq_getElem hi]
 rw [e]
 exact ⟨b, o, u, v, rfl, k3, k1, k2, k0⟩
set_option maxRecDepth 100000 in
theorem acinfo : (Try.prog.info? 37).map (·.size) = some 8 := by kernel_rfl
def az0 : Array Value := #[.int .u64 0, .int .u64 0, .int .u64 0, .int .u64 0, .int .u64 0, .int .u64 0, .slice none 0 0, .slice none 0 0]
set_option maxRecDepth 100000 in
theorem acinfo3 : (Try.prog.info? 37).map (fun i => (i.zero, i.size, i.bytes)) = some (some (.agg az0), 8, 96) := by kernel_rfl
theorem acc_one (a : Ac) (u v : Value) (hu : u.oneCell' = true) (hv : v.oneCell' = true) : (acc a u v).all (·.oneCell') = true := by simpa [acc, lv, Value.oneCell'] using ⟨hu, hv⟩
theorem pks_one {W : World} {u : Value} {l : List (Nat × Nat)} (h : Pks W u l) : u.oneCell' = true := by
 obtain ⟨A, c, rfl, _⟩ := h
 rfl
def Ab (W : World) (g : Nat) (a : Ac) (u v : Value) : Prop := Cs W g 37 (acc a u v)
theorem Ab.ext {W W' : World} {g : Nat} {a : Ac} {u v : Value} (h : Ab W g a u v) (he : Ext W W') : Ab W' g a u v := Cs.ext h he
theorem Ab.range {W : World} {g : Nat} {a : Ac} {u v : Value} (h : Ab W g a u v) : W.rangeAt g 0 (acc a u v).toList := fun j x hx => by
 rw [Nat.zero_add]
 exact Cs.cell h j x (by rwa [Array.getElem?_toList] at hx)
theorem ac_addr {W : World} {b o : Nat} {a : Ac} {u v : Value} (h : W.rangeAt b o (acc a u v).toList) : W.cell? ⟨b, o, none⟩ = some (.int .u64 (a.addr : Nat)) := h 0 _ rfl
theorem ac_bal {W : World} {b o : Nat} {a : Ac} {u v : Value} (h : W.rangeAt b o (acc a u v).toList) : W.rangeAt b (o + 1) (wc a.bal).toList := fun j x hx => by
 have hj : j < 4 := by have := (List.getElem?_eq_some_iff.1 hx).1; simpa [wc] using this
 have := h (1 + j) x (by
  match j, hj with
  | 0, _ => exact hx
  | 1, _ => exact hx
  | 2, _ => exact hx
  | 3, _ => exact hx)
 rwa [show o + 1 + j = o + (1 + j) by omega]
theorem Ab.addr {W : World} {g : Nat} {a : Ac} {u v : Value} (h : Ab W g a u v) : W.cell? ⟨g, 0, none⟩ = some (.int .u64 (a.addr : Nat)) := Cs.cell h 0 _ rfl
theorem Ab.nonce {W : World} {g : Nat} {a : Ac} {u v : Value} (h : Ab W g a u v) : W.cell? ⟨g, 5, none⟩ = some (.int .u64 (a.nonce : Nat)) := Cs.cell h 5 _ rfl
theorem Ab.code {W : World} {g : Nat} {a : Ac} {u v : Value} (h : Ab W g a u v) : W.cell? ⟨g, 6, none⟩ = some u := Cs.cell h 6 _ rfl
theorem Ab.store {W : World} {g : Nat} {a : Ac} {u v : Value} (h : Ab W g a u v) : W.cell? ⟨g, 7, none⟩ = some v := Cs.cell h 7 _ rfl
theorem Ab.bal {W : World} {g : Nat} {a : Ac} {u v : Value} (h : Ab W g a u v) : W.rangeAt g 1 (wc a.bal).toList := by
 have := ac_bal h.range
 rwa [Nat.zero_add] at this
set_option maxRecDepth 100000 in
theorem wpList_load_ac {ops : Array Oper} {rest : List Oper} {o : Oper} {a : Act} {w : World} {Q : Exit → Act → World → Prop} (hgd : Region.wanted o (yielded ops a.tmps) = true) (x : Operand) (ho : o.op = .load 37 x)
  (g k : Nat) (p : Ac) (u v : Value) (hx : a.eval x = .pointer (some ⟨g, k, none⟩)) (hg : w.rangeAt g k (acc p u v).toList) (h : wpList Try.prog ops Q rest (a.put o.dst (.agg (acc p u v))) w) : wpList Try.prog ops Q (o :: rest) a w := by
 refine wpList_step fun K hK => ?_
 rw [if_pos hgd]
 refine wp_load_mid 37 x ho g k hx (acc p u v).toList _ hg Try.underlying37 rfl acinfo ?_
 exact hK _ _ h
set_option maxRecDepth 100000 in
theorem wpList_store_ac {ops : Array Oper} {rest : List Oper} {o : Oper} {a : Act} {w : World} {Q : Exit → Act → World → Prop} (hgd : o.guard = none) (hd : o.dst = none) (x y : Operand) (ho : o.op = .store 37 x y)
  (g : Nat) (old : Array Value) (p : Ac) (u v : Value) (hu : u.oneCell' = true) (hv : v.oneCell' = true) (hx : a.eval x = .pointer (some ⟨g, 0, none⟩)) (hy : a.eval y = .agg (acc p u v)) (hg : Cs w g 37 old) (hold : old.size = 8)
  (h : ∀ w', Ab w' g p u v → w.grownBy w' (some g) → wpList Try.prog ops Q rest a w') : wpList Try.prog ops Q (o :: rest) a w := by
 have h' : ∀ w', Ab w' g p u v → w.grownBy w' (some g) → wpList Try.prog ops Q rest (a.put o.dst undef) w' := by rw [hd]; exact h
 refine wpList_store_row hgd 37 x y ho g (acc p u v) hx hy 37 old hg acinfo hold (acc_one p u v hu hv) (h' _ ?_ ?_)
 ·exact setRow_heap w g _ _ 37 (0, 0) hg
 ·exact ⟨rfl, rfl, rfl, by simp [World.setRow], fun k _ hk => setRow_other w g k _ (fun e => hk (by simp [e]))⟩

def Ac.emptyB (a : Ac) : Bool := decide (a.bal = 0) && (decide (a.nonce = 0) && (decide (a.code.length = 0) && decide (a.store.length = 0)))
set_option maxRecDepth 100000 in
set_option maxHeartbeats 1000000 in
theorem empty_any (a : Ac) (u v : Value) (w : World) (hok : a.ok) (hu : Bs w u a.code) (hv : Pks w v a.store) : Calls Try.prog 116 #[.agg (acc a u v)] w fun e w' => e = .returned (.bool a.emptyB) ∧ Ext w w' := by
 have HK : Hid (Ab (w.alloc (.cells (acc a u v) 37)) w.heap.size a u v) := Lib.hid (Cs.new _ _ _ _ rfl)
 have HE := Lib.hid ((Ext.refl w).alloc (.cells (acc a u v) 37))
 have hc5 := HK.out.nonce
 have hc6 := HK.out.code
 have hc7 := HK.out.store
 have HM : Hid (a.emptyB = (decide (a.bal = 0) && (decide (a.nonce = 0) && (decide (a.code.length = 0) && decide (a.store.length = 0))))) := Lib.hid rfl
 obtain ⟨A, c, rfl, h1, h2, _⟩ := hu
 obtain ⟨A2, c2, rfl, h3, h4⟩ := hv.len
 unfold maxLen at h2 h4
 obtain ⟨o1, o2, o3⟩ := hok
 have HW := Lib.hid o2
 have HWI := Lib.hid HK.out.bal
 obtain ⟨cs, hcs⟩ : ∃ cs, acc a (.slice A a.code.length c) (.slice A2 a.store.length c2) = cs := ⟨_, rfl⟩
 have HCS := Lib.hid hcs
 rw [hcs] at hc5 hc6 hc7 HE HWI HK
 rw [hcs]
 clear hcs o2
 obtain ⟨addr, bal, nonce, code, store⟩ := a
 dsimp only at *
 have hbz : (bal == 0) = decide (bal = 0) := by by_cases h : bal = 0 <;> simp [h]
 go_enter Try.func116, Try.ntmps116
 by_cases e1 : bal = 0
 ·have hb0 : (bal == 0) = true := by simp [e1]
  have HB := Lib.hid e1
  clear e1 hbz
  by_cases e2 : nonce = 0
  ·have hn1 : ((nonce : Int) == 0) = true := by simp [e2]
   have hn2 : (nonce == 0) = true := by simp [e2]
   have HN := Lib.hid e2
   clear e2
   by_cases e3 : code.length = 0
   ·have hl1 : ((code.length : Int) == 0) = true := by simp [e3]
    have hl2 : (code.length == 0) = true := by simp [e3]
    have HL := Lib.hid e3
    clear e3
    by_cases e4 : store.length = 0
    ·have hs1 : ((store.length : Int) == 0) = true := by simp [e4]
     have hs2 : (store.length == 0) = true := by simp [e4]
     have HS := Lib.hid e4
     clear e4
     go_wp2_with (first
      | ((with_reducible refine wpList_load_wordIn ?_ (.tmp 3) ?_ w.heap.size 1 bal ?_ ?_ ?_); (exact rfl); (exact rfl); (exact rfl); (exact HWI.out))
      | ((with_reducible refine wpList_eql_word ?_ (.tmp 4) (.tmp 5) ?_ bal 0 HW.out (by decide) ?_ ?_ ?_); (exact rfl); (exact rfl); (exact rfl); (exact rfl); rw [hb0]))
     go_ret
     exact ⟨by rw [HM.out]; simp [HB.out, HN.out, HL.out, HS.out], HE.out⟩
    ·have hs1 : ((store.length : Int) == 0) = false := by simp [e4]
     have hs2 : (store.length == 0) = false := by simp [e4]
     have HS := Lib.hid e4
     clear e4
     go_wp2_with (first
      | ((with_reducible refine wpList_load_wordIn ?_ (.tmp 3) ?_ w.heap.size 1 bal ?_ ?_ ?_); (exact rfl); (exact rfl); (exact rfl); (exact HWI.out))
      | ((with_reducible refine wpList_eql_word ?_ (.tmp 4) (.tmp 5) ?_ bal 0 HW.out (by decide) ?_ ?_ ?_); (exact rfl); (exact rfl); (exact rfl); (exact rfl); rw [hb0]))
     go_ret
     exact ⟨by rw [HM.out]; simp [HS.out], HE.out⟩
   ·have hl1 : ((code.length : Int) == 0) = false := by simp [e3]
    have hl2 : (code.length == 0) = false := by simp [e3]
    have HL := Lib.hid e3
    clear e3
    go_wp2_with (first
     | ((with_reducible refine wpList_load_wordIn ?_ (.tmp 3) ?_ w.heap.size 1 bal ?_ ?_ ?_); (exact rfl); (exact rfl); (exact rfl); (exact HWI.out))
     | ((with_reducible refine wpList_eql_word ?_ (.tmp 4) (.tmp 5) ?_ bal 0 HW.out (by decide) ?_ ?_ ?_); (exact rfl); (exact rfl); (exact rfl); (exact rfl); rw [hb0]))
    go_ret
    exact ⟨by rw [HM.out]; simp [HL.out], HE.out⟩
  ·have hn1 : ((nonce : Int) == 0) = false := by simp; omega
   have hn2 : (nonce == 0) = false := by simpa using e2
   have HN := Lib.hid e2
   clear e2
   go_wp2_with (first
    | ((with_reducible refine wpList_load_wordIn ?_ (.tmp 3) ?_ w.heap.size 1 bal ?_ ?_ ?_); (exact rfl); (exact rfl); (exact rfl); (exact HWI.out))
    | ((with_reducible refine wpList_eql_word ?_ (.tmp 4) (.tmp 5) ?_ bal 0 HW.out (by decide) ?_ ?_ ?_); (exact rfl); (exact rfl); (exact rfl); (exact rfl); rw [hb0]))
   go_ret
   exact ⟨by rw [HM.out]; simp [HN.out], HE.out⟩
 ·have hb0 : (bal == 0) = false := by simpa using e1
  have HB := Lib.hid e1
  clear e1 hbz
  go_wp2_with (first
   | ((with_reducible refine wpList_load_wordIn ?_ (.tmp 3) ?_ w.heap.size 1 bal ?_ ?_ ?_); (exact rfl); (exact rfl); (exact rfl); (exact HWI.out))
   | ((with_reducible refine wpList_eql_word ?_ (.tmp 4) (.tmp 5) ?_ bal 0 HW.out (by decide) ?_ ?_ ?_); (exact rfl); (exact rfl); (exact rfl); (exact rfl); rw [hb0]))
  go_ret
  exact ⟨by rw [HM.out]; simp [HB.out], HE.out⟩
end Go.Proofs.Ytiojfpdjnblkhaa
namespace Go.Proofs.Ytiojfpdjnblkhaa
open Go.ChangeShapes Go.WideShapes Go.ChangeAt Go.RowKit Go.Shelf

theorem flat_inv {s : Nat} (hs : 0 < s) : ∀ (css : List (List Value)), (∀ cs ∈ css, cs.length = s) → ∀ (i : Nat) (u : Value), css.flatten[i]? = some u → ∃ cs, css[i / s]? = some cs ∧ cs[i % s]? = some u
 | [], _, i, u, h => by simp at h
 | c :: css, hc, i, u, h => by
  have hl := hc c List.mem_cons_self
  rw [List.flatten_cons] at h
  by_cases hi : i < s
  ·rw [List.getElem?_append_left (by omega)] at h
   rw [Nat.div_eq_of_lt hi, Nat.mod_eq_of_lt hi]
   exact ⟨c, rfl, h⟩
  ·rw [List.getElem?_append_right (by omega), hl] at h
   obtain ⟨cs, h1, h2⟩ := flat_inv hs css (fun x hx => hc x (List.mem_cons_of_mem _ hx)) _ _ h
   have e1 : i / s = (i - s) / s + 1 := by
    conv => lhs; rw [show i = (i - s) + s by omega]
    exact Nat.add_div_right _ hs
   have e2 : i % s = (i - s) % s := by
    conv => lhs; rw [show i = (i - s) + s by omega]
    exact Nat.add_mod_right _ _
   rw [e1, e2]
   exact ⟨cs, h1, h2⟩
theorem Sl.rs {α : Type} {W : World} {s : Nat} (hs : 0 < s) {Rd : List Value → α → Prop} (f : α → List Value) (hf : ∀ x, (f x).length = s) (hR : ∀ cs x, Rd cs x → cs = f x) {v : Value} {l : List α} (h : Sl W s Rd v l) : Rs W s v l.length (l.map f).flatten := by
 obtain ⟨A, c, e, h1, h2, h3⟩ := h
 have hlen : (l.map f).flatten.length = l.length * s := by
  rw [flat_len (l.map f) (by intro cs hc; obtain ⟨x, _, rfl⟩ := List.mem_map.1 hc; exact hf x), List.length_map]
 refine ⟨hlen, A, c, e, h1, h2, fun hp => ?_⟩
 obtain ⟨b, o, ea, hc⟩ := h3 hp
 refine ⟨b, o, ea, fun i u hu => ?_⟩
 obtain ⟨cs, k1, k2⟩ := flat_inv hs (l.map f) (by intro cs hc; obtain ⟨x, _, rfl⟩ := List.mem_map.1 hc; exact hf x) i u hu
 rw [List.getElem?_map] at k1
 obtain ⟨x, k3, rfl⟩ := Option.map_eq_some_iff.1 k1
 obtain ⟨cs', _, k5, k6⟩ := hc _ _ k3
 obtain rfl := hR _ _ k5
 have := k6 _ _ k2
 rwa [show o + i / s * s + i % s = o + i by have := Nat.div_add_mod' i s; omega] at this
theorem run_copy_whole {P : Program} (w : World) (dT sT ty elem : TypeId) (g n dCap : Nat) (ad : Addr) (sCap s : Nat) (cur : Array Value) (t : TypeId) (cs : List Value)
  (hu : P.underlying dT = some (.slice elem)) (hs : (P.info? elem).map (·.size) = some s) (hg : w.heap[g]? = some (.cells cur t (0, 0))) (hn : cs.length = n * s) (hcur : cur.size = n * s)
  (hsrc : ∀ j v, cs[j]? = some v → w.cell? (ad.add j) = some v) (h1 : ∀ v ∈ cs, v.oneCell' = true) :
  (Builtin.copy_ #[dT, sT] ty #[.slice (some ⟨g, 0, none⟩) n dCap, .slice (some ad) n sCap]).run P w = .ok (goInt n) (w.setRow g cs.toArray) := by
 have hl := run_loadCells_list (P := P) w ad cs hsrc
 have hst := run_storeCells_at P g 0 t cs 0 cur w hg (by omega) h1
 have e0 : cur.toList.drop cs.length = [] := List.drop_of_length_le (by rw [Array.length_toList]; omega)
 simp only [Nat.zero_add, List.take_zero, List.nil_append, e0, List.append_nil] at hst
 have hmin : Nat.min n n = n := Nat.min_self n
 cases hq : P.info? elem with
 | none => simp [hq] at hs
 | some i =>
  have hi : i.size = s := by simpa [hq] using hs
  simp [Builtin.copy_, run_underlying hu, Builtin.lenOf, Builtin.firstCells, sizeOf, typeInfo, hq, hi, hmin, ← hn, hl, hst]
theorem wpList_copy_whole {P : Program} {w : World} {ops : Array Oper} {rest : List Oper} {o : Oper} {a : Act} {Q : Exit → Act → World → Prop} (hgd : o.guard = none) (d s : Operand) (dT sT : TypeId)
  (ho : o.op = .call { callee := .builtin .copy, args := #[d, s], argTypes := #[dT, sT] }) (e : TypeId) (hu : P.underlying dT = some (.slice e)) (sz : Nat) (hsz : (P.info? e).map (·.size) = some sz)
  (base g n cap : Nat) (xs cs : List Value) (hd : a.eval d = .slice (some ⟨g, 0, none⟩) n cap) (hn : 0 < n) (hr : w.ownsRow base e sz (.slice (some ⟨g, 0, none⟩) n cap) n xs) (hcap : n = cap) (sv : Value) (hs : a.eval s = sv) (hx : Rs w sz sv n cs) (h1 : ∀ v ∈ cs, v.oneCell' = true)
  (hK : ∀ w', w'.ownsRow base e sz (.slice (some ⟨g, 0, none⟩) n cap) n cs → w.grownBy w' (some g) → wpList P ops Q rest (a.put o.dst (goInt n)) w') :
  wpList P ops Q (o :: rest) a w := by
 subst hcap
 obtain ⟨hcl, A, c, rfl, q1, q2, q3⟩ := hx
 obtain ⟨b, off, rfl, hc⟩ := q3 hn
 obtain ⟨r1, r2⟩ := hr
 rcases r2 with ⟨r2, _⟩ | ⟨g', cap', cur, r2, hb, hg, hnc, hcm, hcs, htake⟩
 ·cases r2
 ·simp only [Value.slice.injEq, Option.some.injEq, Addr.mk.injEq, and_true, true_and] at r2
  obtain ⟨rfl, rfl⟩ := r2
  refine wpList_plain hgd fun K hK' => ?_
  have hrun := run_copy_whole (P := P) w dT sT o.type e g n n ⟨b, off, none⟩ c sz cur e cs hu hsz hg hcl hcs (fun j v hv => by rw [add_plain]; exact hc j v hv) h1
  unfold Oper.wp
  simp [execOp, ho, resolve, invoke, builtin, hd, hs, hrun, Result.andThen]
  refine hK' _ _ (hK _ ⟨hcl, .inr ⟨g, n, cs.toArray, rfl, hb, setRow_heap w g _ _ e (0, 0) hg, hnc, hcm, by simpa using hcl, by simp [← hcl]⟩⟩ ⟨rfl, rfl, rfl, by simp [World.setRow], fun k _ hk => setRow_other w g k _ (fun e => hk (by simp [e]))⟩)

theorem lay_all (l : List UInt8) : lay (List.replicate l.length 0) 0 l = l := by
 apply ext_getD (by rw [lay_length, List.length_replicate])
 intro i hi
 rw [lay_length, List.length_replicate] at hi
 rw [lay_getD _ _ _ _ (by rw [List.length_replicate]; exact hi), if_pos (by omega), Nat.sub_zero]
set_option maxRecDepth 100000 in
set_option maxHeartbeats 1000000 in
theorem ownB_any (v : Value) (l : List UInt8) (w : World) (hb : Bs w v l) (hl : l.length ≤ 1000000000) : Calls Try.prog 147 #[v] w (RetB w l) := by
 have HB := Lib.hid hb
 obtain ⟨A, c, rfl, k1, k2, k3⟩ := hb
 unfold maxLen at k2
 clear k3
 by_cases h0 : l.length = 0
 ·have hz : ((l.length : Int) == 0) = true := by simp [h0]
  have hz2 : (l.length == 0) = true := by simp [h0]
  have HL := Lib.hid (List.eq_nil_of_length_eq_zero h0)
  clear h0
  go_enter Try.func147, Try.ntmps147
  go_wp2_with fail
  go_ret
  exact ⟨_, rfl, by rw [HL.out]; exact World.ownsRow_nil _ _ _ _, Ext.refl _⟩
 ·have hz : ((l.length : Int) == 0) = false := by simp [h0]
  have hz2 : (l.length == 0) = false := by simp [h0]
  have HP := Lib.hid (show 0 < l.length by omega)
  have HX := Lib.hid (lay_all l)
  clear h0
  obtain ⟨n, hn⟩ : ∃ n, l.length = n := ⟨_, rfl⟩
  have HN := Lib.hid hn
  rw [hn] at hz hz2 HB k1
  rw [hn]
  have hnb : n ≤ 140737488355328 := by omega
  clear hn
  go_enter Try.func147, Try.ntmps147
  go_wp2_with (first
   | (at_make; refine wpList_make_bytes rfl _ _ _ rfl 5 Try.underlying34 u8info .i64 .i64 _ _ n rfl rfl rfl rfl hnb ?_; intro w1 hr1 he1; have HR := Lib.hid hr1; have HE := Lib.hid he1; clear hr1 he1)
   | (with_reducible refine wpList_copy_bytes rfl (.tmp 10) (.tmp 11) _ _ rfl 5 Try.underlying34 u8size w.heap.size n n (List.replicate n 0) rfl (by simp) HR.out (.slice A n c) l rfl (HB.out.ext HE.out) ?_; intro w2 hr2 hg2; have HR2 := Lib.hid hr2; have HG2 := Lib.hid hg2; clear hr2 hg2))
  go_ret
  refine ⟨_, rfl, ?_, HE.out.grown HG2.out (Nat.le_refl _)⟩
  have := HR2.out
  rw [← HN.out, HX.out] at this
  have h2 := Row.own (base := w.heap.size) this (Nat.le_refl _) (by unfold maxLen; rw [HN.out]; omega)
  rw [HN.out] at h2
  exact h2
def pkf (l : List (Nat × Nat)) : List Value := (l.map fun p => (pkc p).toList).flatten
theorem Pks.rs {W : World} {v : Value} {l : List (Nat × Nat)} (h : Pks W v l) : Rs W 8 v l.length (pkf l) := Sl.rs (by decide) (fun p => (pkc p).toList) (fun _ => rfl) (fun _ _ h => h.2.2) h
theorem pkf_one (l : List (Nat × Nat)) : ∀ u ∈ pkf l, u.oneCell' = true := by
 intro u hu
 obtain ⟨cs, hc, hu⟩ := List.mem_flatten.1 hu
 obtain ⟨p, _, rfl⟩ := List.mem_map.1 hc
 exact Array.all_eq_true_iff_forall_mem.1 (pkc_one p) u (by simpa using hu)
def OwnK (W : World) (base : Nat) (v : Value) (l : List (Nat × Nat)) : Prop := W.ownsRow base 33 8 v l.length (pkf l) ∧ ∀ p ∈ l, p.1 < M256 ∧ p.2 < M256
theorem OwnK.ext {W W' : World} {base : Nat} {v : Value} {l : List (Nat × Nat)} (h : OwnK W base v l) (he : Ext W W') : OwnK W' base v l := ⟨own_ext h.1 he, h.2⟩
theorem OwnK.mono {W : World} {base base' : Nat} {v : Value} {l : List (Nat × Nat)} (h : OwnK W base v l) (hb : base' ≤ base) : OwnK W base' v l := ⟨own_mono h.1 hb, h.2⟩
theorem OwnK.rowO {W : World} {base : Nat} {v : Value} {l : List (Nat × Nat)} (h : OwnK W base v l) : RowO 33 8 (fun _ => PkR) No base W v l :=
 ⟨l.map fun p => (pkc p).toList, by simp, by intro cs hc; obtain ⟨p, _, rfl⟩ := List.mem_map.1 hc; rfl, h.1, fun i cs x hc hx => Far.true _ _ _ fun W => by
  rw [List.getElem?_map, hx] at hc
  simp at hc
  have := h.2 x (List.mem_of_getElem? hx)
  exact ⟨this.1, this.2, hc.symm⟩⟩
theorem OwnK.pks {W : World} {base : Nat} {v : Value} {l : List (Nat × Nat)} (h : OwnK W base v l) : Pks W v l := h.rowO.sl
theorem Pks.words {W : World} {v : Value} {l : List (Nat × Nat)} (h : Pks W v l) : ∀ p ∈ l, p.1 < M256 ∧ p.2 < M256 := by
 intro p hp
 obtain ⟨i, hi, rfl⟩ := List.getElem_of_mem hp
 obtain ⟨A, c, rfl, _, _⟩ := h.len
 obtain ⟨_, _, _, _, h1, h2⟩ := h.at i hi
 have e : l.getD i (0, 0) = l[i] := by simp [List.getD, hi]
 rw [e] at h1 h2
 exact ⟨h1, h2⟩
set_option maxRecDepth 100000 in
set_option maxHeartbeats 1000000 in
theorem ownP_any (v : Value) (l : List (Nat × Nat)) (w : World) (hb : Pks w v l) (hl : l.length ≤ 1000000000) : Calls Try.prog 148 #[v] w fun e w' => ∃ v', e = .returned v' ∧ OwnK w' w.heap.size v' l ∧ Ext w w' := by
 have HB := Lib.hid hb.rs
 have HW := Lib.hid hb.words
 obtain ⟨A, c, rfl, k1, k2⟩ := hb.len
 unfold maxLen at k2
 clear hb
 by_cases h0 : l.length = 0
 ·have hz : ((l.length : Int) == 0) = true := by simp [h0]
  have hz2 : (l.length == 0) = true := by simp [h0]
  have HL := Lib.hid (List.eq_nil_of_length_eq_zero h0)
  clear h0
  go_enter Try.func148, Try.ntmps148
  go_wp2_with fail
  go_ret
  exact ⟨_, rfl, ⟨by rw [HL.out]; exact World.ownsRow_nil _ _ _ _, HW.out⟩, Ext.refl _⟩
 ·have hz : ((l.length : Int) == 0) = false := by simp [h0]
  have hz2 : (l.length == 0) = false := by simp [h0]
  have HP := Lib.hid (show 0 < l.length by omega)
  clear h0
  obtain ⟨n, hn⟩ : ∃ n, l.length = n := ⟨_, rfl⟩
  have HN := Lib.hid hn
  rw [hn] at hz hz2 HB k1 HP hl
  rw [hn]
  obtain ⟨i0, hi, hz0, hz1, hzb⟩ := info_parts pkinfo3
  clear hn
  go_enter Try.func148, Try.ntmps148
  go_wp2_with (first
   | (at_make; go_loud (refine wpList_make_full _ rfl _ _ 35 rfl w.heap.size 33 i0 (.agg (pkc (0, 0))) 8 Try.underlying35 hi hz0 hz1 .i64 .i64 _ _ n rfl rfl rfl rfl (by rw [hzb]; omega) (by unfold maxLen; omega) (Nat.le_refl _) ?_; intro w1 hr1 hg1; have HR := Lib.hid hr1; have HE := Lib.hid (ext_of_grown hg1); clear hr1 hg1))
   | (with_reducible refine wpList_copy_whole rfl (.tmp 10) (.tmp 11) _ _ rfl 33 Try.underlying35 8 pkinfo w.heap.size w.heap.size n n _ (pkf l) rfl HP.out HR.out rfl (.slice A n c) rfl (HB.out.ext HE.out) (pkf_one l) ?_; intro w2 hr2 hg2; have HR2 := Lib.hid hr2; have HG2 := Lib.hid hg2; clear hr2 hg2))
  go_ret
  exact ⟨_, rfl, ⟨by rw [HN.out]; exact HR2.out, HW.out⟩, HE.out.grown HG2.out (Nat.le_refl _)⟩

def AcO (lo : Nat) (W : World) (a : Ac) (u v : Value) : Prop := Own W lo 5 u a.code ∧ OwnK W lo v a.store
theorem AcO.ext {lo : Nat} {W W' : World} {a : Ac} {u v : Value} (h : AcO lo W a u v) (he : Ext W W') : AcO lo W' a u v := ⟨h.1.ext he, h.2.ext he⟩
theorem AcO.low {lo lo' : Nat} {W : World} {a : Ac} {u v : Value} (h : AcO lo W a u v) (hl : lo' ≤ lo) : AcO lo' W a u v := ⟨h.1.mono hl, h.2.mono hl⟩
theorem AcO.kept {lo : Nat} {W W' : World} {a : Ac} {u v : Value} {row : Option Nat} (h : AcO lo W a u v) (hg : W.grownBy W' row) (hr : ∀ g, row = some g → u.ownBlock ≠ some g ∧ v.ownBlock ≠ some g) : AcO lo W' a u v := by
 cases row with
 | none => exact ⟨World.ownsRow.kept h.1 hg (by cases hb : u.ownBlock <;> simp), World.ownsRow.kept h.2.1 hg (by cases hb : v.ownBlock <;> simp), h.2.2⟩
 | some g => exact ⟨World.ownsRow.kept h.1 hg (.inr (hr g rfl).1), World.ownsRow.kept h.2.1 hg (.inr (hr g rfl).2), h.2.2⟩
theorem AcO.lt {lo : Nat} {W : World} {a : Ac} {u v : Value} (h : AcO lo W a u v) (g : Nat) (hg : u.ownBlock = some g ∨ v.ownBlock = some g) : lo ≤ g ∧ g < W.heap.size := by
 rcases hg with hg | hg
 ·exact World.ownsRow.lt h.1 g hg
 ·exact World.ownsRow.lt h.2.1 g hg
set_option maxRecDepth 100000 in
theorem results_ac {fn : Func} {p : Tmp} (h : fn.results = #[.cell p 37]) (tmps : Array Value) (w : World) (g : Nat) (a : Ac) (u v : Value) (hp : tmps.getD p undef = .pointer (some ⟨g, 0, none⟩)) (hg : Ab w g a u v) : (results fn tmps).run Try.prog w = .ok (.agg (acc a u v)) w :=
 results_cell_row h tmps w g 37 (acc a u v) (0, 0) _ hp hg Try.underlying37 rfl acinfo
set_option maxRecDepth 100000 in
set_option maxHeartbeats 1000000 in
theorem copied_any (a : Ac) (u v : Value) (w : World) (hu : Bs w u a.code) (hv : Pks w v a.store) (hl1 : a.code.length ≤ 1000000000) (hl2 : a.store.length ≤ 1000000000) : Calls Try.prog 120 #[.agg (acc a u v)] w fun e w' => ∃ u' v', e = .returned (.agg (acc a u' v')) ∧ AcO w.heap.size w' a u' v' ∧ Ext w w' := by
 have HU := Lib.hid hu
 have HV := Lib.hid hv
 have HK : Hid (Ab ((w.alloc (.cells (acc a u v) 37)).alloc (.cells az0 37)) w.heap.size a u v) := Lib.hid (Cs.alloc (Cs.new _ _ _ _ rfl) _)
 have HZ : Hid (Cs ((w.alloc (.cells (acc a u v) 37)).alloc (.cells az0 37)) (w.heap.size + 1) 37 az0) := Lib.hid (Cs.new _ _ _ _ (by simp))
 have HE := Lib.hid (((Ext.refl w).alloc (.cells (acc a u v) 37)).alloc (.cells az0 37))
 have hc6 := HK.out.code
 obtain ⟨cs, hcs⟩ : ∃ cs, acc a u v = cs := ⟨_, rfl⟩
 have HCS := Lib.hid hcs
 rw [hcs] at HK hc6 HE HZ
 rw [hcs]
 clear hcs hu hv
 have hcs6 : cs[6]? = some u := by rw [← HCS.out]; rfl
 have hcs7 : cs[7]? = some v := by rw [← HCS.out]; rfl
 unfold az0 at HK hc6 HE HZ
 go_enter Try.func120, Try.ntmps120
 go_wp2_with fail
 refine (ownB_any _ a.code _ (HU.out.ext HE.out) hl1).mono ?_
 rintro e w1 ⟨u1, rfl, ho1, he1⟩
 have K1 := Lib.hid (Ab.ext (show Ab _ w.heap.size a u v from HK.out) he1)
 have Z1 := Lib.hid (Cs.ext HZ.out he1)
 have HE1 := Lib.hid (HE.out.trans he1)
 have HB := Lib.hid (show w.heap.size + 1 < w1.heap.size from Cs.lt (Cs.ext HZ.out he1))
 have HO1 := Lib.hid (ho1.mono HE.out.size)
 have HOB := Lib.hid (show ∀ g, u1.ownBlock = some g → w.heap.size + 1 < g from fun g hg => by have h := (ho1.lt g hg).1; simp at h; omega)
 have hf6 : w1.frozen? ⟨w.heap.size, 6, none⟩ = false := Cs.frozen K1.out 6
 have hc6 : w1.cell? ⟨w.heap.size, 6, none⟩ = some u := K1.out.code
 have HU1 := Lib.hid (bs_one ho1.bs)
 obtain ⟨A1, c1, rfl, p1, p2, p3⟩ := ho1.bs
 clear he1 ho1 HK HZ HE hcs6 hcs7 p3
 have K2 := Lib.hid (show Ab (w1.setCell ⟨w.heap.size, 6, none⟩ (.slice A1 a.code.length c1)) w.heap.size a (.slice A1 a.code.length c1) v from by simpa [Ab, acc] using Cs.set K1.out 6 (.slice A1 a.code.length c1))
 have Z2 := Lib.hid (Cs.kept Z1.out (grown_set w1 w.heap.size 6 (.slice A1 a.code.length c1)) (some_ne (by omega)))
 have HE2 := Lib.hid (HE1.out.grown (grown_set w1 w.heap.size 6 (.slice A1 a.code.length c1)) (Nat.le_refl _))
 have HO2 := Lib.hid (World.ownsRow.kept HO1.out (grown_set w1 w.heap.size 6 (.slice A1 a.code.length c1)) (.inr (fun e => by have := HOB.out _ e; omega)))
 have hc7 := K2.out.store
 go_wp2_with fail
 clear hc7
 have HB2 := Lib.hid (show w.heap.size + 1 < (w1.setCell ⟨w.heap.size, 6, none⟩ (.slice A1 a.code.length c1)).heap.size from by simpa using HB.out)
 generalize w1.setCell ⟨w.heap.size, 6, none⟩ (.slice A1 a.code.length c1) = w2 at *
 refine (ownP_any _ a.store _ (HV.out.ext HE2.out) hl2).mono ?_
 rintro e w3 ⟨v1, rfl, ho3, he3⟩
 have K3 := Lib.hid (K2.out.ext he3)
 have Z3 := Lib.hid (Cs.ext Z2.out he3)
 have HE3 := Lib.hid (HE2.out.trans he3)
 have HO3 := Lib.hid (own_ext HO2.out he3)
 have HP3 := Lib.hid (ho3.mono HE2.out.size)
 have HPB := Lib.hid (show ∀ g, v1.ownBlock = some g → w.heap.size + 1 < g from fun g hg => by have h := (ho3.1.lt g hg).1; have := HB2.out; omega)
 have hf7 : w3.frozen? ⟨w.heap.size, 7, none⟩ = false := Cs.frozen K3.out 7
 have hc7 : w3.cell? ⟨w.heap.size, 7, none⟩ = some v := K3.out.store
 have HV1 := Lib.hid (pks_one ho3.pks)
 obtain ⟨A2, c2, rfl, p4, p5⟩ := ho3.pks.len
 clear he3 ho3 K2 Z2 HE2 HO2 hc6 hf6 K1 Z1 HE1 HO1
 have K4 := Lib.hid (show Ab (w3.setCell ⟨w.heap.size, 7, none⟩ (.slice A2 a.store.length c2)) w.heap.size a (.slice A1 a.code.length c1) (.slice A2 a.store.length c2) from by simpa [Ab, acc] using Cs.set K3.out 7 (.slice A2 a.store.length c2))
 have Z4 := Lib.hid (Cs.kept Z3.out (grown_set w3 w.heap.size 7 (.slice A2 a.store.length c2)) (some_ne (by omega)))
 have HE4 := Lib.hid (HE3.out.grown (grown_set w3 w.heap.size 7 (.slice A2 a.store.length c2)) (Nat.le_refl _))
 have HO4 := Lib.hid (World.ownsRow.kept HO3.out (grown_set w3 w.heap.size 7 (.slice A2 a.store.length c2)) (.inr (fun e => by have := HOB.out _ e; omega)))
 have HP4 := Lib.hid (World.ownsRow.kept HP3.out.1 (grown_set w3 w.heap.size 7 (.slice A2 a.store.length c2)) (.inr (fun e => by have := HPB.out _ e; omega)))
 have HP5 := Lib.hid HP3.out.2
 go_wp2_with (first
  | ((with_reducible refine wpList_load_ac ?_ (.tmp 1) ?_ w.heap.size 0 a (.slice A1 a.code.length c1) (.slice A2 a.store.length c2) ?_ ?_ ?_); (exact rfl); (exact rfl); (exact rfl); (exact K4.out.range))
  | ((with_reducible refine wpList_store_ac ?_ ?_ (.tmp 2) (.tmp 11) ?_ (w.heap.size + 1) az0 a (.slice A1 a.code.length c1) (.slice A2 a.store.length c2) ?_ ?_ ?_ ?_ ?_ ?_ ?_); (exact rfl); (exact rfl); (exact rfl); (exact rfl); (exact rfl); (exact rfl); (exact rfl); (exact Z4.out); (exact rfl); intro w5 k5 g5; have K5 := Lib.hid k5; have HE5 := Lib.hid (HE4.out.grown g5 (by omega)); have HO5 := Lib.hid (World.ownsRow.kept HO4.out g5 (.inr (fun e => by have := HOB.out _ e; omega))); have HP6 := Lib.hid (World.ownsRow.kept HP4.out g5 (.inr (fun e => by have := HPB.out _ e; omega))); clear k5 g5))
 exact bodyPost_ret (results_ac Try.results120 _ _ (w.heap.size + 1) _ _ _ rfl K5.out) rfl ⟨_, _, rfl, ⟨HO5.out, ⟨HP6.out, HP5.out⟩⟩, HE5.out⟩
end Go.Proofs.Ytiojfpdjnblkhaa
