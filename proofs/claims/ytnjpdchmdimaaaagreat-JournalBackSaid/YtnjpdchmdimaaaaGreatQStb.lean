/- Package state: accounts in memory; empty. Package state: own, copied. -/
import Derived.Test.YtnjpdchmdimaaaaGreatQPka
import Derived.Test.YtnjpdchmdimaaaaGreatQInw
import Derived.Test.YtnjpdchmdimaaaaGreatQByt
import Derived.IntWalk
import Derived.Outline
import Derived.OwnWalk
import Derived.Laws.CopyRow
namespace Go.Proofs.YtnjpdchmdimaaaaGreat
open Go.ChangeShapes Go.WideShapes Go.ChangeAt Go.RowKit Go.Shelf

def pkc (p : Nat × Nat) : Array Value := #[lv (lb p.1 0), lv (lb p.1 1), lv (lb p.1 2), lv (lb p.1 3), lv (lb p.2 0), lv (lb p.2 1), lv (lb p.2 2), lv (lb p.2 3)]
theorem pkc_one (p : Nat × Nat) : (pkc p).all (·.oneCell') = true := by simp [pkc, lv, Value.oneCell']
def PkR (cs : List Value) (p : Nat × Nat) : Prop := p.1 < M256 ∧ p.2 < M256 ∧ cs = (pkc p).toList
def Pks (W : World) (v : Value) (l : List (Nat × Nat)) : Prop := Sl W 8 PkR v l
theorem Pks.ext {W W' : World} {v : Value} {l : List (Nat × Nat)} (h : Pks W v l) (he : Ext W W') : Pks W' v l := Sl.mono h (fun _ _ hc => he.cell hc) fun _ _ h => h
theorem Pks.len {W : World} {v : Value} {l : List (Nat × Nat)} (h : Pks W v l) : ∃ A c, v = .slice A l.length c ∧ l.length ≤ c ∧ c ≤ maxLen := by
 obtain ⟨A, c, e, h1, h2, _⟩ := h
 exact ⟨A, c, e, h1, h2⟩
theorem Pks.at {W : World} {A : Option Addr} {n c : Nat} {l : List (Nat × Nat)} (h : Pks W (.slice A n c) l) (i : Nat) (hi : i < l.length) : ∃ b o, A = some ⟨b, o, none⟩ ∧ W.rangeAt b (o + i * 8) (pkc (l.getD i (0, 0))).toList ∧ (l.getD i (0, 0)).1 < M256 ∧ (l.getD i (0, 0)).2 < M256 := by
 obtain ⟨A', c', e, _, _, h3⟩ := h
 injection e with e1 e2 e3
 subst e1
 obtain ⟨b, o, rfl, hc⟩ := h3 (by omega)
 obtain ⟨cs, _, ⟨k0, k1, rfl⟩, k3⟩ := hc i _ (List.getElem?_eq_getElem hi)
 have e : l.getD i (0, 0) = l[i] := by simp [List.getD, List.getElem?_eq_getElem hi]
 rw [e]
 exact ⟨b, o, rfl, k3, k0, k1⟩
set_option maxRecDepth 100000 in
theorem pkinfo : (Tryz.prog.info? 106).map (·.size) = some 8 := by kernel_rfl
set_option maxRecDepth 100000 in
theorem pkinfo3 : (Tryz.prog.info? 106).map (fun i => (i.zero, i.size, i.bytes)) = some (some (.agg (pkc (0, 0))), 8, 64) := by kernel_rfl
theorem pk_key {W : World} {b o : Nat} {p : Nat × Nat} (h : W.rangeAt b o (pkc p).toList) : W.rangeAt b o (wc p.1).toList := fun j v hv => by
 refine h j v ?_
 have hj : j < 4 := by have := (List.getElem?_eq_some_iff.1 hv).1; simpa [wc] using this
 match j, hj with
 | 0, _ => exact hv
 | 1, _ => exact hv
 | 2, _ => exact hv
 | 3, _ => exact hv
theorem pk_val {W : World} {b o : Nat} {p : Nat × Nat} (h : W.rangeAt b o (pkc p).toList) : W.rangeAt b (o + 4) (wc p.2).toList := fun j v hv => by
 have hj : j < 4 := by have := (List.getElem?_eq_some_iff.1 hv).1; simpa [wc] using this
 have := h (4 + j) v (by
  match j, hj with
  | 0, _ => exact hv
  | 1, _ => exact hv
  | 2, _ => exact hv
  | 3, _ => exact hv)
 rwa [show o + 4 + j = o + (4 + j) by omega]
set_option maxRecDepth 100000 in
theorem wpList_load_pair {ops : Array Oper} {rest : List Oper} {o : Oper} {a : Act} {w : World} {Q : Exit → Act → World → Prop} (hgd : Region.wanted o (yielded ops a.tmps) = true) (x : Operand) (ho : o.op = .load 106 x)
  (g k : Nat) (p : Nat × Nat) (hx : a.eval x = .pointer (some ⟨g, k, none⟩)) (hg : w.rangeAt g k (pkc p).toList) (h : wpList Tryz.prog ops Q rest (a.put o.dst (.agg (pkc p))) w) : wpList Tryz.prog ops Q (o :: rest) a w := by
 refine wpList_step fun K hK => ?_
 rw [if_pos hgd]
 refine wp_load_mid 106 x ho g k hx (pkc p).toList _ hg Tryz.underlying106 rfl pkinfo ?_
 exact hK _ _ h

structure Ac where
 addr : Nat
 bal : Nat
 nonce : Nat
 code : List UInt8
 store : List (Nat × Nat)
def acc (a : Ac) (u v : Value) : Array Value := #[.int .u64 (a.addr : Nat), lv (lb a.bal 0), lv (lb a.bal 1), lv (lb a.bal 2), lv (lb a.bal 3), .int .u64 (a.nonce : Nat), u, v]
def Ac.ok (a : Ac) : Prop := a.addr < 18446744073709551616 ∧ a.bal < M256 ∧ a.nonce < 18446744073709551616
def AcR (W : World) (cs : List Value) (a : Ac) : Prop := a.ok ∧ ∃ u v, cs = (acc a u v).toList ∧ Bs W u a.code ∧ Pks W v a.store
def Acs (W : World) (v : Value) (l : List Ac) : Prop := Sl W 8 (AcR W) v l
theorem AcR.ext {W W' : World} {cs : List Value} {a : Ac} (h : AcR W cs a) (he : Ext W W') : AcR W' cs a := by
 obtain ⟨h0, u, v, e, h1, h2⟩ := h
 exact ⟨h0, u, v, e, h1.ext he, h2.ext he⟩
theorem Acs.ext {W W' : World} {v : Value} {l : List Ac} (h : Acs W v l) (he : Ext W W') : Acs W' v l :=
 Sl.mono h (fun _ _ hc => he.cell hc) fun _ _ h => h.ext he
theorem Acs.len {W : World} {v : Value} {l : List Ac} (h : Acs W v l) : ∃ A c, v = .slice A l.length c ∧ l.length ≤ c ∧ c ≤ maxLen := by
 obtain ⟨A, c, e, h1, h2, _⟩ := h
 exact ⟨A, c, e, h1, h2⟩
def acz : Ac := ⟨0, 0, 0, [], []⟩
theorem Acs.at {W : World} {A : Option Addr} {n c : Nat} {l : List Ac} (h : Acs W (.slice A n c) l) (i : Nat) (hi : i < l.length) : ∃ b o u v, A = some ⟨b, o, none⟩ ∧ W.rangeAt b (o + i * 8) (acc (l.getD i acz) u v).toList ∧ Bs W u (l.getD i acz).code ∧ Pks W v (l.getD i acz).store ∧ (l.getD i acz).ok := by
 obtain ⟨A', c', e, _, _, h3⟩ := h
 injection e with e1 e2 e3
 subst e1
 obtain ⟨b, o, rfl, hc⟩ := h3 (by omega)
 obtain ⟨cs, _, ⟨k0, u, v, rfl, k1, k2⟩, k3⟩ := hc i _ (List.getElem?_eq_getElem hi)
 have e : l.getD i acz = l[i] := by simp [List.getD, List.getElem?_eq_getElem hi]
 rw [e]
 exact ⟨b, o, u, v, rfl, k3, k1, k2, k0⟩
set_option maxRecDepth 100000 in
theorem acinfo : (Tryz.prog.info? 79).map (·.size) = some 8 := by kernel_rfl
def az0 : Array Value := #[.int .u64 0, .int .u64 0, .int .u64 0, .int .u64 0, .int .u64 0, .int .u64 0, .slice none 0 0, .slice none 0 0]
set_option maxRecDepth 100000 in
theorem acinfo3 : (Tryz.prog.info? 79).map (fun i => (i.zero, i.size, i.bytes)) = some (some (.agg az0), 8, 96) := by kernel_rfl
theorem acc_one (a : Ac) (u v : Value) (hu : u.oneCell' = true) (hv : v.oneCell' = true) : (acc a u v).all (·.oneCell') = true := by simpa [acc, lv, Value.oneCell'] using ⟨hu, hv⟩
theorem pks_one {W : World} {u : Value} {l : List (Nat × Nat)} (h : Pks W u l) : u.oneCell' = true := by
 obtain ⟨A, c, rfl, _⟩ := h
 rfl
def Ab (W : World) (g : Nat) (a : Ac) (u v : Value) : Prop := Cs W g 79 (acc a u v)
theorem Ab.ext {W W' : World} {g : Nat} {a : Ac} {u v : Value} (h : Ab W g a u v) (he : Ext W W') : Ab W' g a u v := Cs.ext h he
theorem Ab.range {W : World} {g : Nat} {a : Ac} {u v : Value} (h : Ab W g a u v) : W.rangeAt g 0 (acc a u v).toList := fun j x hx => by
 rw [Nat.zero_add]
 exact Cs.cell h j x (by rwa [Array.getElem?_toList] at hx)
theorem ac_bal {W : World} {b o : Nat} {a : Ac} {u v : Value} (h : W.rangeAt b o (acc a u v).toList) : W.rangeAt b (o + 1) (wc a.bal).toList := fun j x hx => by
 have hj : j < 4 := by have := (List.getElem?_eq_some_iff.1 hx).1; simpa [wc] using this
 have := h (1 + j) x (by
  match j, hj with
  | 0, _ => exact hx
  | 1, _ => exact hx
  | 2, _ => exact hx
  | 3, _ => exact hx)
 rwa [show o + 1 + j = o + (1 + j) by omega]
theorem Ab.addr {W : World} {g : Nat} {a : Ac} {u v : Value} (h : Ab W g a u v) : W.cell? ⟨g, 0, none⟩ = some (.int .u64 (a.addr : Nat)) := Cs.cell h 0 _ rfl
theorem Ab.nonce {W : World} {g : Nat} {a : Ac} {u v : Value} (h : Ab W g a u v) : W.cell? ⟨g, 5, none⟩ = some (.int .u64 (a.nonce : Nat)) := Cs.cell h 5 _ rfl
theorem Ab.code {W : World} {g : Nat} {a : Ac} {u v : Value} (h : Ab W g a u v) : W.cell? ⟨g, 6, none⟩ = some u := Cs.cell h 6 _ rfl
theorem Ab.store {W : World} {g : Nat} {a : Ac} {u v : Value} (h : Ab W g a u v) : W.cell? ⟨g, 7, none⟩ = some v := Cs.cell h 7 _ rfl
theorem Ab.bal {W : World} {g : Nat} {a : Ac} {u v : Value} (h : Ab W g a u v) : W.rangeAt g 1 (wc a.bal).toList := by
 have := ac_bal h.range
 rwa [Nat.zero_add] at this
set_option maxRecDepth 100000 in
theorem wpList_load_ac {ops : Array Oper} {rest : List Oper} {o : Oper} {a : Act} {w : World} {Q : Exit → Act → World → Prop} (hgd : Region.wanted o (yielded ops a.tmps) = true) (x : Operand) (ho : o.op = .load 79 x)
  (g k : Nat) (p : Ac) (u v : Value) (hx : a.eval x = .pointer (some ⟨g, k, none⟩)) (hg : w.rangeAt g k (acc p u v).toList) (h : wpList Tryz.prog ops Q rest (a.put o.dst (.agg (acc p u v))) w) : wpList Tryz.prog ops Q (o :: rest) a w := by
 refine wpList_step fun K hK => ?_
 rw [if_pos hgd]
 refine wp_load_mid 79 x ho g k hx (acc p u v).toList _ hg Tryz.underlying79 rfl acinfo ?_
 exact hK _ _ h
set_option maxRecDepth 100000 in
theorem wpList_store_ac {ops : Array Oper} {rest : List Oper} {o : Oper} {a : Act} {w : World} {Q : Exit → Act → World → Prop} (hgd : o.guard = none) (hd : o.dst = none) (x y : Operand) (ho : o.op = .store 79 x y)
  (g : Nat) (old : Array Value) (p : Ac) (u v : Value) (hu : u.oneCell' = true) (hv : v.oneCell' = true) (hx : a.eval x = .pointer (some ⟨g, 0, none⟩)) (hy : a.eval y = .agg (acc p u v)) (hg : Cs w g 79 old) (hold : old.size = 8)
  (h : ∀ w', Ab w' g p u v → w.grownBy w' (some g) → wpList Tryz.prog ops Q rest a w') : wpList Tryz.prog ops Q (o :: rest) a w := by
 have h' : ∀ w', Ab w' g p u v → w.grownBy w' (some g) → wpList Tryz.prog ops Q rest (a.put o.dst undef) w' := by rw [hd]; exact h
 refine wpList_store_row hgd 79 x y ho g (acc p u v) hx hy 79 old hg acinfo hold (acc_one p u v hu hv) (h' _ ?_ ?_)
 ·exact setRow_heap w g _ _ 79 (0, 0) hg
 ·exact ⟨rfl, rfl, rfl, by simp [World.setRow], fun k _ hk => setRow_other w g k _ (fun e => hk (by simp [e]))⟩

def Ac.emptyB (a : Ac) : Bool := decide (a.bal = 0) && (decide (a.nonce = 0) && (decide (a.code.length = 0) && decide (a.store.length = 0)))
set_option maxRecDepth 100000 in
set_option maxHeartbeats 1000000 in
theorem empty_any (a : Ac) (u v : Value) (w : World) (hok : a.ok) (hu : Bs w u a.code) (hv : Pks w v a.store) : Calls Tryz.prog 87 #[.agg (acc a u v)] w fun e w' => e = .returned (.bool a.emptyB) ∧ Ext w w' := by
 have HK : Hid (Ab (w.alloc (.cells (acc a u v) 79)) w.heap.size a u v) := Lib.hid (Cs.new _ _ _ _ rfl)
 have HE := Lib.hid ((Ext.refl w).alloc (.cells (acc a u v) 79))
 have hc5 := HK.out.nonce
 have hc6 := HK.out.code
 have hc7 := HK.out.store
 have HM : Hid (a.emptyB = (decide (a.bal = 0) && (decide (a.nonce = 0) && (decide (a.code.length = 0) && decide (a.store.length = 0))))) := Lib.hid rfl
 obtain ⟨A, c, rfl, h1, h2, _⟩ := hu
 obtain ⟨A2, c2, rfl, h3, h4⟩ := hv.len
 unfold maxLen at h2 h4
 obtain ⟨o1, o2, o3⟩ := hok
 have HW := Lib.hid o2
 have HWI := Lib.hid HK.out.bal
 obtain ⟨cs, hcs⟩ : ∃ cs, acc a (.slice A a.code.length c) (.slice A2 a.store.length c2) = cs := ⟨_, rfl⟩
 have HCS := Lib.hid hcs
 rw [hcs] at hc5 hc6 hc7 HE HWI HK
 rw [hcs]
 clear hcs o2
 obtain ⟨addr, bal, nonce, code, store⟩ := a
 dsimp only at *
 have hbz : (bal == 0) = decide (bal = 0) := by by_cases h : bal = 0 <;> simp [h]
 go_enter Tryz.func87, Tryz.ntmps87
 by_cases e1 : bal = 0
 ·have hb0 : (bal == 0) = true := by simp [e1]
  have HB := Lib.hid e1
  clear e1 hbz
  by_cases e2 : nonce = 0
  ·have hn1 : ((nonce : Int) == 0) = true := by simp [e2]
   have hn2 : (nonce == 0) = true := by simp [e2]
   have HN := Lib.hid e2
   clear e2
   by_cases e3 : code.length = 0
   ·have hl1 : ((code.length : Int) == 0) = true := by simp [e3]
    have hl2 : (code.length == 0) = true := by simp [e3]
    have HL := Lib.hid e3
    clear e3
    by_cases e4 : store.length = 0
    ·have hs1 : ((store.length : Int) == 0) = true := by simp [e4]
     have hs2 : (store.length == 0) = true := by simp [e4]
     have HS := Lib.hid e4
     clear e4
     go_wp2_with (first
      | ((with_reducible refine wpList_load_wordIn ?_ (.tmp 3) ?_ w.heap.size 1 bal ?_ ?_ ?_); (exact rfl); (exact rfl); (exact rfl); (exact HWI.out))
      | ((with_reducible refine wpList_eql_word ?_ (.tmp 4) (.tmp 5) ?_ bal 0 HW.out (by decide) ?_ ?_ ?_); (exact rfl); (exact rfl); (exact rfl); (exact rfl); rw [hb0]))
     go_ret
     exact ⟨by rw [HM.out]; simp [HB.out, HN.out, HL.out, HS.out], HE.out⟩
    ·have hs1 : ((store.length : Int) == 0) = false := by simp [e4]
     have hs2 : (store.length == 0) = false := by simp [e4]
     have HS := Lib.hid e4
     clear e4
     go_wp2_with (first
      | ((with_reducible refine wpList_load_wordIn ?_ (.tmp 3) ?_ w.heap.size 1 bal ?_ ?_ ?_); (exact rfl); (exact rfl); (exact rfl); (exact HWI.out))
      | ((with_reducible refine wpList_eql_word ?_ (.tmp 4) (.tmp 5) ?_ bal 0 HW.out (by decide) ?_ ?_ ?_); (exact rfl); (exact rfl); (exact rfl); (exact rfl); rw [hb0]))
     go_ret
     exact ⟨by rw [HM.out]; simp [HS.out], HE.out⟩
   ·have hl1 : ((code.length : Int) == 0) = false := by simp [e3]
    have hl2 : (code.length == 0) = false := by simp [e3]
    have HL := Lib.hid e3
    clear e3
    go_wp2_with (first
     | ((with_reducible refine wpList_load_wordIn ?_ (.tmp 3) ?_ w.heap.size 1 bal ?_ ?_ ?_); (exact rfl); (exact rfl); (exact rfl); (exact HWI.out))
     | ((with_reducible refine wpList_eql_word ?_ (.tmp 4) (.tmp 5) ?_ bal 0 HW.out (by decide) ?_ ?_ ?_); (exact rfl); (exact rfl); (exact rfl); (exact rfl); rw [hb0]))
    go_ret
    exact ⟨by rw [HM.out]; simp [HL.out], HE.out⟩
  ·have hn1 : ((nonce : Int) == 0) = false := by simp; omega
   have hn2 : (nonce == 0) = false := by simpa using e2
   have HN := Lib.hid e2
   clear e2
   go_wp2_with (first
    | ((with_reducible refine wpList_load_wordIn ?_ (.tmp 3) ?_ w.heap.size 1 bal ?_ ?_ ?_); (exact rfl); (exact rfl); (exact rfl); (exact HWI.out))
    | ((with_reducible refine wpList_eql_word ?_ (.tmp 4) (.tmp 5) ?_ bal 0 HW.out (by decide) ?_ ?_ ?_); (exact rfl); (exact rfl); (exact rfl); (exact rfl); rw [hb0]))
   go_ret
   exact ⟨by rw [HM.out]; simp [HN.out], HE.out⟩
 ·have hb0 : (bal == 0) = false := by simpa using e1
  have HB := Lib.hid e1
  clear e1 hbz
  go_wp2_with (first
   | ((with_reducible refine wpList_load_wordIn ?_ (.tmp 3) ?_ w.heap.size 1 bal ?_ ?_ ?_); (exact rfl); (exact rfl); (exact rfl); (exact HWI.out))
   | ((with_reducible refine wpList_eql_word ?_ (.tmp 4) (.tmp 5) ?_ bal 0 HW.out (by decide) ?_ ?_ ?_); (exact rfl); (exact rfl); (exact rfl); (exact rfl); rw [hb0]))
  go_ret
  exact ⟨by rw [HM.out]; simp [HB.out], HE.out⟩
end Go.Proofs.YtnjpdchmdimaaaaGreat
namespace Go.Proofs.YtnjpdchmdimaaaaGreat
open Go.ChangeShapes Go.WideShapes Go.ChangeAt Go.RowKit Go.Shelf

theorem flat_inv {s : Nat} (hs : 0 < s) : ∀ (css : List (List Value)), (∀ cs ∈ css, cs.length = s) → ∀ (i : Nat) (u : Value), css.flatten[i]? = some u → ∃ cs, css[i / s]? = some cs ∧ cs[i % s]? = some u
 | [], _, i, u, h => by simp at h
 | c :: css, hc, i, u, h => by
  have hl := hc c List.mem_cons_self
  rw [List.flatten_cons] at h
  by_cases hi : i < s
  ·rw [List.getElem?_append_left (by omega)] at h
   rw [Nat.div_eq_of_lt hi, Nat.mod_eq_of_lt hi]
   exact ⟨c, rfl, h⟩
  ·rw [List.getElem?_append_right (by omega), hl] at h
   obtain ⟨cs, h1, h2⟩ := flat_inv hs css (fun x hx => hc x (List.mem_cons_of_mem _ hx)) _ _ h
   have e1 : i / s = (i - s) / s + 1 := by
    conv => lhs; rw [show i = (i - s) + s by omega]
    exact Nat.add_div_right _ hs
   have e2 : i % s = (i - s) % s := by
    conv => lhs; rw [show i = (i - s) + s by omega]
    exact Nat.add_mod_right _ _
   rw [e1, e2]
   exact ⟨cs, h1, h2⟩
theorem Sl.rs {α : Type} {W : World} {s : Nat} (hs : 0 < s) {Rd : List Value → α → Prop} (f : α → List Value) (hf : ∀ x, (f x).length = s) (hR : ∀ cs x, Rd cs x → cs = f x) {v : Value} {l : List α} (h : Sl W s Rd v l) : Rs W s v l.length (l.map f).flatten := by
 obtain ⟨A, c, e, h1, h2, h3⟩ := h
 have hlen : (l.map f).flatten.length = l.length * s := by
  rw [flat_len (l.map f) (by intro cs hc; obtain ⟨x, _, rfl⟩ := List.mem_map.1 hc; exact hf x), List.length_map]
 refine ⟨hlen, A, c, e, h1, h2, fun hp => ?_⟩
 obtain ⟨b, o, ea, hc⟩ := h3 hp
 refine ⟨b, o, ea, fun i u hu => ?_⟩
 obtain ⟨cs, k1, k2⟩ := flat_inv hs (l.map f) (by intro cs hc; obtain ⟨x, _, rfl⟩ := List.mem_map.1 hc; exact hf x) i u hu
 rw [List.getElem?_map] at k1
 obtain ⟨x, k3, rfl⟩ := Option.map_eq_some_iff.1 k1
 obtain ⟨cs', _, k5, k6⟩ := hc _ _ k3
 obtain rfl := hR _ _ k5
 have := k6 _ _ k2
 rwa [show o + i / s * s + i % s = o + i by have := Nat.div_add_mod' i s; omega] at this
theorem run_copy_whole {P : Program} (w : World) (dT sT ty elem : TypeId) (g n dCap : Nat) (ad : Addr) (sCap s : Nat) (cur : Array Value) (t : TypeId) (cs : List Value)
  (hu : P.underlying dT = some (.slice elem)) (hs : (P.info? elem).map (·.size) = some s) (hg : w.heap[g]? = some (.cells cur t (0, 0))) (hn : cs.length = n * s) (hcur : cur.size = n * s)
  (hsrc : ∀ j v, cs[j]? = some v → w.cell? (ad.add j) = some v) (h1 : ∀ v ∈ cs, v.oneCell' = true) :
  (Builtin.copy_ #[dT, sT] ty #[.slice (some ⟨g, 0, none⟩) n dCap, .slice (some ad) n sCap]).run P w = .ok (goInt n) (w.setRow g cs.toArray) := by
 have hl := run_loadCells_list (P := P) w ad cs hsrc
 have hst := run_storeCells_at P g 0 t cs 0 cur w hg (by omega) h1
 have e0 : cur.toList.drop cs.length = [] := List.drop_of_length_le (by rw [Array.length_toList]; omega)
 simp only [Nat.zero_add, List.take_zero, List.nil_append, e0, List.append_nil] at hst
 have hmin : Nat.min n n = n := Nat.min_self n
 cases hq : P.info? elem with
 | none => simp [hq] at hs
 | some i =>
  have hi : i.size = s := by simpa [hq] using hs
  simp [Builtin.copy_, run_underlying hu, Builtin.lenOf, Builtin.firstCells, sizeOf, typeInfo, hq, hi, hmin, ← hn, hl, hst]
theorem wpList_copy_whole {P : Program} {w : World} {ops : Array Oper} {rest : List Oper} {o : Oper} {a : Act} {Q : Exit → Act → World → Prop} (hgd : o.guard = none) (d s : Operand) (dT sT : TypeId)
  (ho : o.op = .call { callee := .builtin .copy, args := #[d, s], argTypes := #[dT, sT] }) (e : TypeId) (hu : P.underlying dT = some (.slice e)) (sz : Nat) (hsz : (P.info? e).map (·.size) = some sz)
  (base g n cap : Nat) (xs cs : List Value) (hd : a.eval d = .slice (some ⟨g, 0, none⟩) n cap) (hn : 0 < n) (hr : w.ownsRow base e sz (.slice (some ⟨g, 0, none⟩) n cap) n xs) (hcap : n = cap) (sv : Value) (hs : a.eval s = sv) (hx : Rs w sz sv n cs) (h1 : ∀ v ∈ cs, v.oneCell' = true)
  (hK : ∀ w', w'.ownsRow base e sz (.slice (some ⟨g, 0, none⟩) n cap) n cs → w.grownBy w' (some g) → wpList P ops Q rest (a.put o.dst (goInt n)) w') :
  wpList P ops Q (o :: rest) a w := by
 subst hcap
 obtain ⟨hcl, A, c, rfl, q1, q2, q3⟩ := hx
 obtain ⟨b, off, rfl, hc⟩ := q3 hn
 obtain ⟨r1, r2⟩ := hr
 rcases r2 with ⟨r2, _⟩ | ⟨g', cap', cur, r2, hb, hg, hnc, hcm, hcs, htake⟩
 ·cases r2
 ·simp only [Value.slice.injEq, Option.some.injEq, Addr.mk.injEq, and_true, true_and] at r2
  obtain ⟨rfl, rfl⟩ := r2
  refine wpList_plain hgd fun K hK' => ?_
  have hrun := run_copy_whole (P := P) w dT sT o.type e g n n ⟨b, off, none⟩ c sz cur e cs hu hsz hg hcl hcs (fun j v hv => by rw [add_plain]; exact hc j v hv) h1
  unfold Oper.wp
  simp [execOp, ho, resolve, invoke, builtin, hd, hs, hrun, Result.andThen]
  refine hK' _ _ (hK _ ⟨hcl, .inr ⟨g, n, cs.toArray, rfl, hb, setRow_heap w g _ _ e (0, 0) hg, hnc, hcm, by simpa using hcl, by simp [← hcl]⟩⟩ ⟨rfl, rfl, rfl, by simp [World.setRow], fun k _ hk => setRow_other w g k _ (fun e => hk (by simp [e]))⟩)

theorem lay_all (l : List UInt8) : lay (List.replicate l.length 0) 0 l = l := by
 apply ext_getD (by rw [lay_length, List.length_replicate])
 intro i hi
 rw [lay_length, List.length_replicate] at hi
 rw [lay_getD _ _ _ _ (by rw [List.length_replicate]; exact hi), if_pos (by omega), Nat.sub_zero]
def pkf (l : List (Nat × Nat)) : List Value := (l.map fun p => (pkc p).toList).flatten
theorem Pks.rs {W : World} {v : Value} {l : List (Nat × Nat)} (h : Pks W v l) : Rs W 8 v l.length (pkf l) := Sl.rs (by decide) (fun p => (pkc p).toList) (fun _ => rfl) (fun _ _ h => h.2.2) h
theorem pkf_one (l : List (Nat × Nat)) : ∀ u ∈ pkf l, u.oneCell' = true := by
 intro u hu
 obtain ⟨cs, hc, hu⟩ := List.mem_flatten.1 hu
 obtain ⟨p, _, rfl⟩ := List.mem_map.1 hc
 exact Array.all_eq_true_iff_forall_mem.1 (pkc_one p) u (by simpa using hu)
def OwnK (W : World) (base : Nat) (v : Value) (l : List (Nat × Nat)) : Prop := W.ownsRow base 106 8 v l.length (pkf l) ∧ ∀ p ∈ l, p.1 < M256 ∧ p.2 < M256
theorem OwnK.ext {W W' : World} {base : Nat} {v : Value} {l : List (Nat × Nat)} (h : OwnK W base v l) (he : Ext W W') : OwnK W' base v l := ⟨own_ext h.1 he, h.2⟩
theorem OwnK.mono {W : World} {base base' : Nat} {v : Value} {l : List (Nat × Nat)} (h : OwnK W base v l) (hb : base' ≤ base) : OwnK W base' v l := ⟨own_mono h.1 hb, h.2⟩
theorem OwnK.rowO {W : World} {base : Nat} {v : Value} {l : List (Nat × Nat)} (h : OwnK W base v l) : RowO 106 8 (fun _ => PkR) No base W v l :=
 ⟨l.map fun p => (pkc p).toList, by simp, by intro cs hc; obtain ⟨p, _, rfl⟩ := List.mem_map.1 hc; rfl, h.1, fun i cs x hc hx => Far.true _ _ _ fun W => by
  rw [List.getElem?_map, hx] at hc
  simp at hc
  have := h.2 x (List.mem_of_getElem? hx)
  exact ⟨this.1, this.2, hc.symm⟩⟩
theorem OwnK.pks {W : World} {base : Nat} {v : Value} {l : List (Nat × Nat)} (h : OwnK W base v l) : Pks W v l := h.rowO.sl
theorem OwnK.far {W : World} {lo : Nat} {X : Nat → Prop} {v : Value} {l : List (Nat × Nat)} (h : OwnK W lo v l) (hX : ∀ g, v.ownBlock = some g → ¬ X g) : Far lo X W (fun W => Pks W v l) :=
 (own_far h.1 hX).imp fun _ h2 => OwnK.pks (base := lo) ⟨h2, h.2⟩
theorem Pks.words {W : World} {v : Value} {l : List (Nat × Nat)} (h : Pks W v l) : ∀ p ∈ l, p.1 < M256 ∧ p.2 < M256 := by
 intro p hp
 obtain ⟨i, hi, rfl⟩ := List.getElem_of_mem hp
 obtain ⟨A, c, rfl, _, _⟩ := h.len
 obtain ⟨_, _, _, _, h1, h2⟩ := h.at i hi
 have e : l.getD i (0, 0) = l[i] := by simp [List.getD, hi]
 rw [e] at h1 h2
 exact ⟨h1, h2⟩
set_option maxRecDepth 100000 in
theorem results_ac {fn : Func} {p : Tmp} (h : fn.results = #[.cell p 79]) (tmps : Array Value) (w : World) (g : Nat) (a : Ac) (u v : Value) (hp : tmps.getD p undef = .pointer (some ⟨g, 0, none⟩)) (hg : Ab w g a u v) : (results fn tmps).run Tryz.prog w = .ok (.agg (acc a u v)) w :=
 results_cell_row h tmps w g 79 (acc a u v) (0, 0) _ hp hg Tryz.underlying79 rfl acinfo
end Go.Proofs.YtnjpdchmdimaaaaGreat
