/- Package state: accounts in memory; empty. -/
import Derived.Test.YtmojbekihbmdfaaPka
import Derived.Test.YtmojbekihbmdfaaInw
import Derived.Test.YtmojbekihbmdfaaFar
import Derived.Test.YtmojbekihbmdfaaLbe
import Derived.Test.YtmojbekihbmdfaaWtx
import Derived.IntWalk
import Derived.Outline
namespace Go.Proofs.Ytmojbekihbmdfaa
open Go.ChangeShapes Go.WideShapes Go.ChangeAt Go.RowKit Go.Shelf

/-! ### Slots -/
/-- The cells of a slot: its key, what it holds. -/
def pkc (p : Nat × Nat) : Array Value := #[lv (lb p.1 0), lv (lb p.1 1), lv (lb p.1 2), lv (lb p.1 3), lv (lb p.2 0), lv (lb p.2 1), lv (lb p.2 2), lv (lb p.2 3)]
set_option maxRecDepth 100000 in
theorem pkc_one (p : Nat × Nat) : (pkc p).all (·.oneCell') = true := by simp [pkc, lv, Value.oneCell']
/-- The cells cs read as the slot p. -/
def PkR (cs : List Value) (p : Nat × Nat) : Prop := p.1 < M256 ∧ p.2 < M256 ∧ cs = (pkc p).toList
/-- The slice v reads as the slots l. -/
def Pks (W : World) (v : Value) (l : List (Nat × Nat)) : Prop := Sl W 8 PkR v l
set_option maxRecDepth 100000 in
theorem Pks.ext {W W' : World} {v : Value} {l : List (Nat × Nat)} (h : Pks W v l) (he : Ext W W') : Pks W' v l := Sl.mono h (fun _ _ hc => he.cell hc) fun _ _ h => h
set_option maxRecDepth 100000 in
theorem Pks.len {W : World} {v : Value} {l : List (Nat × Nat)} (h : Pks W v l) : ∃ A c, v = .slice A l.length c ∧ l.length ≤ c ∧ c ≤ maxLen := by
  obtain ⟨A, c, e, h1, h2, _⟩ := h
  exact ⟨A, c, e, h1, h2⟩
set_option maxRecDepth 100000 in
theorem Pks.at {W : World} {A : Option Addr} {n c : Nat} {l : List (Nat × Nat)} (h : Pks W (.slice A n c) l) (i : Nat) (hi : i < l.length) : ∃ b o, A = some ⟨b, o, none⟩ ∧ W.rangeAt b (o + i * 8) (pkc (l.getD i (0, 0))).toList ∧ (l.getD i (0, 0)).1 < M256 ∧ (l.getD i (0, 0)).2 < M256 := by
  obtain ⟨A', c', e, _, _, h3⟩ := h
  injection e with e1 e2 e3
  subst e1
  obtain ⟨b, o, rfl, hc⟩ := h3 (by omega)
  obtain ⟨cs, _, ⟨k0, k1, rfl⟩, k3⟩ := hc i _ (List.getElem?_eq_getElem hi)
  have e : l.getD i (0, 0) = l[i] := by simp [List.getD, List.getElem?_eq_getElem hi]
  rw [e]
  exact ⟨b, o, rfl, k3, k0, k1⟩
set_option maxRecDepth 100000 in
theorem pkinfo : (Try.prog.info? 33).map (·.size) = some 8 := by kernel_rfl
set_option maxRecDepth 100000 in
theorem pkinfo3 : (Try.prog.info? 33).map (fun i => (i.zero, i.size, i.bytes)) = some (some (.agg (pkc (0, 0))), 8, 64) := by kernel_rfl
set_option maxRecDepth 100000 in
/-- The key, the value of a slot that lies in memory. -/
theorem pk_key {W : World} {b o : Nat} {p : Nat × Nat} (h : W.rangeAt b o (pkc p).toList) : W.rangeAt b o (wc p.1).toList := fun j v hv => by
  refine h j v ?_
  have hj : j < 4 := by have := (List.getElem?_eq_some_iff.1 hv).1; simpa [wc] using this
  match j, hj with
  | 0, _ => exact hv
  | 1, _ => exact hv
  | 2, _ => exact hv
  | 3, _ => exact hv
set_option maxRecDepth 100000 in
theorem pk_val {W : World} {b o : Nat} {p : Nat × Nat} (h : W.rangeAt b o (pkc p).toList) : W.rangeAt b (o + 4) (wc p.2).toList := fun j v hv => by
  have hj : j < 4 := by have := (List.getElem?_eq_some_iff.1 hv).1; simpa [wc] using this
  have := h (4 + j) v (by
    match j, hj with
    | 0, _ => exact hv
    | 1, _ => exact hv
    | 2, _ => exact hv
    | 3, _ => exact hv)
  rwa [show o + 4 + j = o + (4 + j) by omega]
set_option maxRecDepth 100000 in
/-- A slot in the midst of a row is loaded. -/
theorem wpList_load_pair {ops : Array Oper} {rest : List Oper} {o : Oper} {a : Act} {w : World} {Q : Exit → Act → World → Prop} (hgd : Region.wanted o (yielded ops a.tmps) = true) (x : Operand) (ho : o.op = .load 33 x)
    (g k : Nat) (p : Nat × Nat) (hx : a.eval x = .pointer (some ⟨g, k, none⟩)) (hg : w.rangeAt g k (pkc p).toList) (h : wpList Try.prog ops Q rest (a.put o.dst (.agg (pkc p))) w) : wpList Try.prog ops Q (o :: rest) a w := by
  refine wpList_step fun K hK => ?_
  rw [if_pos hgd]
  refine wp_load_mid 33 x ho g k hx (pkc p).toList _ hg Try.underlying33 rfl pkinfo ?_
  exact hK _ _ h

/-! ### Accounts -/
/-- An account. -/
structure Ac where
  addr : Nat
  bal : Nat
  nonce : Nat
  code : List UInt8
  store : List (Nat × Nat)
/-- Its cells; u, v are where its bytes, its slots are. -/
def acc (a : Ac) (u v : Value) : Array Value := #[.int .u64 (a.addr : Nat), lv (lb a.bal 0), lv (lb a.bal 1), lv (lb a.bal 2), lv (lb a.bal 3), .int .u64 (a.nonce : Nat), u, v]
/-- Its numbers are such of their types. -/
def Ac.ok (a : Ac) : Prop := a.addr < 18446744073709551616 ∧ a.bal < M256 ∧ a.nonce < 18446744073709551616
def AcR (W : World) (cs : List Value) (a : Ac) : Prop := a.ok ∧ ∃ u v, cs = (acc a u v).toList ∧ Bs W u a.code ∧ Pks W v a.store
/-- The slice v reads as the accounts l. -/
def Acs (W : World) (v : Value) (l : List Ac) : Prop := Sl W 8 (AcR W) v l
set_option maxRecDepth 100000 in
theorem AcR.ext {W W' : World} {cs : List Value} {a : Ac} (h : AcR W cs a) (he : Ext W W') : AcR W' cs a := by
  obtain ⟨h0, u, v, e, h1, h2⟩ := h
  exact ⟨h0, u, v, e, h1.ext he, h2.ext he⟩
set_option maxRecDepth 100000 in
theorem Acs.ext {W W' : World} {v : Value} {l : List Ac} (h : Acs W v l) (he : Ext W W') : Acs W' v l :=
  Sl.mono h (fun _ _ hc => he.cell hc) fun _ _ h => h.ext he
set_option maxRecDepth 100000 in
theorem Acs.len {W : World} {v : Value} {l : List Ac} (h : Acs W v l) : ∃ A c, v = .slice A l.length c ∧ l.length ≤ c ∧ c ≤ maxLen := by
  obtain ⟨A, c, e, h1, h2, _⟩ := h
  exact ⟨A, c, e, h1, h2⟩
def acz : Ac := ⟨0, 0, 0, [], []⟩
set_option maxRecDepth 100000 in
theorem Acs.at {W : World} {A : Option Addr} {n c : Nat} {l : List Ac} (h : Acs W (.slice A n c) l) (i : Nat) (hi : i < l.length) : ∃ b o u v, A = some ⟨b, o, none⟩ ∧ W.rangeAt b (o + i * 8) (acc (l.getD i acz) u v).toList ∧ Bs W u (l.getD i acz).code ∧ Pks W v (l.getD i acz).store ∧ (l.getD i acz).ok := by
  obtain ⟨A', c', e, _, _, h3⟩ := h
  injection e with e1 e2 e3
  subst e1
  obtain ⟨b, o, rfl, hc⟩ := h3 (by omega)
  obtain ⟨cs, _, ⟨k0, u, v, rfl, k1, k2⟩, k3⟩ := hc i _ (List.getElem?_eq_getElem hi)
  have e : l.getD i acz = l[i] := by simp [List.getD, List.getElem?_eq_getElem hi]
  rw [e]
  exact ⟨b, o, u, v, rfl, k3, k1, k2, k0⟩
set_option maxRecDepth 100000 in
theorem acinfo : (Try.prog.info? 37).map (·.size) = some 8 := by kernel_rfl
/-- A block of an account that is nothing yet. -/
def az0 : Array Value := #[.int .u64 0, .int .u64 0, .int .u64 0, .int .u64 0, .int .u64 0, .int .u64 0, .slice none 0 0, .slice none 0 0]
set_option maxRecDepth 100000 in
theorem acinfo3 : (Try.prog.info? 37).map (fun i => (i.zero, i.size, i.bytes)) = some (some (.agg az0), 8, 96) := by kernel_rfl
set_option maxRecDepth 100000 in
theorem acc_one (a : Ac) (u v : Value) (hu : u.oneCell' = true) (hv : v.oneCell' = true) : (acc a u v).all (·.oneCell') = true := by simpa [acc, lv, Value.oneCell'] using ⟨hu, hv⟩
set_option maxRecDepth 100000 in
theorem pks_one {W : World} {u : Value} {l : List (Nat × Nat)} (h : Pks W u l) : u.oneCell' = true := by
  obtain ⟨A, c, rfl, _⟩ := h
  rfl
/-- A block that holds an account. -/
def Ab (W : World) (g : Nat) (a : Ac) (u v : Value) : Prop := Cs W g 37 (acc a u v)
set_option maxRecDepth 100000 in
theorem Ab.ext {W W' : World} {g : Nat} {a : Ac} {u v : Value} (h : Ab W g a u v) (he : Ext W W') : Ab W' g a u v := Cs.ext h he
set_option maxRecDepth 100000 in
theorem Ab.range {W : World} {g : Nat} {a : Ac} {u v : Value} (h : Ab W g a u v) : W.rangeAt g 0 (acc a u v).toList := fun j x hx => by
  rw [Nat.zero_add]
  exact Cs.cell h j x (by rwa [Array.getElem?_toList] at hx)
set_option maxRecDepth 100000 in
theorem ac_addr {W : World} {b o : Nat} {a : Ac} {u v : Value} (h : W.rangeAt b o (acc a u v).toList) : W.cell? ⟨b, o, none⟩ = some (.int .u64 (a.addr : Nat)) := h 0 _ rfl
set_option maxRecDepth 100000 in
theorem ac_nonce {W : World} {b o : Nat} {a : Ac} {u v : Value} (h : W.rangeAt b o (acc a u v).toList) : W.cell? ⟨b, o + 5, none⟩ = some (.int .u64 (a.nonce : Nat)) := h 5 _ rfl
set_option maxRecDepth 100000 in
theorem ac_code {W : World} {b o : Nat} {a : Ac} {u v : Value} (h : W.rangeAt b o (acc a u v).toList) : W.cell? ⟨b, o + 6, none⟩ = some u := h 6 _ rfl
set_option maxRecDepth 100000 in
theorem ac_store {W : World} {b o : Nat} {a : Ac} {u v : Value} (h : W.rangeAt b o (acc a u v).toList) : W.cell? ⟨b, o + 7, none⟩ = some v := h 7 _ rfl
set_option maxRecDepth 100000 in
theorem ac_bal {W : World} {b o : Nat} {a : Ac} {u v : Value} (h : W.rangeAt b o (acc a u v).toList) : W.rangeAt b (o + 1) (wc a.bal).toList := fun j x hx => by
  have hj : j < 4 := by have := (List.getElem?_eq_some_iff.1 hx).1; simpa [wc] using this
  have := h (1 + j) x (by
    match j, hj with
    | 0, _ => exact hx
    | 1, _ => exact hx
    | 2, _ => exact hx
    | 3, _ => exact hx)
  rwa [show o + 1 + j = o + (1 + j) by omega]
set_option maxRecDepth 100000 in
theorem Ab.addr {W : World} {g : Nat} {a : Ac} {u v : Value} (h : Ab W g a u v) : W.cell? ⟨g, 0, none⟩ = some (.int .u64 (a.addr : Nat)) := Cs.cell h 0 _ rfl
set_option maxRecDepth 100000 in
theorem Ab.nonce {W : World} {g : Nat} {a : Ac} {u v : Value} (h : Ab W g a u v) : W.cell? ⟨g, 5, none⟩ = some (.int .u64 (a.nonce : Nat)) := Cs.cell h 5 _ rfl
set_option maxRecDepth 100000 in
theorem Ab.code {W : World} {g : Nat} {a : Ac} {u v : Value} (h : Ab W g a u v) : W.cell? ⟨g, 6, none⟩ = some u := Cs.cell h 6 _ rfl
set_option maxRecDepth 100000 in
theorem Ab.store {W : World} {g : Nat} {a : Ac} {u v : Value} (h : Ab W g a u v) : W.cell? ⟨g, 7, none⟩ = some v := Cs.cell h 7 _ rfl
set_option maxRecDepth 100000 in
theorem Ab.bal {W : World} {g : Nat} {a : Ac} {u v : Value} (h : Ab W g a u v) : W.rangeAt g 1 (wc a.bal).toList := by
  have := ac_bal h.range
  rwa [Nat.zero_add] at this
set_option maxRecDepth 100000 in
/-- An account in the midst of a row is loaded. -/
theorem wpList_load_ac {ops : Array Oper} {rest : List Oper} {o : Oper} {a : Act} {w : World} {Q : Exit → Act → World → Prop} (hgd : Region.wanted o (yielded ops a.tmps) = true) (x : Operand) (ho : o.op = .load 37 x)
    (g k : Nat) (p : Ac) (u v : Value) (hx : a.eval x = .pointer (some ⟨g, k, none⟩)) (hg : w.rangeAt g k (acc p u v).toList) (h : wpList Try.prog ops Q rest (a.put o.dst (.agg (acc p u v))) w) : wpList Try.prog ops Q (o :: rest) a w := by
  refine wpList_step fun K hK => ?_
  rw [if_pos hgd]
  refine wp_load_mid 37 x ho g k hx (acc p u v).toList _ hg Try.underlying37 rfl acinfo ?_
  exact hK _ _ h
set_option maxRecDepth 100000 in
/-- An account is stored. -/
theorem wpList_store_ac {ops : Array Oper} {rest : List Oper} {o : Oper} {a : Act} {w : World} {Q : Exit → Act → World → Prop} (hgd : o.guard = none) (hd : o.dst = none) (x y : Operand) (ho : o.op = .store 37 x y)
    (g : Nat) (old : Array Value) (p : Ac) (u v : Value) (hu : u.oneCell' = true) (hv : v.oneCell' = true) (hx : a.eval x = .pointer (some ⟨g, 0, none⟩)) (hy : a.eval y = .agg (acc p u v)) (hg : Cs w g 37 old) (hold : old.size = 8)
    (h : ∀ w', Ab w' g p u v → w.grownBy w' (some g) → wpList Try.prog ops Q rest a w') : wpList Try.prog ops Q (o :: rest) a w := by
  have h' : ∀ w', Ab w' g p u v → w.grownBy w' (some g) → wpList Try.prog ops Q rest (a.put o.dst undef) w' := by rw [hd]; exact h
  refine wpList_store_row hgd 37 x y ho g (acc p u v) hx hy 37 old hg acinfo hold (acc_one p u v hu hv) (h' _ ?_ ?_)
  · exact setRow_heap w g _ _ 37 (0, 0) hg
  · exact ⟨rfl, rfl, rfl, by simp [World.setRow], fun k _ hk => setRow_other w g k _ (fun e => hk (by simp [e]))⟩

/-! ### empty -/
def Ac.emptyB (a : Ac) : Bool := decide (a.bal = 0) && (decide (a.nonce = 0) && (decide (a.code.length = 0) && decide (a.store.length = 0)))
set_option maxRecDepth 100000 in
set_option maxHeartbeats 1000000 in
theorem empty_any (a : Ac) (u v : Value) (w : World) (hok : a.ok) (hu : Bs w u a.code) (hv : Pks w v a.store) : Calls Try.prog 49 #[.agg (acc a u v)] w fun e w' => e = .returned (.bool a.emptyB) ∧ Ext w w' := by
  have HK : Hid (Ab (w.alloc (.cells (acc a u v) 37)) w.heap.size a u v) := Lib.hid (Cs.new _ _ _ _ rfl)
  have HE := Lib.hid ((Ext.refl w).alloc (.cells (acc a u v) 37))
  have hc5 := HK.out.nonce
  have hc6 := HK.out.code
  have hc7 := HK.out.store
  have HM : Hid (a.emptyB = (decide (a.bal = 0) && (decide (a.nonce = 0) && (decide (a.code.length = 0) && decide (a.store.length = 0))))) := Lib.hid rfl
  obtain ⟨A, c, rfl, h1, h2, _⟩ := hu
  obtain ⟨A2, c2, rfl, h3, h4⟩ := hv.len
  unfold maxLen at h2 h4
  obtain ⟨o1, o2, o3⟩ := hok
  have HW := Lib.hid o2
  have HWI := Lib.hid HK.out.bal
  obtain ⟨cs, hcs⟩ : ∃ cs, acc a (.slice A a.code.length c) (.slice A2 a.store.length c2) = cs := ⟨_, rfl⟩
  have HCS := Lib.hid hcs
  rw [hcs] at hc5 hc6 hc7 HE HWI HK
  rw [hcs]
  clear hcs o2
  obtain ⟨addr, bal, nonce, code, store⟩ := a
  dsimp only at *
  have hbz : (bal == 0) = decide (bal = 0) := by by_cases h : bal = 0 <;> simp [h]
  go_enter Try.func49, Try.ntmps49
  by_cases e1 : bal = 0
  · have hb0 : (bal == 0) = true := by simp [e1]
    have HB := Lib.hid e1
    clear e1 hbz
    by_cases e2 : nonce = 0
    · have hn1 : ((nonce : Int) == 0) = true := by simp [e2]
      have hn2 : (nonce == 0) = true := by simp [e2]
      have HN := Lib.hid e2
      clear e2
      by_cases e3 : code.length = 0
      · have hl1 : ((code.length : Int) == 0) = true := by simp [e3]
        have hl2 : (code.length == 0) = true := by simp [e3]
        have HL := Lib.hid e3
        clear e3
        by_cases e4 : store.length = 0
        · have hs1 : ((store.length : Int) == 0) = true := by simp [e4]
          have hs2 : (store.length == 0) = true := by simp [e4]
          have HS := Lib.hid e4
          clear e4
          go_wp2_with (first
            | ((with_reducible refine wpList_load_wordIn ?_ (.tmp 3) ?_ w.heap.size 1 bal ?_ ?_ ?_); (exact rfl); (exact rfl); (exact rfl); (exact HWI.out))
            | ((with_reducible refine wpList_eql_word ?_ (.tmp 4) (.tmp 5) ?_ bal 0 HW.out (by decide) ?_ ?_ ?_); (exact rfl); (exact rfl); (exact rfl); (exact rfl); rw [hb0]))
          go_ret
          exact ⟨by rw [HM.out]; simp [HB.out, HN.out, HL.out, HS.out], HE.out⟩
        · have hs1 : ((store.length : Int) == 0) = false := by simp [e4]
          have hs2 : (store.length == 0) = false := by simp [e4]
          have HS := Lib.hid e4
          clear e4
          go_wp2_with (first
            | ((with_reducible refine wpList_load_wordIn ?_ (.tmp 3) ?_ w.heap.size 1 bal ?_ ?_ ?_); (exact rfl); (exact rfl); (exact rfl); (exact HWI.out))
            | ((with_reducible refine wpList_eql_word ?_ (.tmp 4) (.tmp 5) ?_ bal 0 HW.out (by decide) ?_ ?_ ?_); (exact rfl); (exact rfl); (exact rfl); (exact rfl); rw [hb0]))
          go_ret
          exact ⟨by rw [HM.out]; simp [HS.out], HE.out⟩
      · have hl1 : ((code.length : Int) == 0) = false := by simp [e3]
        have hl2 : (code.length == 0) = false := by simp [e3]
        have HL := Lib.hid e3
        clear e3
        go_wp2_with (first
          | ((with_reducible refine wpList_load_wordIn ?_ (.tmp 3) ?_ w.heap.size 1 bal ?_ ?_ ?_); (exact rfl); (exact rfl); (exact rfl); (exact HWI.out))
          | ((with_reducible refine wpList_eql_word ?_ (.tmp 4) (.tmp 5) ?_ bal 0 HW.out (by decide) ?_ ?_ ?_); (exact rfl); (exact rfl); (exact rfl); (exact rfl); rw [hb0]))
        go_ret
        exact ⟨by rw [HM.out]; simp [HL.out], HE.out⟩
    · have hn1 : ((nonce : Int) == 0) = false := by simp; omega
      have hn2 : (nonce == 0) = false := by simpa using e2
      have HN := Lib.hid e2
      clear e2
      go_wp2_with (first
        | ((with_reducible refine wpList_load_wordIn ?_ (.tmp 3) ?_ w.heap.size 1 bal ?_ ?_ ?_); (exact rfl); (exact rfl); (exact rfl); (exact HWI.out))
        | ((with_reducible refine wpList_eql_word ?_ (.tmp 4) (.tmp 5) ?_ bal 0 HW.out (by decide) ?_ ?_ ?_); (exact rfl); (exact rfl); (exact rfl); (exact rfl); rw [hb0]))
      go_ret
      exact ⟨by rw [HM.out]; simp [HN.out], HE.out⟩
  · have hb0 : (bal == 0) = false := by simpa using e1
    have HB := Lib.hid e1
    clear e1 hbz
    go_wp2_with (first
      | ((with_reducible refine wpList_load_wordIn ?_ (.tmp 3) ?_ w.heap.size 1 bal ?_ ?_ ?_); (exact rfl); (exact rfl); (exact rfl); (exact HWI.out))
      | ((with_reducible refine wpList_eql_word ?_ (.tmp 4) (.tmp 5) ?_ bal 0 HW.out (by decide) ?_ ?_ ?_); (exact rfl); (exact rfl); (exact rfl); (exact rfl); rw [hb0]))
    go_ret
    exact ⟨by rw [HM.out]; simp [HB.out], HE.out⟩
end Go.Proofs.Ytmojbekihbmdfaa
