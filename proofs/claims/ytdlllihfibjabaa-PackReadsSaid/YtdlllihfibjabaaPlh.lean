/- The document's own answers of layer 4: what its Read answers, as plain mathematics. The document's own answers of layer 4: Read. -/
import Derived.Test.YtdlllihfibjabaaPld
import Derived.Test.YtdlllihfibjabaaRcd
namespace Go.Proofs.Ytdlllihfibjabaa
open Go.RowKit Go.Shelf

/-- One part of the document's Read: the bytes, where the next tail begins. -/
def rfP (b : List UInt8) (lg : Bool) (hd at_ : Nat) : Option (Pt × Nat) :=
  if lg then
    if hd = at_ ∧ at_ + 32 ≤ b.length ∧ beN ((b.drop at_).take 32) ≤ 200 ∧ at_ + 32 + beN ((b.drop at_).take 32) ≤ b.length then
      some ((true, 0, (b.drop (at_ + 32)).take (beN ((b.drop at_).take 32))), at_ + (32 + flN (beN ((b.drop at_).take 32))))
    else none
  else some ((false, hd, []), at_)
/-- The first k parts, and where the next tail begins. -/
def rfS (b : List UInt8) (ls : List Bool) : Nat → Option (List Pt × Nat)
  | 0 => if 32 * ls.length ≤ b.length then some ([], 32 * ls.length) else none
  | k + 1 => (rfS b ls k).bind fun s => (rfP b (ls.getD k false) (beN (chk b k)) s.2).map fun q => (s.1 ++ [q.1], q.2)
/-- What the document's Read answers. -/
def rfE (b : List UInt8) (ls : List Bool) : Option (List Pt) := (rfS b ls ls.length).bind fun s => if layL s.1 = b then some s.1 else none
set_option maxRecDepth 100000 in
theorem rfS_step (b : List UInt8) (ls : List Bool) (k : Nat) (ps : List Pt) (at_ : Nat) (h : rfS b ls k = some (ps, at_)) : rfS b ls (k + 1) = (rfP b (ls.getD k false) (beN (chk b k)) at_).map fun q => (ps ++ [q.1], q.2) := by
  show (rfS b ls k).bind _ = _
  rw [h]
  rfl
set_option maxRecDepth 100000 in
theorem rfS_none (b : List UInt8) (ls : List Bool) (k : Nat) (h : rfS b ls k = none) : ∀ m, k ≤ m → rfS b ls m = none := by
  intro m
  induction m with
  | zero => intro hm; obtain rfl : k = 0 := by omega
            exact h
  | succ m ih =>
    intro hm
    by_cases e : k = m + 1
    · rw [← e]; exact h
    · show (rfS b ls m).bind _ = _
      rw [ih (by omega)]
      rfl
set_option maxRecDepth 100000 in
theorem rfE_none (b : List UInt8) (ls : List Bool) (k : Nat) (hk : k ≤ ls.length) (h : rfS b ls k = none) : rfE b ls = none := by
  unfold rfE
  rw [rfS_none b ls k h _ hk]
  rfl
structure RfI (b : List UInt8) (ls : List Bool) (k : Nat) (ps : List Pt) (at_ : Nat) : Prop where
  len : ps.length = k
  form : ps.map (·.1) = ls.take k
  may : ∀ p ∈ ps, mayB p = true
  word : ∀ p ∈ ps, p.2.1 < M256
  big : 32 * ls.length ≤ b.length
  at_ : at_ = 32 * ls.length + tlS ps k
set_option maxRecDepth 100000 in
theorem tlS_snoc (ps : List Pt) (p : Pt) : tlS (ps ++ [p]) (ps.length + 1) = tlS ps ps.length + tlN p := by
  unfold tlS
  rw [List.take_of_length_le (by simp), List.take_length, List.map_append, List.sum_append]
  simp
set_option maxRecDepth 100000 in
theorem rfS_is (b : List UInt8) (ls : List Bool) (k : Nat) (hk : k ≤ ls.length) : ∀ ps at_, rfS b ls k = some (ps, at_) → RfI b ls k ps at_ := by
  induction k with
  | zero =>
    intro ps at_ h
    unfold rfS at h
    split at h
    · rename_i hb
      simp only [Option.some.injEq, Prod.mk.injEq] at h
      obtain ⟨rfl, rfl⟩ := h
      exact ⟨rfl, rfl, by simp, by simp, hb, by simp [tlS]⟩
    · cases h
  | succ k ih =>
    intro ps at_ h
    obtain ⟨⟨ps0, at0⟩, h0, h⟩ := Option.bind_eq_some_iff.1 h
    obtain ⟨⟨p, at1⟩, h1, h⟩ := Option.map_eq_some_iff.1 h
    simp only [Prod.mk.injEq] at h
    obtain ⟨rfl, rfl⟩ := h
    have I := ih (by omega) _ _ h0
    have hls : ls.take (k + 1) = ls.take k ++ [ls.getD k false] := by
      rw [List.take_succ_eq_append_getElem (show k < ls.length by omega)]
      simp [List.getD, show k < ls.length by omega]
    have hch : beN (chk b k) < M256 := beN_lt256 _ (by rw [chk_len b k (by have := I.big; omega)]; omega)
    have hk0 := I.len
    subst hk0
    dsimp only at h1
    unfold rfP at h1
    cases hl : ls.getD ps0.length false with
    | true =>
      rw [hl, if_pos rfl] at h1
      split at h1
      · rename_i hc
        obtain ⟨g1, g2, g3, g4⟩ := hc
        simp only [Option.some.injEq, Prod.mk.injEq] at h1
        obtain ⟨rfl, rfl⟩ := h1
        have hdl : ((b.drop (at0 + 32)).take (beN ((b.drop at0).take 32))).length = beN ((b.drop at0).take 32) := by rw [List.length_take, List.length_drop]; omega
        refine ⟨by simp, by rw [List.map_append, I.form, hls, hl]; rfl, fun p hp => ?_, fun p hp => ?_, I.big, ?_⟩
        · rcases List.mem_append.1 hp with hp | hp
          · exact I.may p hp
          · simp only [List.mem_singleton] at hp
            subst hp
            unfold mayB
            simp only [if_true, hdl]
            simp [g3]
        · rcases List.mem_append.1 hp with hp | hp
          · exact I.word p hp
          · simp only [List.mem_singleton] at hp
            subst hp
            exact (by decide : (0 : Nat) < M256)
        · rw [tlS_snoc]
          unfold tlN
          simp only [if_true, hdl]
          have := I.at_
          omega
      · cases h1
    | false =>
      rw [hl, if_neg (by simp)] at h1
      simp only [Option.some.injEq, Prod.mk.injEq] at h1
      obtain ⟨rfl, rfl⟩ := h1
      refine ⟨by simp, by rw [List.map_append, I.form, hls, hl]; rfl, fun p hp => ?_, fun p hp => ?_, I.big, ?_⟩
      · rcases List.mem_append.1 hp with hp | hp
        · exact I.may p hp
        · simp only [List.mem_singleton] at hp
          subst hp
          rfl
      · rcases List.mem_append.1 hp with hp | hp
        · exact I.word p hp
        · simp only [List.mem_singleton] at hp
          subst hp
          exact hch
      · rw [tlS_snoc, I.at_]
        simp [tlN]
set_option maxRecDepth 100000 in
theorem rfE_is (b : List UInt8) (ls : List Bool) (hl : ls.length ≤ 16) (ps : List Pt) (h : rfE b ls = some ps) : rdE b ls = some ps := by
  unfold rfE at h
  obtain ⟨⟨ps0, at0⟩, h0, h⟩ := Option.bind_eq_some_iff.1 h
  dsimp only at h
  split at h
  · rename_i hb
    simp only [Option.some.injEq] at h
    subst h
    have I := rfS_is b ls _ (Nat.le_refl _) _ _ h0
    have := rdE_of ps0 (errP_of _ (by have := I.len; omega) I.may) I.word
    rw [hb, I.form, List.take_length] at this
    exact this
  · cases h
set_option maxRecDepth 100000 in
theorem rfS_of (l : List Pt) (h : errP l = 0) (hw : ∀ p ∈ l, p.2.1 < M256) (k : Nat) (hk : k ≤ l.length) : rfS (layL l) (l.map (·.1)) k = some (l.take k, 32 * l.length + tlS l k) := by
  have hle := layL_len l h
  induction k with
  | zero =>
    unfold rfS
    rw [List.length_map, if_pos (by omega)]
    simp [tlS]
  | succ k ih =>
    have hkl : k < l.length := by omega
    have hgd : l.getD k (false, 0, []) = l[k] := by simp [List.getD, hkl]
    have hts := tlS_le l h k (by omega)
    have hn := errP_len l h
    have hmk : mayB l[k] = true := by rw [← hgd]; exact errP_all l h k hkl
    have hwk := hw l[k] (List.getElem_mem hkl)
    have hch := layL_chk l h k hkl
    unfold hdV at hch
    rw [hgd] at hch
    have hnx := tlS_next l k hkl
    rw [hgd] at hnx
    have hb : (l.map (·.1)).getD k false = l[k].1 := by simp [List.getD, hkl]
    have hsp : l.drop k = l[k] :: l.drop (k + 1) := List.drop_eq_getElem_cons hkl
    have hdr : (layL l).drop (32 * l.length + tlS l k) = tlL l[k] ++ tlA (l.drop (k + 1)) := by
      rw [← List.drop_drop, layL_drop l h]
      have e1 : tlA l = tlA (l.take k) ++ tlA (l.drop k) := by rw [← tlA_app, List.take_append_drop]
      rw [e1, List.drop_append_of_le_length (by rw [tlA_len]; exact Nat.le_refl _), List.drop_of_length_le (by rw [tlA_len]; exact Nat.le_refl _), List.nil_append, hsp, tlA_cons]
    have hsum : tlS l k + tlN l[k] + (tlA (l.drop (k + 1))).length = tlS l l.length := by
      have e2 : (tlA l).length = tlS l l.length := by have := tlA_len l l.length; rwa [List.take_length] at this
      have e1 : tlA l = tlA (l.take k) ++ (tlL l[k] ++ tlA (l.drop (k + 1))) := by rw [← tlA_cons, ← hsp, ← tlA_app, List.take_append_drop]
      rw [e1] at e2
      rw [List.length_append, List.length_append, tlA_len, tlL_len] at e2
      omega
    rw [rfS_step _ _ _ _ _ (ih (by omega)), hb, List.take_succ_eq_append_getElem hkl, hnx]
    generalize l[k] = p at *
    obtain ⟨lg, n, d⟩ := p
    dsimp only at *
    unfold rfP
    cases lg with
    | true =>
      have hd := mayB_data _ hmk
      have h0 : n = 0 := by unfold mayB at hmk; simp at hmk; exact hmk.1
      subst h0
      simp only at hd
      rw [if_pos ⟨rfl, hkl⟩] at hch
      rw [hch, beN_nbL _ (by omega), if_pos rfl]
      have ht : tlL (true, 0, d) = nbL d.length ++ (d ++ List.replicate (flN d.length - d.length) 0) := by simp [tlL]
      have htn : tlN (true, 0, d) = 32 + flN d.length := rfl
      have hfl : d.length ≤ flN d.length := by unfold flN; omega
      have e1 : ((layL l).drop (32 * l.length + tlS l k)).take 32 = nbL d.length := by
        rw [hdr, ht, List.append_assoc, List.take_append_of_le_length (by rw [nbL_len]; omega), List.take_of_length_le (by rw [nbL_len]; omega)]
      have e2 : ((layL l).drop (32 * l.length + tlS l k + 32)).take d.length = d := by
        rw [← List.drop_drop, hdr, ht, List.append_assoc, List.drop_append_of_le_length (by rw [nbL_len]; omega), List.drop_of_length_le (by rw [nbL_len]; omega), List.nil_append, List.append_assoc, List.take_append_of_le_length (Nat.le_refl _), List.take_length]
      rw [e1, beN_nbL _ (by omega), e2, if_pos ⟨rfl, by omega, hd, by omega⟩]
      simp only [Option.map_some, htn]
      congr 2
      omega
    | false =>
      rw [if_neg (by simp)] at hch
      rw [hch, beN_bytL _ hwk, if_neg (by simp)]
      have hd : d = [] := by unfold mayB at hmk; simpa using hmk
      subst hd
      simp [tlN]
set_option maxRecDepth 100000 in
theorem rfE_of (b : List UInt8) (ls : List Bool) (hl : ls.length ≤ 16) (ps : List Pt) (h : rdE b ls = some ps) : rfE b ls = some ps := by
  obtain ⟨h1, h2, h3, h4⟩ := rdE_is b ls hl ps h
  have := rfS_of ps h1 h4 ps.length (Nat.le_refl _)
  rw [h2, h3, List.take_length] at this
  unfold rfE
  have hl : ls.length = ps.length := by rw [← h3, List.length_map]
  rw [hl, this]
  exact if_pos h2
set_option maxRecDepth 100000 in
theorem rfE_eq (b : List UInt8) (ls : List Bool) (hl : ls.length ≤ 16) : rfE b ls = rdE b ls := by
  cases h : rdE b ls with
  | some ps => exact rfE_of b ls hl ps h
  | none =>
    cases h2 : rfE b ls with
    | none => rfl
    | some ps =>
      rw [rfE_is b ls hl ps h2] at h
      cases h
end Go.Proofs.Ytdlllihfibjabaa
namespace Go.Proofs.Ytdlllihfibjabaa
open Go.RowKit Go.Shelf

set_option maxRecDepth 100000 in
theorem chk_in2 (b : List UInt8) (k : Nat) : (b.take (32 * k + 32)).drop (32 * k) = chk b k := by
  unfold chk
  rw [List.drop_take]
  congr 1
  omega
set_option maxRecDepth 100000 in
theorem sub_in (b : List UInt8) (a z : Nat) : (b.take (a + z)).drop a = (b.drop a).take z := by
  rw [List.drop_take]
  congr 1
  omega
/-- What the document's Read answers. -/
def RetRr (w : World) (b : List UInt8) (ls : List Bool) (e : Ending) (w' : World) : Prop := ∃ v, e = .returned (.tuple #[v, .bool (rdE b ls).isSome]) ∧ Far w.heap.size No w' (fun W => Pts W v ((rdE b ls).getD [])) ∧ Ext w w'
set_option maxRecDepth 100000 in
theorem RetRr.no {w : World} {b : List UInt8} {ls : List Bool} {w' : World} {e : Ending} (hl : ls.length ≤ 16) (h : rfE b ls = none) (he : e = .returned (.tuple #[.slice none 0 0, .bool false])) (hw : Ext w w') : RetRr w b ls e w' := by
  unfold RetRr
  rw [← rfE_eq b ls hl, h]
  exact ⟨_, he, Far.true _ _ _ fun W => Pts.nil W, hw⟩
set_option maxRecDepth 100000 in
theorem RetRr.yes {w : World} {b : List UInt8} {ls : List Bool} {w' : World} {e : Ending} {ps : List Pt} {v : Value} (hl : ls.length ≤ 16) (h : rfE b ls = some ps) (he : e = .returned (.tuple #[v, .bool true])) (hf : Far w.heap.size No w' (fun W => Pts W v ps)) (hw : Ext w w') : RetRr w b ls e w' := by
  unfold RetRr
  rw [← rfE_eq b ls hl, h]
  exact ⟨_, he, hf, hw⟩
set_option maxRecDepth 100000 in
theorem rfP_no1 (b : List UInt8) (hd at_ : Nat) (h : ¬ (hd = at_ ∧ at_ + 32 ≤ b.length ∧ beN ((b.drop at_).take 32) ≤ 200 ∧ at_ + 32 + beN ((b.drop at_).take 32) ≤ b.length)) : rfP b true hd at_ = none := by
  unfold rfP
  rw [if_pos rfl, if_neg h]
set_option maxRecDepth 100000 in
theorem rfP_yes (b : List UInt8) (hd at_ : Nat) (h : hd = at_ ∧ at_ + 32 ≤ b.length ∧ beN ((b.drop at_).take 32) ≤ 200 ∧ at_ + 32 + beN ((b.drop at_).take 32) ≤ b.length) : rfP b true hd at_ = some ((true, 0, (b.drop (at_ + 32)).take (beN ((b.drop at_).take 32))), at_ + (32 + flN (beN ((b.drop at_).take 32)))) := by
  unfold rfP
  rw [if_pos rfl, if_pos h]
set_option maxRecDepth 100000 in
theorem wv_lit (a : Nat) (ha : a < 18446744073709551616) : Value.agg #[.int .u64 (a : Nat), .int .u64 0, .int .u64 0, .int .u64 0] = wv a := by unfold wv; rw [wc_small a ha]
set_option maxRecDepth 100000 in
theorem refCmp200_any (n : Nat) (w : World) (hn : n < M256) : Calls Try.prog 72 #[wv n, .agg #[.int .u64 200, .int .u64 0, .int .u64 0, .int .u64 0]] w fun e w' => e = .returned (.int .i64 (cmpN n 200)) ∧ Ext w w' :=
  refCmp_any n 200 w hn (by decide)
def RrJ (w : World) (b : List UInt8) (ls : List Bool) (k at_ : Nat) (v : Value) (W : World) : Prop := ∃ ps, rfS b ls k = some (ps, at_) ∧ FewJ w ps v W
set_option maxRecDepth 100000 in
set_option maxHeartbeats 400000 in
theorem refReadP_any (v1 v2 : Value) (b : List UInt8) (ls : List Bool) (w : World) (h1 : Bs w v1 b) (h2 : Bls w v2 ls) (_hbl : b.length ≤ 1000000000) (hls : ls.length ≤ 16) : Calls Try.prog 26 #[v1, v2] w (RetRr w b ls) := by
  have H1 := Lib.hid h1
  have H2 := Lib.hid h2
  obtain ⟨A1, c1, rfl, k1, k2, k3⟩ := h1
  clear k3
  obtain ⟨A2, c2, rfl, k4, k5⟩ := h2.len
  unfold maxLen at k2 k5
  clear h2
  obtain ⟨sz, hsz⟩ : ∃ sz, 32 * ls.length = sz := ⟨_, rfl⟩
  have HSZ := Lib.hid hsz
  have hq : IntKind.i64.wrap (32 * (ls.length : Int)) = (sz : Int) := by rw [IntWalk.i64_in _ (by omega)]; omega
  have hszb : (sz : Int) ≤ 512 := by omega
  have HL16 := Lib.hid hls
  clear hsz
  by_cases hsb : sz ≤ b.length
  · have hd0 : decide ((b.length : Int) < (sz : Int)) = false := decide_eq_false (by omega)
    have hd1 : decide (b.length < sz) = false := decide_eq_false (by omega)
    go_enter Try.func26, Try.ntmps26
    go_wp2_with fail
    have HJ0 : Hid (RrJ w b ls 0 sz (.slice none 0 0) w) := Lib.hid ⟨[], by unfold rfS; rw [HSZ.out, if_pos hsb], RowO.nil _ _ _ _ _ _, Ext.refl _⟩
    go_loopw [6, 7, 23] (fun v a u wr => ∃ k at_ : Nat, k ≤ ls.length ∧ u = .int .i64 k ∧ a = .int .i64 at_ ∧ Hid (RrJ w b ls k at_ v wr)) (fun _ _ u _ => ls.length - (intOf u).toNat)
    case atStart => exact ⟨0, sz, by omega, rfl, rfl, HJ0⟩
    case round =>
      clear HJ0
      obtain ⟨k, at_, hk, rfl, rfl, HJ⟩ := hrel
      obtain ⟨ps, hr, hm⟩ := HJ.out
      have HM := Lib.hid hm
      have HR := Lib.hid hr
      have I := rfS_is b ls k hk ps at_ hr
      have HPL := Lib.hid I.len
      have HEP := Lib.hid (errP_of ps (by have := I.len; omega) I.may)
      have HTB := Lib.hid (show at_ ≤ 10000 by
        have h1 := I.at_
        have h2 := tlS_le ps (errP_of ps (by have := I.len; omega) I.may) k (by rw [I.len]; exact Nat.le_refl _)
        omega)
      clear hr hm HJ I
      have hatb : (at_ : Int) ≤ 10000 := by have := HTB.out; omega
      by_cases hlt : k < ls.length
      · have hdk : decide (k < ls.length) = true := decide_eq_true hlt
        have HST := Lib.hid (rfS_step b ls k ps at_ HR.out)
        have HNN := Lib.hid (fun h => rfE_none b ls (k + 1) hlt h)
        obtain ⟨bb, oo, rfl, hcb⟩ := (H2.out.ext HM.out.toExt).at k hlt
        have hkk : k ≤ 16 := by omega
        have HCL := Lib.hid (show (chk b k).length = 32 from chk_len b k (by have := HSZ.out; omega))
        have HHB := Lib.hid (show beN (chk b k) < M256 from beN_lt256 _ (by have := HCL.out; omega))
        obtain ⟨lo, hlo⟩ : ∃ lo, 32 * k = lo := ⟨_, rfl⟩
        have HLO := Lib.hid hlo
        have hw1 : IntKind.i64.wrap (32 * (k : Int)) = (lo : Int) := by rw [IntWalk.i64_in _ (by omega)]; omega
        obtain ⟨hi, hhi⟩ : ∃ hi, lo + 32 = hi := ⟨_, rfl⟩
        have hw2 : IntKind.i64.wrap ((lo : Int) + 32) = (hi : Int) := by rw [IntWalk.i64_in _ (by omega)]; omega
        have hhib : hi ≤ b.length := by have := HSZ.out; omega
        have HS1 := Lib.hid (show (b.take hi).drop lo = chk b k by rw [← hhi, ← hlo]; exact chk_in2 b k)
        have HBS := Lib.hid (H1.out.sliced lo hi (by omega) hhib)
        obtain ⟨A3, h3⟩ := sliced_is A1 lo hi c1 1
        rw [h3, HS1.out, show hi - lo = 32 by omega] at HBS
        rw [show hi - lo = 32 by omega] at h3
        have H3 := Lib.hid h3
        have hle : lo ≤ hi := by omega
        have hloc : hi ≤ c1 := by omega
        clear h3 hlo hhi
        generalize ls.getD k false = lg at *
        generalize chk b k = cb at *
        go_wp2_with (((with_reducible refine wpList_slice_both ?_ 28 5 (.tmp 28) (.tmp 30) (.tmp 33) ?_ Try.underlying28 u8size A1 b.length c1 lo hi .i64 .i64 ?_ ?_ ?_ hle hloc ?_); (exact rfl); (exact rfl); (exact rfl); (exact rfl); (exact rfl); rw [H3.out]))
        refine (refRead_any _ cb _ (HBS.out.ext HM.out.toExt) (by have := HCL.out; omega)).mono ?_
        rintro e w2 ⟨rfl, he2⟩
        have HM2 := Lib.hid (HM.out.ext he2)
        clear he2 HM HS1 HBS H3 HCL
        generalize beN cb = hd at *
        cases lg with
        | false =>
          have HSN := Lib.hid (show rfS b ls (k + 1) = some (ps ++ [(false, hd, [])], at_) by rw [HST.out]; rfl)
          have HVB := Lib.hid (show ∀ g, u6.ownBlock = some g → g < w2.heap.size from fun g hg => (HM2.out.row.lt g hg).2)
          have HLO2 := Lib.hid HM2.out.toExt.size
          clear HST
          go_wp2_with (first
            | ((with_reducible refine wpList_store_word ?_ ?_ 46 (.tmp 10) (.tmp 35) ?_ winfo w2.heap.size (wc 0) hd ?_ ?_ ?_ ?_ ?_); (exact rfl); (exact rfl); (exact rfl); (exact rfl); (exact rfl); (exact Cs.new _ _ _ _ rfl); (exact rfl); intro w6 k6 g6; have K6 := Lib.hid k6; have HM6 := Lib.hid (HM2.out.new g6); have HE6 := Lib.hid (((Ext.refl w2).alloc (.cells (wc 0) 46)).grown g6 (Nat.le_refl _)); clear k6 g6)
            | ((with_reducible refine wpList_load_word ?_ 46 44 (.tmp 10) ?_ Try.underlying46 winfo w2.heap.size hd ?_ ?_ ?_); (exact rfl); (exact rfl); (exact rfl); (exact K6.out); (unfold wv wc))
            | ((with_reducible refine wpList_build_one ?_ (.tmp 40) 24 48 ?_ Try.underlying24 (.agg pz) 6 64 pinfo3 (by decide) (by decide) (ptc (false, hd, []) (.slice none 0 0)) rfl ?_ ?_); (exact rfl); (exact rfl); (exact rfl))
            | (at_builtin; go_loud ((with_reducible refine wpList_append_one ?_ (.tmp 38) (.tmp 41) 24 ?_ w.heap.size 48 Try.underlying24 (.agg pz) 6 64 pinfo3 rfl (by decide) PtR No u6 ps ?_ (HM6.out.row.ext ((Ext.refl w6).alloc (.cells (ptc (false, hd, []) (.slice none 0 0)) 48))) w6.heap.size (ptc (false, hd, []) (.slice none 0 0)).toList (false, hd, []) ?_ ?_ ?_ ?_ ?_ ?_ (by decide) ?_ ?_); (exact rfl); (exact rfl); (exact rfl); (exact rfl); (exact rfl); (exact heap_alloc_new w6 (.cells (ptc (false, hd, []) (.slice none 0 0)) 48)); (intro x hx; exact Array.all_eq_true_iff_forall_mem.1 (ptc_one (false, hd, []) (.slice none 0 0) rfl) x (by simpa using hx)); (exact (part_far (p := (false, hd, [])) (m := w2.heap.size) (e := 5) (World.ownsRow_nil _ _ _ _) HLO2.out HHB.out HVB.out)); (have := HPL.out; omega); (exact (HM6.out.toExt.alloc _).size); intro v9 w9 h9 g9' _; have HM9 := Lib.hid ((HM6.out.ext ((Ext.refl w6).alloc _)).more h9 g9'); clear h9 g9')))
          have HJ9 : Hid (RrJ w b ls (k + 1) at_ v9 w9) := Lib.hid ⟨_, HSN.out, HM9.out⟩
          exact ⟨⟨k + 1, at_, by omega, by go_num, rfl, HJ9⟩, by simp [intOf]; omega⟩
        | true =>
          have HAM := Lib.hid (show at_ < M256 by unfold M256; omega)
          have HWL := Lib.hid (wv_lit at_ (by omega))
          have HNP := Lib.hid (fun h => HNN.out (by rw [HST.out, rfP_no1 b hd at_ h]; rfl))
          have HYP := Lib.hid (fun h => show rfS b ls (k + 1) = some (ps ++ [(true, 0, (b.drop (at_ + 32)).take (beN ((b.drop at_).take 32)))], at_ + (32 + flN (beN ((b.drop at_).take 32)))) by rw [HST.out, rfP_yes b hd at_ h]; rfl)
          obtain ⟨at2, hat2⟩ : ∃ x, at_ + 32 = x := ⟨_, rfl⟩
          have hw3 : IntKind.i64.wrap ((at_ : Int) + 32) = (at2 : Int) := by rw [IntWalk.i64_in _ (by omega)]; omega
          have hat2b : (at2 : Int) ≤ 20000 := by omega
          clear HST HNN
          by_cases e1 : hd = at_
          · have hneb : (hd != at_) = false := by simp [e1]
            have HE1 := Lib.hid e1
            clear e1
            by_cases e2 : at2 ≤ b.length
            · have hg1 : decide ((b.length : Int) < (at2 : Int)) = false := decide_eq_false (by omega)
              have hg2 : decide (b.length < at2) = false := decide_eq_false (by omega)
              have HS5 := Lib.hid (show (b.take at2).drop at_ = (b.drop at_).take 32 by rw [← hat2]; exact sub_in b at_ 32)
              have HBS5 := Lib.hid (H1.out.sliced at_ at2 (by omega) e2)
              obtain ⟨A5, h5⟩ := sliced_is A1 at_ at2 c1 1
              rw [h5, HS5.out, show at2 - at_ = 32 by omega] at HBS5
              rw [show at2 - at_ = 32 by omega] at h5
              have H5 := Lib.hid h5
              have hle5 : at_ ≤ at2 := by omega
              have hlc5 : at2 ≤ c1 := by omega
              have HL5 := Lib.hid (show ((b.drop at_).take 32).length = 32 by rw [List.length_take, List.length_drop]; omega)
              have HNM := Lib.hid (show beN ((b.drop at_).take 32) < M256 from beN_lt256 _ (by have := HL5.out; omega))
              clear h5
              generalize hc5 : (b.drop at_).take 32 = cb5 at *
              obtain ⟨n, hn⟩ : ∃ n, beN cb5 = n := ⟨_, rfl⟩
              have HN := Lib.hid hn
              rw [hn] at HNM HNP HYP
              clear hc5 hn
              go_wp2_with (first
                | ((with_reducible refine wpList_store_word ?_ ?_ 46 (.tmp 10) (.tmp 35) ?_ winfo w2.heap.size (wc 0) hd ?_ ?_ ?_ ?_ ?_); (exact rfl); (exact rfl); (exact rfl); (exact rfl); (exact rfl); (exact Cs.new _ _ _ _ rfl); (exact rfl); intro w6 k6 g6; have K6 := Lib.hid k6; have HM6 := Lib.hid (HM2.out.new g6); clear k6 g6)
                | ((with_reducible refine wpList_load_word ?_ 46 44 (.tmp 10) ?_ Try.underlying46 winfo w2.heap.size hd ?_ ?_ ?_); (exact rfl); (exact rfl); (exact rfl); (exact K6.out))
                | ((with_reducible refine wpList_neq_word ?_ (.tmp 43) (.tmp 46) ?_ hd at_ HHB.out HAM.out ?_ ?_ ?_); (exact rfl); (exact rfl); (exact rfl); (exact HWL.out); rw [hneb])
                | ((with_reducible refine wpList_slice_both ?_ 28 5 (.tmp 55) (.tmp 56) (.tmp 58) ?_ Try.underlying28 u8size A1 b.length c1 at_ at2 .i64 .i64 ?_ ?_ ?_ hle5 hlc5 ?_); (exact rfl); (exact rfl); (exact rfl); (exact rfl); (exact rfl); rw [H5.out]))
              refine (refRead_any _ cb5 _ (HBS5.out.ext HM6.out.toExt) (by have := HL5.out; omega)).mono ?_
              rintro e w7 ⟨rfl, he7⟩
              rw [HN.out]
              have HM7 := Lib.hid (HM6.out.ext he7)
              clear he7 HM6 K6 HM2 HBS5 H5 HS5 HWL HL5 hneb
              go_wp2_with (first
                | ((with_reducible refine wpList_store_word ?_ ?_ 46 (.tmp 11) (.tmp 60) ?_ winfo w7.heap.size (wc 0) n ?_ ?_ ?_ ?_ ?_); (exact rfl); (exact rfl); (exact rfl); (exact rfl); (exact rfl); (exact Cs.new _ _ _ _ rfl); (exact rfl); intro w8 k8 g8; have K8 := Lib.hid k8; have HM8 := Lib.hid (HM7.out.new g8); clear k8 g8)
                | ((with_reducible refine wpList_load_word ?_ 46 44 (.tmp 11) ?_ Try.underlying46 winfo w7.heap.size n ?_ ?_ ?_); (exact rfl); (exact rfl); (exact rfl); (exact K8.out)))
              refine (refCmp200_any n _ HNM.out).mono ?_
              rintro e w9 ⟨rfl, he9⟩
              have HM9 := Lib.hid (HM8.out.ext he9)
              have K9 := Lib.hid (Cs.ext K8.out he9)
              clear he9 K8 HM7 HM8
              by_cases e3 : n ≤ 200
              · have hcm : decide ((0 : Int) < cmpN n 200) = false := by
                  unfold cmpN
                  by_cases e4 : n < 200
                  · rw [if_pos e4]; rfl
                  · rw [if_neg e4, if_neg (by omega)]; rfl
                generalize cmpN n 200 = cm at *
                obtain ⟨at3, hat3⟩ : ∃ x, at2 + n = x := ⟨_, rfl⟩
                have hw4 : IntKind.i64.wrap ((at2 : Int) + (n : Int)) = (at3 : Int) := by rw [IntWalk.i64_in _ (by omega)]; omega
                have hnb : (n : Int) ≤ 200 := by omega
                have hcn : w9.cell? ⟨w7.heap.size, 0, none⟩ = some (.int .u64 (n : Nat)) := by
                  have := Cs.cell K9.out 0 (lv (lb n 0)) rfl
                  rw [this]
                  unfold lv
                  rw [show lb n 0 = n by unfold lb; omega]
                by_cases e4 : at3 ≤ b.length
                · have hg3 : decide ((b.length : Int) < (at3 : Int)) = false := decide_eq_false (by omega)
                  have hg4 : decide (b.length < at3) = false := decide_eq_false (by omega)
                  have HSN := Lib.hid (HYP.out ⟨HE1.out, by omega, e3, by omega⟩)
                  have HS6 := Lib.hid (show (b.take at3).drop at2 = (b.drop (at_ + 32)).take n by rw [← hat3, hat2]; exact sub_in b at2 n)
                  have HBS6 := Lib.hid (H1.out.sliced at2 at3 (by omega) e4)
                  obtain ⟨A6, h6⟩ := sliced_is A1 at2 at3 c1 1
                  rw [h6, HS6.out, show at3 - at2 = n by omega] at HBS6
                  rw [show at3 - at2 = n by omega] at h6
                  have H6 := Lib.hid h6
                  have hle6 : at2 ≤ at3 := by omega
                  have hlc6 : at3 ≤ c1 := by omega
                  have HDL := Lib.hid (show ((b.drop (at_ + 32)).take n).length = n by rw [List.length_take, List.length_drop]; omega)
                  have HVB := Lib.hid (show ∀ g, u6.ownBlock = some g → g < w9.heap.size from fun g hg => (HM9.out.row.lt g hg).2)
                  have HLO9 := Lib.hid HM9.out.toExt.size
                  have HBW := Lib.hid (HBS6.out.ext HM9.out.toExt)
                  clear HS6 HBS6 h6 hat3
                  generalize (b.drop (at_ + 32)).take n = d at *
                  have HPL1 := Lib.hid (show (ps ++ [((true, 0, d) : Pt)]).length = k + 1 by rw [List.length_append, HPL.out]; rfl)
                  have HGD1 := Lib.hid (show (ps ++ [((true, 0, d) : Pt)]).getD k (false, 0, []) = (true, 0, d) by rw [← HPL.out]; simp [List.getD])
                  obtain ⟨at4, hat4⟩ : ∃ x, at_ + (32 + flN n) = x := ⟨_, rfl⟩
                  obtain ⟨L4, hL4⟩ : ∃ x, (tlL (true, 0, d)).length = x := ⟨_, rfl⟩
                  have HL4 := Lib.hid hL4
                  have hL5 : L4 = 32 + flN n := by rw [← hL4, tlL_len, ← HDL.out]; rfl
                  have hfl : flN n ≤ 1000 := by unfold flN; omega
                  have hw5 : IntKind.i64.wrap ((at_ : Int) + (L4 : Int)) = (at4 : Int) := by rw [IntWalk.i64_in _ (by omega)]; omega
                  have hL4b : (L4 : Int) ≤ 2000 := by omega
                  rw [hat4] at HSN
                  clear hat4 hL4 hL5 hfl HYP HNP
                  have hcn2 : (w9.alloc (.cells #[] 5)).cell? ⟨w7.heap.size, 0, none⟩ = some (.int .u64 (n : Nat)) := ((Ext.refl w9).alloc _).cell hcn
                  go_wp2_with (first
                    | ((with_reducible refine wpList_slice_both ?_ 28 5 (.tmp 78) (.tmp 80) (.tmp 86) ?_ Try.underlying28 u8size A1 b.length c1 at2 at3 .i64 .i64 ?_ ?_ ?_ hle6 hlc6 ?_); (exact rfl); (exact rfl); (exact rfl); (exact rfl); (exact rfl); rw [H6.out])
                    | (at_builtin; go_loud (first
                      | (refine wpList_append_bytes rfl (.tmp 77) (.tmp 87) _ rfl w9.heap.size 5 Try.underlying28 u8info _ [] rfl (own_made w9 _ 5 (Nat.le_refl _)) _ d rfl (HBW.out.ext ((Ext.refl w9).alloc _)) (by have := HDL.out; simp; omega) ((Ext.refl w9).alloc _).size ?_; intro v10 w10 ho hg _; have HX10 := Lib.hid (((Ext.refl w9).alloc (.cells #[] 5)).append (own_made w9 _ 5 (Nat.le_refl _)) hg); rw [List.nil_append] at ho; have HO10 := Lib.hid ho; have HU10 := Lib.hid (bs_one ho.bs); obtain ⟨A10, c10, e10, r10, s10, t10⟩ := ho.bs; subst e10; clear t10; have HM10 := Lib.hid (HM9.out.ext HX10.out); clear ho hg)
                      | ((with_reducible refine wpList_append_one ?_ (.tmp 76) (.tmp 90) 24 ?_ w.heap.size 48 Try.underlying24 (.agg pz) 6 64 pinfo3 rfl (by decide) PtR No u6 ps ?_ (HM10.out.row.ext ((Ext.refl w10).alloc _)) w10.heap.size (ptc (true, 0, d) (.slice A10 d.length c10)).toList (true, 0, d) ?_ ?_ ?_ ?_ ?_ ?_ (by decide) ?_ ?_); (exact rfl); (exact rfl); (exact rfl); (exact rfl); (exact rfl); (rw [heap_alloc_new]; simp [ptc, lv, lb]); (intro x hx; exact Array.all_eq_true_iff_forall_mem.1 (ptc_one (true, 0, d) (.slice A10 d.length c10) HU10.out) x (by simpa using hx)); (exact (part_far (p := (true, 0, d)) HO10.out HLO9.out (by decide : (0 : Nat) < M256) HVB.out).ext ((Ext.refl w10).alloc _)); (have := HPL.out; omega); (exact (HM10.out.toExt.alloc _).size); intro v11 w11 h11 g11 _; have HM11 := Lib.hid ((HM10.out.ext ((Ext.refl w10).alloc _)).more h11 g11); clear h11 g11; obtain ⟨A7, c7, e7, r7, s7⟩ := Pts.len HM11.out.row.sl; subst e7; unfold maxLen at s7; rw [HPL1.out] at r7 HM11; rw [HPL1.out]; obtain ⟨b7, o7, u7v, e7, rg7, hb7, _⟩ := Pts.at HM11.out.row.sl k (by rw [HPL1.out]; exact Nat.lt_succ_self _); subst e7; rw [HGD1.out] at rg7 hb7; have hc7 := rng5 rg7; have HB7 := Lib.hid hb7; clear rg7 hb7)))
                    | ((with_reducible refine wpList_build_one ?_ (.tmp 89) 24 48 ?_ Try.underlying24 (.agg pz) 6 64 pinfo3 (by decide) (by decide) (ptc (true, 0, d) (.slice A10 d.length c10)) rfl ?_ ?_); (exact rfl); (exact rfl); (exact rfl)))
                  refine (refTail_any _ d _ HB7.out (by have := HDL.out; omega)).mono ?_
                  rintro e w12 ⟨v12, rfl, ho12, he12⟩
                  have HJ12 : Hid (RrJ w b ls (k + 1) at4 (.slice (some ⟨b7, o7, none⟩) (k + 1) c7) w12) := Lib.hid ⟨_, HSN.out, HM11.out.ext he12⟩
                  obtain ⟨A12, c12, rfl, r12, s12, t12⟩ := ho12.bs
                  unfold maxLen at s12
                  rw [HL4.out] at r12
                  rw [HL4.out]
                  clear ho12 he12 t12 hc7
                  go_wp2_with fail
                  exact ⟨⟨k + 1, at4, by omega, by go_num, rfl, HJ12⟩, by simp [intOf]; omega⟩
                · have HNO := Lib.hid (HNP.out (fun h => e4 (by omega)))
                  have hg3 : decide ((b.length : Int) < (at3 : Int)) = true := decide_eq_true (by omega)
                  have hg4 : decide (b.length < at3) = true := decide_eq_true (by omega)
                  clear hat3
                  go_wp2_with fail
                  exact bodyPost_ret (results_tmp2 rfl _ _ _) rfl (RetRr.no HL16.out HNO.out rfl HM9.out.toExt)
              · have HNO := Lib.hid (HNP.out (fun h => e3 h.2.2.1))
                have hcm : decide ((0 : Int) < cmpN n 200) = true := by
                  unfold cmpN
                  rw [if_neg (by omega), if_pos (by omega)]
                  rfl
                generalize cmpN n 200 = cm at *
                go_wp2_with fail
                exact bodyPost_ret (results_tmp2 rfl _ _ _) rfl (RetRr.no HL16.out HNO.out rfl HM9.out.toExt)
            · have HNO := Lib.hid (HNP.out (fun h => e2 (by omega)))
              have hg1 : decide ((b.length : Int) < (at2 : Int)) = true := decide_eq_true (by omega)
              have hg2 : decide (b.length < at2) = true := decide_eq_true (by omega)
              go_wp2_with (first
                | ((with_reducible refine wpList_store_word ?_ ?_ 46 (.tmp 10) (.tmp 35) ?_ winfo w2.heap.size (wc 0) hd ?_ ?_ ?_ ?_ ?_); (exact rfl); (exact rfl); (exact rfl); (exact rfl); (exact rfl); (exact Cs.new _ _ _ _ rfl); (exact rfl); intro w6 k6 g6; have K6 := Lib.hid k6; have HM6 := Lib.hid (HM2.out.new g6); clear k6 g6)
                | ((with_reducible refine wpList_load_word ?_ 46 44 (.tmp 10) ?_ Try.underlying46 winfo w2.heap.size hd ?_ ?_ ?_); (exact rfl); (exact rfl); (exact rfl); (exact K6.out))
                | ((with_reducible refine wpList_neq_word ?_ (.tmp 43) (.tmp 46) ?_ hd at_ HHB.out HAM.out ?_ ?_ ?_); (exact rfl); (exact rfl); (exact rfl); (exact HWL.out); rw [hneb]))
              exact bodyPost_ret (results_tmp2 rfl _ _ _) rfl (RetRr.no HL16.out HNO.out rfl HM6.out.toExt)
          · have HNO := Lib.hid (HNP.out (fun h => e1 h.1))
            have hneb : (hd != at_) = true := by simpa using e1
            go_wp2_with (first
              | ((with_reducible refine wpList_store_word ?_ ?_ 46 (.tmp 10) (.tmp 35) ?_ winfo w2.heap.size (wc 0) hd ?_ ?_ ?_ ?_ ?_); (exact rfl); (exact rfl); (exact rfl); (exact rfl); (exact rfl); (exact Cs.new _ _ _ _ rfl); (exact rfl); intro w6 k6 g6; have K6 := Lib.hid k6; have HM6 := Lib.hid (HM2.out.new g6); clear k6 g6)
              | ((with_reducible refine wpList_load_word ?_ 46 44 (.tmp 10) ?_ Try.underlying46 winfo w2.heap.size hd ?_ ?_ ?_); (exact rfl); (exact rfl); (exact rfl); (exact K6.out))
              | ((with_reducible refine wpList_neq_word ?_ (.tmp 43) (.tmp 46) ?_ hd at_ HHB.out HAM.out ?_ ?_ ?_); (exact rfl); (exact rfl); (exact rfl); (exact HWL.out); rw [hneb]))
            exact bodyPost_ret (results_tmp2 rfl _ _ _) rfl (RetRr.no HL16.out HNO.out rfl HM6.out.toExt)
      · obtain rfl : k = ls.length := by omega
        have HWD := Lib.hid HR.out
        go_wp2_with fail
        refine (refLay_any _ ps _ HM.out.row.sl HEP.out).mono ?_
        rintro e w2 ⟨v2, rfl, ho2, he2⟩
        have HB2 := Lib.hid ho2.bs
        have HM2 := Lib.hid (HM.out.ext he2)
        clear ho2 he2 HM
        go_wp2_with fail
        refine (refSame4_any _ _ (layL ps) b _ HB2.out (H1.out.ext HM2.out.toExt)).mono ?_
        rintro e w3 ⟨rfl, he3⟩
        have HM3 := Lib.hid (HM2.out.ext he3)
        clear he3 HM2 HB2
        by_cases hy : layL ps = b
        · have HY := Lib.hid (show rfE b ls = some ps by unfold rfE; rw [HWD.out]; exact if_pos hy)
          rw [show (layL ps == b) = true by simpa using hy]
          clear hy
          go_wp2_with fail
          exact bodyPost_ret (results_tmp2 rfl _ _ _) rfl (RetRr.yes HL16.out HY.out rfl HM3.out.row.farNo HM3.out.toExt)
        · have HNO := Lib.hid (show rfE b ls = none by unfold rfE; rw [HWD.out]; exact if_neg hy)
          rw [show (layL ps == b) = false by simpa using hy]
          clear hy
          go_wp2_with fail
          exact bodyPost_ret (results_tmp2 rfl _ _ _) rfl (RetRr.no HL16.out HNO.out rfl HM3.out.toExt)
  · have hd0 : decide ((b.length : Int) < (sz : Int)) = true := decide_eq_true (by omega)
    have hd1 : decide (b.length < sz) = true := decide_eq_true (by omega)
    have HNO := Lib.hid (rfE_none b ls 0 (Nat.zero_le _) (by unfold rfS; rw [HSZ.out, if_neg hsb]))
    go_enter Try.func26, Try.ntmps26
    go_wp2_with fail
    exact bodyPost_ret (results_tmp2 rfl _ _ _) rfl (RetRr.no HL16.out HNO.out rfl (Ext.refl _))
end Go.Proofs.Ytdlllihfibjabaa
