/- Package pack: Read. -/
import Derived.Test.YtdlllihfibjabaaPkr
import Derived.Test.YtdlllihfibjabaaFar
import Derived.Outline
namespace Go.Proofs.Ytdlllihfibjabaa
open Go.RowKit Go.Shelf

set_option maxRecDepth 100000 in
theorem pinfo3 : (Try.prog.info? 48).map (fun i => (i.zero, i.size, i.bytes)) = some (some (.agg pz), 6, 64) := by kernel_rfl
set_option maxRecDepth 100000 in
theorem rdinfo : (Try.prog.info? 109).map (·.size) = some 2 := by kernel_rfl
set_option maxRecDepth 100000 in
theorem rsinfo : (Try.prog.info? 107).map (·.size) = some 1 := by kernel_rfl
/-- A slice of booleans. -/
def Bls (W : World) (v : Value) (l : List Bool) : Prop := Sl W 1 (fun cs b => cs = [.bool b]) v l
set_option maxRecDepth 100000 in
theorem Bls.ext {W W' : World} {v : Value} {l : List Bool} (h : Bls W v l) (he : Ext W W') : Bls W' v l := Sl.mono h (fun _ _ hc => he.cell hc) fun _ _ h => h
set_option maxRecDepth 100000 in
theorem Bls.len {W : World} {v : Value} {l : List Bool} (h : Bls W v l) : ∃ A c, v = .slice A l.length c ∧ l.length ≤ c ∧ c ≤ maxLen := by
  obtain ⟨A, c, e, h1, h2, _⟩ := h
  exact ⟨A, c, e, h1, h2⟩
set_option maxRecDepth 100000 in
theorem Bls.at {W : World} {A : Option Addr} {n c : Nat} {l : List Bool} (h : Bls W (.slice A n c) l) (i : Nat) (hi : i < l.length) : ∃ b o, A = some ⟨b, o, none⟩ ∧ W.cell? ⟨b, o + i, none⟩ = some (.bool (l.getD i false)) := by
  obtain ⟨A', c', e, _, _, h3⟩ := h
  injection e with e1 e2 e3
  subst e1
  obtain ⟨b, o, rfl, hc⟩ := h3 (by omega)
  obtain ⟨cs, k1, rfl, k3⟩ := hc i _ (List.getElem?_eq_getElem hi)
  refine ⟨b, o, rfl, ?_⟩
  have := k3 0 _ rfl
  simpa [List.getD, List.getElem?_eq_getElem hi] using this

/-- What a way of reading a part answers. -/
def RetFm (w0 w : World) (g all : Nat) (lg : Bool) (hd : Nat) (left : List UInt8) (e : Ending) (w' : World) : Prop :=
  match rdP all lg hd left with
  | none => e = .returned (.tuple #[.agg (ptc (false, 0, []) (.slice none 0 0)), .bool false]) ∧ Ext w0 w'
  | some (p, left') => ∃ u A' c', e = .returned (.tuple #[.agg (ptc p u), .bool true]) ∧ Own w' w.heap.size 5 u p.2.2 ∧ Cs w' g 109 #[.slice A' left'.length c', .int .i64 (all : Nat)] ∧ Bs w0 (.slice A' left'.length c') left' ∧ Ext w0 w' ∧ w.grownBy w' (some g)
set_option maxRecDepth 100000 in
theorem longFm (w0 : World) (g : Nat) (A : Option Addr) (c : Nat) (left : List UInt8) (all hd : Nat) (w : World) (hg : Cs w g 109 #[.slice A left.length c, .int .i64 (all : Nat)]) (hb : Bs w0 (.slice A left.length c) left) (he0 : Ext w0 w) (hg0 : w0.heap.size ≤ g) (hal : left.length ≤ all) (ham : all ≤ 1000000000000) (hhd : hd < M256) :
    Calls Try.prog 110 #[.pointer (some ⟨g, 0, none⟩), wv hd] w (RetFm w0 w g all true hd left) :=
  (longPart_any w0 g A c left all hd w hg hb he0 hg0 hal ham hhd).mono fun _ _ h => h
set_option maxRecDepth 100000 in
theorem wordFm (w0 : World) (g : Nat) (A : Option Addr) (c : Nat) (left : List UInt8) (all hd : Nat) (w : World) (hg : Cs w g 109 #[.slice A left.length c, .int .i64 (all : Nat)]) (hb : Bs w0 (.slice A left.length c) left) (he0 : Ext w0 w) :
    Calls Try.prog 109 #[.pointer (some ⟨g, 0, none⟩), wv hd] w (RetFm w0 w g all false hd left) :=
  (wordPart_any g hd w).mono fun _ _ h => ⟨_, A, c, h.1, World.ownsRow_nil _ _ _ _, Cs.ext hg h.2, hb, he0.trans h.2, grown_of_ext h.2 _⟩

/-- The error of Read. -/
def rdErr (b : List UInt8) (ls : List Bool) : Int := if 16 < ls.length then 3 else if (rdE b ls).isSome then 0 else 141
/-- The parts that Read answers. -/
def rdL (b : List UInt8) (ls : List Bool) : List Pt := if 16 < ls.length then [] else (rdE b ls).getD []
/-- What Read answers. -/
def RetRd (w : World) (b : List UInt8) (ls : List Bool) (e : Ending) (w' : World) : Prop := ∃ v, e = .returned (.tuple #[v, .int .i64 (rdErr b ls)]) ∧ Far w.heap.size No w' (fun W => Pts W v (rdL b ls)) ∧ Ext w w'
set_option maxRecDepth 100000 in
theorem Pts.nil (W : World) : Pts W (.slice none 0 0) [] := ⟨none, 0, rfl, Nat.le_refl _, Nat.zero_le _, fun h => absurd h (by simp)⟩
set_option maxRecDepth 100000 in
theorem RetRd.no {w : World} {b : List UInt8} {ls : List Bool} {w' : World} {e : Ending} (h : rdE b ls = none) (hl : ¬ 16 < ls.length) (he : e = .returned (.tuple #[.slice none 0 0, .int .i64 141])) (hw : Ext w w') : RetRd w b ls e w' := by
  unfold RetRd rdErr rdL
  rw [if_neg hl, if_neg hl, h]
  exact ⟨_, he, Far.true _ _ _ fun W => Pts.nil W, hw⟩
set_option maxRecDepth 100000 in
theorem chk_in (b : List UInt8) (n k : Nat) (hk : k < n) (hb : 32 * n ≤ b.length) : ((b.take (32 * n)).drop (32 * k)).take 32 = chk b k := by
  unfold chk
  apply ext_getD
  · simp; omega
  · intro i hi
    simp at hi
    rw [getD_take _ _ _ (by omega), getD_take _ _ _ (by omega), getD_drop, getD_drop, getD_take _ _ _ (by omega)]
/-- What lies there between the parts: the row, the reader, the heads, the map. -/
def RdM (w : World) (B g6 g9 gm : Nat) (v : Value) (ps : List Pt) (r6 r9 : Array Value) (W : World) : Prop :=
  RowO 48 6 PtR No B W v ps ∧ Cs W g6 109 r6 ∧ Cs W g9 107 r9 ∧ W.heap[gm]? = some (.map (fmE g6) 2) ∧ Ext w W ∧ B ≤ W.heap.size
set_option maxRecDepth 100000 in
theorem RdM.ext {w : World} {B g6 g9 gm : Nat} {v : Value} {ps : List Pt} {r6 r9 : Array Value} {W W' : World} (h : RdM w B g6 g9 gm v ps r6 r9 W) (he : Ext W W') : RdM w B g6 g9 gm v ps r6 r9 W' :=
  ⟨h.1.ext he, Cs.ext h.2.1 he, Cs.ext h.2.2.1 he, he.block h.2.2.2.1, h.2.2.2.2.1.trans he, Nat.le_trans h.2.2.2.2.2 he.size⟩
set_option maxRecDepth 100000 in
theorem RdM.c6 {w : World} {B g6 g9 gm : Nat} {v : Value} {ps : List Pt} {r6 r9 : Array Value} {W : World} (h : RdM w B g6 g9 gm v ps r6 r9 W) : Cs W g6 109 r6 := h.2.1
set_option maxRecDepth 100000 in
theorem RdM.hmap {w : World} {B g6 g9 gm : Nat} {v : Value} {ps : List Pt} {r6 r9 : Array Value} {W : World} (h : RdM w B g6 g9 gm v ps r6 r9 W) : W.heap[gm]? = some (.map (fmE g6) 2) := h.2.2.2.1
set_option maxRecDepth 100000 in
theorem RdM.toExt {w : World} {B g6 g9 gm : Nat} {v : Value} {ps : List Pt} {r6 r9 : Array Value} {W : World} (h : RdM w B g6 g9 gm v ps r6 r9 W) : Ext w W := h.2.2.2.2.1
set_option maxRecDepth 100000 in
theorem RdM.row {w : World} {B g6 g9 gm : Nat} {v : Value} {ps : List Pt} {r6 r9 : Array Value} {W : World} (h : RdM w B g6 g9 gm v ps r6 r9 W) : RowO 48 6 PtR No B W v ps := h.1
set_option maxRecDepth 100000 in
theorem RdM.base {w : World} {B g6 g9 gm : Nat} {v : Value} {ps : List Pt} {r6 r9 : Array Value} {W : World} (h : RdM w B g6 g9 gm v ps r6 r9 W) (o : Obj) : B ≤ (W.alloc o).heap.size := by
  have := h.2.2.2.2.2
  simp
  omega
set_option maxRecDepth 100000 in
/-- A part whose bytes are the call's own. -/
theorem part_far {B m : Nat} {v u : Value} {W : World} {p : Pt} {e : TypeId} (ho : Own W m e u p.2.2) (hm : B ≤ m) (hw : p.2.1 < M256) (hv : ∀ g, v.ownBlock = some g → g < m) : Far B (Or2 No (Bk v)) W (fun W => PtR W (ptc p u).toList p) :=
  ((Own.far ho (X := Or2 No (Bk v)) fun g hg hx => by
    rcases hx with hx | hx
    · exact hx
    · have h1 := (ho.lt g hg).1
      have h2 := hv g hx
      omega).low hm).imp fun _ hb => ⟨hw, u, rfl, hb⟩
set_option maxRecDepth 100000 in
theorem RetRd.yes {w : World} {b : List UInt8} {ls : List Bool} {w' : World} {e : Ending} {ps : List Pt} {v : Value} (h : rdE b ls = some ps) (hl : ¬ 16 < ls.length) (he : e = .returned (.tuple #[v, .int .i64 0])) (hf : Far w.heap.size No w' (fun W => Pts W v ps)) (hw : Ext w w') : RetRd w b ls e w' := by
  unfold RetRd rdErr rdL
  rw [if_neg hl, if_neg hl, h]
  exact ⟨_, he, hf, hw⟩
/-- Where they are. -/
def RdO (w : World) (B g6 g9 gm : Nat) : Prop := w.heap.size ≤ g6 ∧ g6 < gm ∧ gm < g9 ∧ g9 < B
set_option maxRecDepth 100000 in
theorem RdM.row_ne {w : World} {B g6 g9 gm : Nat} {v : Value} {ps : List Pt} {r6 r9 : Array Value} {W : World} (h : RdM w B g6 g9 gm v ps r6 r9 W) (g : Nat) (hg : g < B) : v.ownBlock ≠ some g := fun e => by
  have := (h.1.lt g e).1
  omega
set_option maxRecDepth 100000 in
theorem RdM.at9 {w : World} {B g6 g9 gm : Nat} {v : Value} {ps : List Pt} {r6 r9 r9' : Array Value} {W W' : World} (h : RdM w B g6 g9 gm v ps r6 r9 W) (ho : RdO w B g6 g9 gm) (hg : W.grownBy W' (some g9)) (hc : Cs W' g9 107 r9') : RdM w B g6 g9 gm v ps r6 r9' W' := by
  obtain ⟨o1, o2, o3, o4⟩ := ho
  exact ⟨h.1.old hg (.inl o4) (h.row_ne _ o4), Cs.kept h.2.1 hg (some_ne (by omega)), hc, (hg.block gm (Array.getElem?_eq_some_iff.1 h.2.2.2.1).1 (some_ne (by omega))).trans h.2.2.2.1, h.2.2.2.2.1.grown hg (by omega), Nat.le_trans h.2.2.2.2.2 hg.size⟩
set_option maxRecDepth 100000 in
theorem RdM.at6 {w : World} {B g6 g9 gm : Nat} {v : Value} {ps : List Pt} {r6 r6' r9 : Array Value} {W W' : World} (h : RdM w B g6 g9 gm v ps r6 r9 W) (ho : RdO w B g6 g9 gm) (hg : W.grownBy W' (some g6)) (hc : Cs W' g6 109 r6') : RdM w B g6 g9 gm v ps r6' r9 W' := by
  obtain ⟨o1, o2, o3, o4⟩ := ho
  exact ⟨h.1.old hg (.inl (by omega)) (h.row_ne _ (by omega)), hc, Cs.kept h.2.2.1 hg (some_ne (by omega)), (hg.block gm (Array.getElem?_eq_some_iff.1 h.2.2.2.1).1 (some_ne (by omega))).trans h.2.2.2.1, h.2.2.2.2.1.grown hg (by omega), Nat.le_trans h.2.2.2.2.2 hg.size⟩
set_option maxRecDepth 100000 in
theorem RdM.new {w : World} {B g6 g9 gm : Nat} {v : Value} {ps : List Pt} {r6 r9 : Array Value} {W W' : World} {o : Obj} (h : RdM w B g6 g9 gm v ps r6 r9 W) (hg : (W.alloc o).grownBy W' (some W.heap.size)) : RdM w B g6 g9 gm v ps r6 r9 W' :=
  h.ext (((Ext.refl W).alloc o).grown hg (Nat.le_refl _))
set_option maxRecDepth 100000 in
theorem RdM.more {w : World} {B g6 g9 gm : Nat} {v v' : Value} {ps ps' : List Pt} {r6 r9 : Array Value} {W W' : World} (h : RdM w B g6 g9 gm v ps r6 r9 W) (ho : RdO w B g6 g9 gm) (hr : RowO 48 6 PtR No B W' v' ps') (hg : W.grownBy W' v.ownBlock) : RdM w B g6 g9 gm v' ps' r6 r9 W' := by
  obtain ⟨o1, o2, o3, o4⟩ := ho
  exact ⟨hr, Cs.kept h.2.1 hg (Ne.symm (h.row_ne _ (by omega))), Cs.kept h.2.2.1 hg (Ne.symm (h.row_ne _ (by omega))), (hg.block gm (Array.getElem?_eq_some_iff.1 h.2.2.2.1).1 (Ne.symm (h.row_ne _ (by omega)))).trans h.2.2.2.1, Below.grown h.2.2.2.2.1 hg h.2.2.2.2.1.size (fun j hj => by have := (h.1.lt j hj).1; omega), Nat.le_trans h.2.2.2.2.2 hg.size⟩
/-- The heads that are left. -/
def hdR (b : List UInt8) (n k : Nat) : List UInt8 := (b.take (32 * n)).drop (32 * k)
def RdJ (w : World) (b : List UInt8) (ls : List Bool) (B g6 g9 gm k : Nat) (v : Value) (W : World) : Prop :=
  ∃ ps left A c A9 c9, rdS b ls k = some (ps, left) ∧ RdM w B g6 g9 gm v ps #[.slice A left.length c, .int .i64 (b.length : Nat)] #[.slice A9 (hdR b ls.length k).length c9] W ∧ Bs w (.slice A left.length c) left ∧ Bs w (.slice A9 (hdR b ls.length k).length c9) (hdR b ls.length k)
set_option maxRecDepth 100000 in
theorem rdS_step (b : List UInt8) (ls : List Bool) (k : Nat) (ps : List Pt) (left : List UInt8) (h : rdS b ls k = some (ps, left)) : rdS b ls (k + 1) = (rdP b.length (ls.getD k false) (beN (chk b k)) left).map fun q => (ps ++ [q.1], q.2) := by
  show (rdS b ls k).bind _ = _
  rw [h]
  rfl
set_option maxRecDepth 100000 in
theorem rdE_none (b : List UInt8) (ls : List Bool) (k : Nat) (hk : k ≤ ls.length) (h : rdS b ls k = none) : rdE b ls = none := by
  unfold rdE
  rw [rdS_none b ls k h _ hk]
  rfl

set_option maxRecDepth 100000 in
set_option maxHeartbeats 2000000 in
theorem packRead_any (v1 v2 : Value) (b : List UInt8) (ls : List Bool) (w : World) (h1 : Bs w v1 b) (h2 : Bls w v2 ls) (hbl : b.length ≤ 1000000000) : Calls Try.prog 25 #[v1, v2] w (RetRd w b ls) := by
  have H1 := Lib.hid h1
  have H2 := Lib.hid h2
  obtain ⟨A1, c1, rfl, k1, k2⟩ := (show ∃ A c, v1 = .slice A b.length c ∧ b.length ≤ c ∧ c ≤ maxLen by obtain ⟨A, c, e, q1, q2, _⟩ := h1; exact ⟨A, c, e, q1, q2⟩)
  obtain ⟨A2, c2, rfl, k3, k4⟩ := h2.len
  have HC1 := Lib.hid k2
  unfold maxLen at k2 k4
  clear h1 h2
  by_cases h16 : 16 < ls.length
  · have hd : decide ((16 : Int) < (ls.length : Int)) = true := decide_eq_true (by omega)
    have hd2 : decide (16 < ls.length) = true := decide_eq_true h16
    have HR : Hid (rdErr b ls = 3 ∧ rdL b ls = []) := Lib.hid ⟨by unfold rdErr; rw [if_pos h16], by unfold rdL; rw [if_pos h16]⟩
    go_enter Try.func25, Try.ntmps25
    go_wp2_with fail
    refine bodyPost_ret (results_tmp2 rfl _ _ _) rfl ⟨.slice none 0 0, by rw [HR.out.1]; rfl, by rw [HR.out.2]; exact Far.true _ _ _ fun W => Pts.nil W, Ext.refl _⟩
  · have hd : decide ((16 : Int) < (ls.length : Int)) = false := decide_eq_false (by omega)
    have hd2 : decide (16 < ls.length) = false := decide_eq_false h16
    have H16 := Lib.hid h16
    have hq : IntKind.i64.wrap (32 * (ls.length : Int)) = ((32 * ls.length : Nat) : Int) := by rw [IntWalk.i64_in _ (by omega)]; omega
    obtain ⟨sz, hsz⟩ : ∃ sz, 32 * ls.length = sz := ⟨_, rfl⟩
    rw [hsz] at hq
    have hszb : sz ≤ 512 := by omega
    have HSZ := Lib.hid hsz
    clear hsz
    go_enter Try.func25, Try.ntmps25
    go_wp2_with fail
    have K2 : Hid (Cs (w.alloc (.cells #[.slice A1 b.length c1, .int .i64 (b.length : Nat)] 109)) w.heap.size 109 #[.slice A1 b.length c1, .int .i64 (b.length : Nat)]) := Lib.hid (Cs.new _ _ _ _ rfl)
    have HE2 : Hid (Ext w (w.alloc (.cells #[.slice A1 b.length c1, .int .i64 (b.length : Nat)] 109))) := Lib.hid ((Ext.refl w).alloc _)
    by_cases hsb : sz ≤ b.length
    · refine (next_yes w.heap.size A1 b.length c1 sz _ (Cs.cell K2.out 0 _ rfl) (Cs.frozen K2.out 0) hsb k1 HC1.out).mono ?_
      rintro e w3 ⟨rfl, hw3⟩
      have hS := (show behV A1 b.length c1 sz = .slice (if c1 = sz then A1 else A1.map (·.add sz)) (b.drop sz).length (c1 - sz) by simp [behV])
      have hB := (show Bs w (.slice (if c1 = sz then A1 else A1.map (·.add sz)) (b.drop sz).length (c1 - sz)) (b.drop sz) by
        have := H1.out.drop sz hsb
        rwa [show (b.drop sz).length = b.length - sz by simp])
      generalize (if c1 = sz then A1 else A1.map (·.add sz)) = A3 at *
      have HB3 := Lib.hid hB
      rw [hS] at hw3
      have HK3 := Lib.hid (show Cs w3 w.heap.size 109 #[.slice A3 (b.drop sz).length (c1 - sz), .int .i64 (b.length : Nat)] from by rw [hw3]; simpa using Cs.set K2.out 0 (.slice A3 (b.drop sz).length (c1 - sz)))
      have HE3 := Lib.hid (show Ext w w3 from by rw [hw3]; exact HE2.out.grown (grown_set _ _ _ _) (Nat.le_refl _))
      have HBH := Lib.hid (H1.out.take sz hsb)
      clear hw3 hS hB K2 HE2
      go_wp2_with fail
      refine (forms_any w.heap.size _).mono ?_
      rintro e w4 ⟨rfl, hm4, he4⟩
      have HM4 := Lib.hid hm4
      have HK4 := Lib.hid (Cs.ext HK3.out he4)
      have HE4 := Lib.hid (HE3.out.trans he4)
      have hlt3 := Cs.lt HK3.out
      have hlt4 : w3.heap.size < w4.heap.size := (Array.getElem?_eq_some_iff.1 hm4).1
      clear hm4 he4 HK3 HE3
      obtain ⟨i0, hi, hz0, hz1, hz2⟩ := info_parts pinfo3
      go_wp2_with (at_make; refine wpList_make_own _ rfl _ _ 24 rfl (w4.heap.size + 1) 48 i0 (.agg pz) 6 Try.underlying24 hi hz0 hz1 .i64 .i64 _ (ls.length : Nat) rfl rfl rfl (by rw [hz2]; omega) (by unfold maxLen; omega) (by simp) ?_; intro w5 ho5 hg5; have HO5 := Lib.hid ho5; have HE5 := Lib.hid (ext_of_grown hg5); clear ho5 hg5)
      have HJ0 : Hid (RdJ w b ls (w4.heap.size + 1) w.heap.size w4.heap.size w3.heap.size 0 (.slice (some ⟨w4.heap.size + 1, 0, none⟩) 0 ls.length) w5) := Lib.hid
        ⟨[], b.drop sz, A3, c1 - sz, A1, c1, by unfold rdS; rw [if_pos (by have := HSZ.out; omega), HSZ.out], ⟨RowO.of_empty (by simpa using HO5.out), Cs.ext (Cs.alloc HK4.out _) HE5.out, Cs.ext (Cs.new _ _ _ _ rfl) (by rw [show (hdR b ls.length 0).length = sz by unfold hdR; rw [HSZ.out]; simp; omega]; exact HE5.out), HE5.out.block ((Below.heap_alloc w4 _ _ hlt4).trans HM4.out), (HE4.out.alloc _).trans HE5.out, by have := HE5.out.size; simpa using this⟩, HB3.out, by
          have e1 : hdR b ls.length 0 = b.take sz := by unfold hdR; rw [HSZ.out]; simp
          rw [e1, show (b.take sz).length = sz by simp; omega]
          exact HBH.out⟩
      have HO : Hid (RdO w (w4.heap.size + 1) w.heap.size w4.heap.size w3.heap.size) := Lib.hid ⟨Nat.le_refl _, hlt3, hlt4, Nat.lt_succ_self _⟩
      clear HO5 HE5 HM4 HK4 HE4 hlt3 hlt4 HB3 HBH hz0 hz1 hz2 hi
      generalize w4.heap.size = g9 at *
      generalize w3.heap.size = gm at *
      generalize Value.slice (some ⟨g9 + 1, 0, none⟩) 0 ls.length = v11 at *
      go_loopw [11, 44] (fun v u wr => ∃ k : Nat, k ≤ ls.length ∧ u = .int .i64 k ∧ Hid (RdJ w b ls (g9 + 1) w.heap.size g9 gm k v wr)) (fun _ u _ => ls.length - (intOf u).toNat)
      case atStart => exact ⟨0, by omega, rfl, HJ0⟩
      case round =>
        clear HJ0
        obtain ⟨k, hk, rfl, HJ⟩ := hrel
        obtain ⟨ps, left, A, c, A9, c9, hr, hm, hbl, hb9⟩ := HJ.out
        have HM := Lib.hid hm
        have HBL := Lib.hid hbl
        have HB9 := Lib.hid hb9
        have HR := Lib.hid hr
        clear hr hm hbl hb9 HJ
        by_cases hlt : k < ls.length
        · have hdk : decide (k < ls.length) = true := decide_eq_true hlt
          have HSB := Lib.hid (show 32 * ls.length ≤ b.length by have := HSZ.out; omega)
          have HST := Lib.hid (rdS_step b ls k ps left HR.out)
          have HPL := Lib.hid (show ps.length ≤ 16 by have := (rdS_is b ls k hk ps left HR.out).len; omega)
          have HNN := Lib.hid (fun h => rdE_none b ls (k + 1) hlt h)
          have HLL := Lib.hid (show left.length ≤ b.length by
            have I := congrArg List.length (rdS_is b ls k hk ps left HR.out).tails
            simp at I
            omega)
          have H32 := Lib.hid (show 32 ≤ (hdR b ls.length k).length by have := HSB.out; unfold hdR; simp; omega)
          have HHD := Lib.hid (show beN ((hdR b ls.length k).take 32) = beN (chk b k) by unfold hdR; rw [chk_in b _ _ hlt HSB.out])
          have HHB := Lib.hid (show beN (chk b k) < M256 from beN_lt256 _ (by rw [chk_len b k (by have := HSB.out; omega)]; omega))
          have HNX := Lib.hid (show (hdR b ls.length k).drop 32 = hdR b ls.length (k + 1) by unfold hdR; rw [List.drop_drop]; congr 1)
          obtain ⟨bb, oo, rfl, hcb⟩ := (H2.out.ext HM.out.2.2.2.2.1).at k hlt
          generalize ls.getD k false = lg at *
          generalize beN (chk b k) = hd at *
          go_wp2_with fail
          refine (nextWord_yes w g9 107 _ A9 c9 (hdR b ls.length k) wr HM.out.2.2.1 rfl HB9.out HM.out.2.2.2.2.1 (by have := HO.out; unfold RdO at this; omega) H32.out).mono ?_
          rintro e w5 ⟨rfl, hc5, _, hg5⟩
          rw [HHD.out]
          have hv5 : behV A9 (hdR b ls.length k).length c9 32 = .slice (if c9 = 32 then A9 else A9.map (·.add 32)) (hdR b ls.length (k + 1)).length (c9 - 32) := by rw [← HNX.out]; simp [behV]
          have hb5 := HB9.out.drop 32 H32.out
          rw [HNX.out, show (hdR b ls.length k).length - 32 = (hdR b ls.length (k + 1)).length by rw [← HNX.out]; simp] at hb5
          simp only [List.setIfInBounds_toArray, List.set_cons_zero, hv5] at hc5
          clear hv5
          generalize (if c9 = 32 then A9 else A9.map (·.add 32)) = A10 at *
          have HM5 := Lib.hid (HM.out.at9 HO.out hg5 hc5)
          have HB10 := Lib.hid hb5
          clear hc5 hb5 hg5 HM HB9 H32 HNX
          obtain ⟨q, hq⟩ : ∃ q, rdP b.length lg hd left = q := ⟨_, rfl⟩
          rw [hq] at HST
          have HQ := Lib.hid hq
          clear hq
          cases lg with
          | false =>
            have HFN := Lib.hid (show Instr.findNow .bool (.bool false) (fmE w.heap.size).toList 0 = some (some (0, .func (.func 109) #[.pointer (some ⟨w.heap.size, 0, none⟩)] #[])) by rfl)
            go_wp2_with (first
              | ((with_reducible refine wpList_store_word ?_ ?_ 46 (.tmp 14) (.tmp 50) ?_ winfo w5.heap.size (wc 0) hd ?_ ?_ ?_ ?_ ?_); (exact rfl); (exact rfl); (exact rfl); (exact rfl); (exact rfl); (exact Cs.new _ _ _ _ rfl); (exact rfl); intro w6 k6 g6; have K6 := Lib.hid k6; have HM6 := Lib.hid (HM5.out.new g6); clear k6 g6)
              | ((with_reducible refine wpList_lookup_bool ?_ 112 4 _ (.tmp 53) (.tmp 54) ?_ Try.underlying112 Try.underlying4 gm (fmE w.heap.size) 2 HM6.out.hmap false 0 (.func (.func 109) #[.pointer (some ⟨w.heap.size, 0, none⟩)] #[]) HFN.out ?_ ?_ ?_); (exact rfl); (exact rfl); (exact rfl); (exact rfl))
              | ((with_reducible refine wpList_load_word ?_ 46 44 (.tmp 14) ?_ Try.underlying46 winfo w5.heap.size hd ?_ ?_ ?_); (exact rfl); (exact rfl); (exact rfl); (exact K6.out)))
            refine (wordFm w w.heap.size A c left b.length hd _ HM6.out.2.1 HBL.out HM6.out.2.2.2.2.1).mono ?_
            rintro e w7 hfm
            unfold RetFm at hfm
            rw [HQ.out] at hfm
            cases q with
            | none =>
              obtain ⟨rfl, he7⟩ := hfm
              have HE7 := Lib.hid he7
              have HNO := Lib.hid (HNN.out (by rw [HST.out]; rfl))
              clear he7
              go_wp2_with ((with_reducible refine wpList_store_part ?_ ?_ (.tmp 16) (.tmp 58) ?_ w7.heap.size pz (false, 0, []) (.slice none 0 0) ?_ ?_ ?_ ?_ ?_ ?_); (exact rfl); (exact rfl); (exact rfl); (exact rfl); (exact rfl); (exact rfl); (exact Cs.new _ _ _ _ rfl); (exact rfl); intro w8 k8 g8; have HE8 := Lib.hid (HE7.out.trans (((Ext.refl w7).alloc _).grown g8 (Nat.le_refl _))); clear k8 g8)
              exact bodyPost_ret (results_tmp2 rfl _ _ _) rfl (RetRd.no HNO.out H16.out rfl HE8.out)
            | some q =>
              obtain ⟨p, left'⟩ := q
              obtain ⟨u, A', c', rfl, ho7, hc7, hb7, he7, hg7⟩ := hfm
              have HM7 := Lib.hid (HM6.out.at6 HO.out hg7 hc7)
              have HO7 := Lib.hid ho7
              have HB7 := Lib.hid hb7
              have HWP := Lib.hid (show p.2.1 < M256 from (rdS_is b ls (k + 1) hlt (ps ++ [p]) left' (by rw [HST.out]; rfl)).word p (by simp))
              have HVB := Lib.hid (show ∀ g, u11.ownBlock = some g → g < w6.heap.size from fun g hg => (HM6.out.row.lt g hg).2)
              have HB6 := Lib.hid (show g9 + 1 ≤ w6.heap.size from HM6.out.2.2.2.2.2)
              obtain ⟨_, _, e7, _, _, _⟩ := ho7.bs
              have HU1 := Lib.hid (show u.oneCell' = true by rw [e7]; rfl)
              have HP1 := Lib.hid (ptc_one p u HU1.out)
              have HPS := Lib.hid (show (ptc p u).size = 6 from rfl)
              clear ho7 hc7 hb7 hg7 e7 K6
              obtain ⟨pc, hpc⟩ : ∃ pc, ptc p u = pc := ⟨_, rfl⟩
              rw [hpc] at HP1 HPS
              rw [hpc]
              have HP := Lib.hid hpc
              clear hpc
              go_wp2_with (first
                | ((with_reducible refine wpList_store_part ?_ ?_ (.tmp 16) (.tmp 58) ?_ w7.heap.size pz p u ?_ ?_ ?_ ?_ ?_ ?_); (exact rfl); (exact rfl); (exact rfl); (exact HU1.out); (exact rfl); (rw [HP.out]; exact rfl); (exact Cs.new _ _ _ _ rfl); (exact rfl); intro w8 k8 g8; have K8 := Lib.hid k8; have HM8 := Lib.hid (HM7.out.new g8); have HO8 := Lib.hid (Own.ext HO7.out (((Ext.refl w7).alloc _).grown g8 (Nat.le_refl _))); clear k8 g8)
                | ((with_reducible refine wpList_load_part ?_ (.tmp 16) ?_ w7.heap.size 0 p u ?_ ?_ ?_); (exact rfl); (exact rfl); (exact rfl); (exact K8.out.range); rw [HP.out])
                | ((with_reducible refine wpList_build_one ?_ (.tmp 63) 24 48 ?_ Try.underlying24 (.agg pz) 6 64 pinfo3 (by decide) (by decide) pc HPS.out ?_ ?_); (exact rfl); (exact rfl); (exact rfl))
                | (at_builtin; (with_reducible refine wpList_append_one ?_ (.tmp 62) (.tmp 64) 24 ?_ (g9 + 1) 48 Try.underlying24 (.agg pz) 6 64 pinfo3 rfl (by decide) PtR No u11 ps ?_ (HM8.out.row.ext ((Ext.refl w8).alloc (.cells pc 48))) w8.heap.size pc.toList p ?_ ?_ ?_ ?_ ?_ ?_ (by decide) (HM8.out.base _) ?_); (exact rfl); (exact rfl); (exact rfl); (exact rfl); (simpa using HPS.out); (simpa using heap_alloc_new w8 (.cells pc 48)); (intro x hx; exact Array.all_eq_true_iff_forall_mem.1 HP1.out x (by simpa using hx)); (rw [← HP.out]; exact (part_far HO8.out HB6.out HWP.out HVB.out).ext ((Ext.refl w8).alloc _)); (have := HPL.out; omega); intro v9 w9 h9 g9' _; have HM9 := Lib.hid ((HM8.out.ext ((Ext.refl w8).alloc _)).more HO.out h9 g9'); clear h9 g9'))
              have HJ9 : Hid (RdJ w b ls (g9 + 1) w.heap.size g9 gm (k + 1) v9 w9) := Lib.hid ⟨ps ++ [p], left', A', c', A10, c9 - 32, by rw [HST.out]; rfl, HM9.out, HB7.out, HB10.out⟩
              exact ⟨⟨k + 1, by omega, by go_num, HJ9⟩, by simp [intOf]; omega⟩
          | true =>
            have HFN := Lib.hid (show Instr.findNow .bool (.bool true) (fmE w.heap.size).toList 0 = some (some (1, .func (.func 110) #[.pointer (some ⟨w.heap.size, 0, none⟩)] #[])) by rfl)
            go_wp2_with (first
              | ((with_reducible refine wpList_store_word ?_ ?_ 46 (.tmp 14) (.tmp 50) ?_ winfo w5.heap.size (wc 0) hd ?_ ?_ ?_ ?_ ?_); (exact rfl); (exact rfl); (exact rfl); (exact rfl); (exact rfl); (exact Cs.new _ _ _ _ rfl); (exact rfl); intro w6 k6 g6; have K6 := Lib.hid k6; have HM6 := Lib.hid (HM5.out.new g6); clear k6 g6)
              | ((with_reducible refine wpList_lookup_bool ?_ 112 4 _ (.tmp 53) (.tmp 54) ?_ Try.underlying112 Try.underlying4 gm (fmE w.heap.size) 2 HM6.out.hmap true 1 (.func (.func 110) #[.pointer (some ⟨w.heap.size, 0, none⟩)] #[]) HFN.out ?_ ?_ ?_); (exact rfl); (exact rfl); (exact rfl); (exact rfl))
              | ((with_reducible refine wpList_load_word ?_ 46 44 (.tmp 14) ?_ Try.underlying46 winfo w5.heap.size hd ?_ ?_ ?_); (exact rfl); (exact rfl); (exact rfl); (exact K6.out)))
            refine (longFm w w.heap.size A c left b.length hd _ HM6.out.2.1 HBL.out HM6.out.2.2.2.2.1 (Nat.le_refl _) HLL.out (by omega) HHB.out).mono ?_
            rintro e w7 hfm
            unfold RetFm at hfm
            rw [HQ.out] at hfm
            cases q with
            | none =>
              obtain ⟨rfl, he7⟩ := hfm
              have HE7 := Lib.hid he7
              have HNO := Lib.hid (HNN.out (by rw [HST.out]; rfl))
              clear he7
              go_wp2_with ((with_reducible refine wpList_store_part ?_ ?_ (.tmp 16) (.tmp 58) ?_ w7.heap.size pz (false, 0, []) (.slice none 0 0) ?_ ?_ ?_ ?_ ?_ ?_); (exact rfl); (exact rfl); (exact rfl); (exact rfl); (exact rfl); (exact rfl); (exact Cs.new _ _ _ _ rfl); (exact rfl); intro w8 k8 g8; have HE8 := Lib.hid (HE7.out.trans (((Ext.refl w7).alloc _).grown g8 (Nat.le_refl _))); clear k8 g8)
              exact bodyPost_ret (results_tmp2 rfl _ _ _) rfl (RetRd.no HNO.out H16.out rfl HE8.out)
            | some q =>
              obtain ⟨p, left'⟩ := q
              obtain ⟨u, A', c', rfl, ho7, hc7, hb7, he7, hg7⟩ := hfm
              have HM7 := Lib.hid (HM6.out.at6 HO.out hg7 hc7)
              have HO7 := Lib.hid ho7
              have HB7 := Lib.hid hb7
              have HWP := Lib.hid (show p.2.1 < M256 from (rdS_is b ls (k + 1) hlt (ps ++ [p]) left' (by rw [HST.out]; rfl)).word p (by simp))
              have HVB := Lib.hid (show ∀ g, u11.ownBlock = some g → g < w6.heap.size from fun g hg => (HM6.out.row.lt g hg).2)
              have HB6 := Lib.hid (show g9 + 1 ≤ w6.heap.size from HM6.out.2.2.2.2.2)
              obtain ⟨_, _, e7, _, _, _⟩ := ho7.bs
              have HU1 := Lib.hid (show u.oneCell' = true by rw [e7]; rfl)
              have HP1 := Lib.hid (ptc_one p u HU1.out)
              have HPS := Lib.hid (show (ptc p u).size = 6 from rfl)
              clear ho7 hc7 hb7 hg7 e7 K6
              obtain ⟨pc, hpc⟩ : ∃ pc, ptc p u = pc := ⟨_, rfl⟩
              rw [hpc] at HP1 HPS
              rw [hpc]
              have HP := Lib.hid hpc
              clear hpc
              go_wp2_with (first
                | ((with_reducible refine wpList_store_part ?_ ?_ (.tmp 16) (.tmp 58) ?_ w7.heap.size pz p u ?_ ?_ ?_ ?_ ?_ ?_); (exact rfl); (exact rfl); (exact rfl); (exact HU1.out); (exact rfl); (rw [HP.out]; exact rfl); (exact Cs.new _ _ _ _ rfl); (exact rfl); intro w8 k8 g8; have K8 := Lib.hid k8; have HM8 := Lib.hid (HM7.out.new g8); have HO8 := Lib.hid (Own.ext HO7.out (((Ext.refl w7).alloc _).grown g8 (Nat.le_refl _))); clear k8 g8)
                | ((with_reducible refine wpList_load_part ?_ (.tmp 16) ?_ w7.heap.size 0 p u ?_ ?_ ?_); (exact rfl); (exact rfl); (exact rfl); (exact K8.out.range); rw [HP.out])
                | ((with_reducible refine wpList_build_one ?_ (.tmp 63) 24 48 ?_ Try.underlying24 (.agg pz) 6 64 pinfo3 (by decide) (by decide) pc HPS.out ?_ ?_); (exact rfl); (exact rfl); (exact rfl))
                | (at_builtin; (with_reducible refine wpList_append_one ?_ (.tmp 62) (.tmp 64) 24 ?_ (g9 + 1) 48 Try.underlying24 (.agg pz) 6 64 pinfo3 rfl (by decide) PtR No u11 ps ?_ (HM8.out.row.ext ((Ext.refl w8).alloc (.cells pc 48))) w8.heap.size pc.toList p ?_ ?_ ?_ ?_ ?_ ?_ (by decide) (HM8.out.base _) ?_); (exact rfl); (exact rfl); (exact rfl); (exact rfl); (simpa using HPS.out); (simpa using heap_alloc_new w8 (.cells pc 48)); (intro x hx; exact Array.all_eq_true_iff_forall_mem.1 HP1.out x (by simpa using hx)); (rw [← HP.out]; exact (part_far HO8.out HB6.out HWP.out HVB.out).ext ((Ext.refl w8).alloc _)); (have := HPL.out; omega); intro v9 w9 h9 g9' _; have HM9 := Lib.hid ((HM8.out.ext ((Ext.refl w8).alloc _)).more HO.out h9 g9'); clear h9 g9'))
              have HJ9 : Hid (RdJ w b ls (g9 + 1) w.heap.size g9 gm (k + 1) v9 w9) := Lib.hid ⟨ps ++ [p], left', A', c', A10, c9 - 32, by rw [HST.out]; rfl, HM9.out, HB7.out, HB10.out⟩
              exact ⟨⟨k + 1, by omega, by go_num, HJ9⟩, by simp [intOf]; omega⟩
        · obtain rfl : k = ls.length := by omega
          have hcl : wr.cell? ⟨w.heap.size, 0, none⟩ = some (.slice A left.length c) := Cs.cell HM.out.c6 0 _ rfl
          by_cases h0 : left.length = 0
          · have HY := Lib.hid (show rdE b ls = some ps by unfold rdE; rw [HR.out]; exact if_pos h0)
            have hd0 : decide ((0 : Int) < (left.length : Int)) = false := decide_eq_false (by omega)
            have hd1 : decide (0 < left.length) = false := decide_eq_false (by omega)
            clear h0
            go_wp2_with fail
            exact bodyPost_ret (results_tmp2 rfl _ _ _) rfl (RetRd.yes HY.out H16.out rfl (HM.out.row.farNo.low (by have := HO.out; unfold RdO at this; omega)) HM.out.toExt)
          · have HNO := Lib.hid (show rdE b ls = none by unfold rdE; rw [HR.out]; exact if_neg h0)
            have hd0 : decide ((0 : Int) < (left.length : Int)) = true := decide_eq_true (by omega)
            have hd1 : decide (0 < left.length) = true := decide_eq_true (by omega)
            clear h0
            go_wp2_with fail
            exact bodyPost_ret (results_tmp2 rfl _ _ _) rfl (RetRd.no HNO.out H16.out rfl HM.out.toExt)
    · refine (next_no w.heap.size A1 b.length c1 sz _ (Cs.cell K2.out 0 _ rfl) (by omega) (by omega)).mono ?_
      rintro e w3 ⟨rfl, rfl⟩
      have HNO := Lib.hid (show rdE b ls = none by unfold rdE; rw [rdS_none b ls 0 (by unfold rdS; rw [if_neg (by have := HSZ.out; omega)]) _ (Nat.zero_le _)]; rfl)
      go_wp2_with fail
      exact bodyPost_ret (results_tmp2 rfl _ _ _) rfl (RetRd.no HNO.out H16.out rfl HE2.out)
end Go.Proofs.Ytdlllihfibjabaa
