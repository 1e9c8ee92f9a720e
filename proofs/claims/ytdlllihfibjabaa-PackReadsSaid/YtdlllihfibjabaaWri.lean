/- Contract of Bytes: a row that a loop over bits collects. -/
import Derived.Test.YtdlllihfibjabaaReb
import Derived.Test.YtdlllihfibjabaaWrh
import Derived.RangeFuncBox
import Derived.Maps.AppendAt
namespace Go.Proofs.Ytdlllihfibjabaa
open Go.RowKit Go.Shelf
attribute [local go_sem] Oper.semAt_some


/-- A row of the call's own: the block gr with room for cap bytes, of which those of l are there; and its variable's box. -/
def RwI (w : World) (N0 Bt gr cap : Nat) (l : List UInt8) (W : World) : Prop :=
  N0 ≤ W.heap.size ∧ Cs W Bt 28 #[.slice (some ⟨gr, 0, none⟩) l.length cap] ∧ Own W w.heap.size 5 (.slice (some ⟨gr, 0, none⟩) l.length cap) l ∧ Ext w W

set_option maxRecDepth 100000 in
theorem RwI.row {w : World} {N0 Bt gr cap : Nat} {l : List UInt8} {W : World} (h : RwI w N0 Bt gr cap l W) : ∃ cs, Cs W gr 5 cs := by
  rcases h.2.2.1.2 with ⟨e, _⟩ | ⟨g, c, cur, e, _, hg, _⟩
  · cases e
  · injection e with e1 e2 e3
    injection e1 with e1
    injection e1 with e1
    subst e1
    exact ⟨cur, hg⟩
set_option maxRecDepth 100000 in
theorem RwI.ext {w : World} {N0 Bt gr cap : Nat} {l : List UInt8} {W W' : World} (h : RwI w N0 Bt gr cap l W) (he : Ext W W') : RwI w N0 Bt gr cap l W' := ⟨Nat.le_trans h.1 he.size, h.2.1.ext he, h.2.2.1.ext he, h.2.2.2.trans he⟩
set_option maxRecDepth 100000 in
theorem RwI.far {w : World} {N0 Bt gr cap : Nat} {l : List UInt8} {W W' : World} {row : Option Nat} (h : RwI w N0 Bt gr cap l W) (he : W.grownBy W' row) (h1 : some Bt ≠ row) (h2 : some gr ≠ row) (h3 : ∀ g, row = some g → w.heap.size ≤ g) : RwI w N0 Bt gr cap l W' :=
  ⟨Nat.le_trans h.1 he.size, h.2.1.kept he h1, World.ownsRow.kept h.2.2.1 he (.inr h2), Below.grown h.2.2.2 he h.2.2.2.size h3⟩
set_option maxRecDepth 100000 in
theorem RwI.own {w : World} {N0 Bt gr cap B : Nat} (hB1 : Bt < B) (hB2 : gr < B) (hB3 : w.heap.size ≤ B) (f : List Nat → List UInt8) : OwnFrom B (fun pre W => RwI w N0 Bt gr cap (f pre) W) := by
  intro s A A' row h hg hr
  exact h.far hg (fun e => by have := (hr _ e.symm).1; omega) (fun e => by have := (hr _ e.symm).1; omega) (fun g e => by have := (hr _ e).1; omega)

set_option maxRecDepth 100000 in
/-- A byte is put behind the row, and the variable is set. -/
theorem RwI.push {w : World} {N0 Bt gr cap : Nat} {l : List UInt8} {W w2 : World} (h : RwI w N0 Bt gr cap l W) (o : Obj) (c : UInt8) (hne : Bt ≠ gr) (hBt : w.heap.size ≤ Bt) (hgr : w.heap.size ≤ gr)
    (ho : w2.ownsRow w.heap.size 5 1 (.slice (some ⟨gr, 0, none⟩) (l.length + 1) cap) (l.length + 1) (l.map bv ++ [bv c])) (hg : (W.alloc o).grownBy w2 (some gr)) :
    RwI w N0 Bt gr cap (l ++ [c]) (w2.setCell ⟨Bt, 0, none⟩ (.slice (some ⟨gr, 0, none⟩) (l.length + 1) cap)) ∧ (∀ g h : Nat, g < W.heap.size → h < W.heap.size → g ≠ Bt → g ≠ gr → h ≠ Bt → h ≠ gr → Stp g h W (w2.setCell ⟨Bt, 0, none⟩ (.slice (some ⟨gr, 0, none⟩) (l.length + 1) cap))) ∧
      w2.cell? ⟨Bt, 0, none⟩ = some (.slice (some ⟨gr, 0, none⟩) l.length cap) ∧ w2.frozen? ⟨Bt, 0, none⟩ = false := by
  have hb := (h.2.1.alloc o).kept hg (some_ne hne)
  have hlen : (l ++ [c]).length = l.length + 1 := by simp
  obtain ⟨cs, hcs⟩ := h.row
  have hsz : N0 ≤ w2.heap.size := by have h1 := h.1; have h2 := hg.size; simp at h2; omega
  refine ⟨⟨Nat.le_trans hsz (by simp), ?_, ?_, ?_⟩, ?_, hb.cell 0 _ rfl, hb.frozen 0⟩
  · rw [hlen]
    exact hb.set 0 _
  · unfold Own
    rw [hlen, List.map_append]
    exact World.ownsRow.kept ho (grown_set w2 Bt 0 _) (.inr (some_ne hne.symm))
  · exact ((h.2.2.2.alloc o).grown hg hgr).grown (grown_set w2 Bt 0 _) hBt
  · intro g h' h1 h2 n1 n2 n3 n4
    have e1 : W.heap.size ≤ (W.alloc o).heap.size := by simp
    have e2 := hg.size
    exact ((Stp.ext ((Ext.refl W).alloc o) h1 h2).trans (Stp.put hg (hcs.alloc o) (by omega) (by omega) n2 n4)).trans (Stp.put (grown_set w2 Bt 0 _) hb (by omega) (by omega) n1 n3)

/-- The bytes that the rounds of pre bring. -/
def bytL (n : Nat) (pre : List Nat) : List UInt8 := pre.map fun k => UInt8.ofNat (dBits n 8 k)
set_option maxRecDepth 100000 in
theorem bytL_snoc (n : Nat) (pre : List Nat) (k : Nat) : bytL n (pre ++ [k]) = bytL n pre ++ [UInt8.ofNat (dBits n 8 k)] := by simp [bytL]
set_option maxRecDepth 100000 in
theorem bytL_len (n : Nat) (pre : List Nat) : (bytL n pre).length = pre.length := by simp [bytL]


set_option maxRecDepth 100000 in
set_option maxHeartbeats 2000000 in
theorem bytes_any (n : Nat) (w : World) :
    Calls Try.prog 56 #[wv n] w (RetB w (bytL n (List.range 32))) := by
  refine (callsIn_wide (n := 9)).1 ?_
  refine callsIn_of_wp_marks Try.func56 rfl trivial ?_ rfl
  simp only [Try.ntmps56, List.size_toArray, List.length_cons, List.length_nil, Nat.reduceAdd, Nat.reduceSub, Array.replicate_succ, Array.replicate_zero, List.push_toArray, List.append_toArray, List.nil_append, List.cons_append]
  unfold wv
  obtain ⟨i0, hi, hz0, hz1, hz2⟩ := info_parts u8info
  gi_wp2_with (first
    | (gi_at_make; refine wpListIn_make_own _ rfl _ _ 28 rfl w.heap.size 5 i0 (.int .u8 0) 1 Try.underlying28 hi hz0 hz1 .i64 .i64 32 32 rfl rfl rfl (by rw [hz2]; decide) (by unfold maxLen; omega) (by simp) ?_; intro w0 ho0 hg0; rw [World.size_alloc] at ho0 ⊢; have HO0 := Lib.hid ho0; have HG0 := Lib.hid hg0; clear ho0 hg0)
    | ((with_reducible refine wpListIn_load_word rfl 46 44 (.tmp 1) rfl Try.underlying46 winfo w.heap.size n ?_ ?_ ?_); (exact rfl); (exact ((Cs.new _ _ _ _ rfl).kept HG0.out (by simp)).alloc _)))
  refine ⟨trivial, ?_⟩
  refine (callsIn_wide.2 (downward_any n 8 _ rfl _)).mono ?_
  rintro e w1 ⟨g, h, rfl, hg, hh, c1, c2, hz, he⟩
  have hs0 : w.heap.size + 1 < w0.heap.size := by
    rcases HO0.out.2 with ⟨e, _⟩ | ⟨g', c', cur, e, _, hg', _⟩
    · cases e
    · injection e with e1
      injection e1 with e1
      injection e1 with e1
      subst e1
      exact (Array.getElem?_eq_some_iff.1 hg').1
  have hg' : g = w0.heap.size + 2 := by rw [hg]; simp
  have hh' : h = w0.heap.size + 1 := by rw [hh]; simp
  have hz' : w1.heap.size = w0.heap.size + 3 := by rw [hz]; simp
  have hI0 : RwI w (w0.heap.size + 3) w0.heap.size (w.heap.size + 1) 32 (bytL n []) w1 :=
    ⟨by omega, Cs.ext (Cs.new _ _ _ _ rfl) he, Own.ext (Own.ext (show Own w0 w.heap.size 5 (.slice (some ⟨w.heap.size + 1, 0, none⟩) 0 32) [] from HO0.out) ((Ext.refl w0).alloc _)) he, Ext.trans ((((Ext.refl w).alloc _).trans (ext_of_grown HG0.out)).alloc _) he⟩
  have HI0 := Lib.hid hI0
  clear hI0 hg hh hz he
  subst hg'
  subst hh'
  gi_wp2_with fail
  refine wpIn_rangeFunc_ownG rfl (by decide) (gf := 132) (lb := #[.pointer (some ⟨w0.heap.size + 2, 0, none⟩), .pointer (some ⟨w0.heap.size + 1, 0, none⟩)]) rfl trivial (enters_of Try.func132 (by kernel_rfl) rfl)
    (down1_stops 8 n 8 32 (w0.heap.size + 2) (w0.heap.size + 1) (by decide) (by decide) (by decide) (by decide) (by decide) w1 c1 c2) Kp2.tr (Kp2.putObj (by omega) (by omega)) (Below.refl _ _) (fun _ => rfl)
    (fun pre W => RwI w (w0.heap.size + 3) w0.heap.size (w.heap.size + 1) 32 (bytL n pre) W) (fun _ _ _ => False) (RwI.own (by omega) (by omega) (by omega) (bytL n)) (fun _ _ _ _ _ hs _ _ => hs) HI0.out
    (fun x => { tmps := #[.agg (wc n), .pointer (some ⟨w.heap.size, 0, none⟩), .slice none 0 0, .pointer (some ⟨w0.heap.size, 0, none⟩), undef, .int .u64 (dBits n 8 x : Nat), .slice (some ⟨w.heap.size + 1, 0, none⟩) 0 32, wv n, .func (.func 132) #[] #[.pointer (some ⟨w0.heap.size + 2, 0, none⟩), .pointer (some ⟨w0.heap.size + 1, 0, none⟩)], .int .i64 (dAt 8 x : Nat), .int .u64 (dBits n 8 x : Nat), undef, undef, undef, undef, undef, undef], defers := [] }) ?assign ?body ?done ?stop
  case assign =>
    intro l x W K hK
    unfold dEnc
    gi_wp2
    exact hK
  case body =>
    rintro l pre x W hI hlen
    have hsz := hI.1
    have HI := Lib.hid hI
    have HS := Lib.hid (bytL_snoc n pre x)
    have hb := dBits_lt n 8 x
    have hln : (bytL n pre).length < 32 := by rw [bytL_len]; exact hlen
    have hcl : W.cell? ⟨w0.heap.size, 0, none⟩ = some (.slice (some ⟨w.heap.size + 1, 0, none⟩) (bytL n pre).length 32) := hI.2.1.cell 0 _ rfl
    have hcf := hI.2.1.frozen 0
    clear hI hlen HI0
    generalize bytL n pre = r at *
    generalize dBits n 8 x = y at *
    have hy : IntKind.u8.wrap (y : Int) = (y : Int) := IntWalk.u8_in _ (by omega)
    have HV := Lib.hid (show Value.int .u8 (y : Int) = bv (UInt8.ofNat y) from bv_of (y : Int) (by omega) (by omega))
    gi_wp2_with (gi_at_builtin; refine wpListIn_append_fits _ rfl (.tmp 11) (.tmp 14) 28 rfl w.heap.size 5 i0 1 Try.underlying28 hi hz1 (w.heap.size + 1) r.length 32 (r.map bv) rfl (HI.out.2.2.1.ext ((Ext.refl W).alloc _)) ⟨W.heap.size, 0, none⟩ 1 1 [.int .u8 (y : Int)] rfl rfl (cell_one_new _ _ _) (by simp [Value.oneCell']) (by omega) ?_; intro w2 ho2 hg2; rw [HV.out] at ho2; have HP := Lib.hid (HI.out.push _ _ (by omega) (by omega) (by omega) ho2 hg2); clear ho2 hg2; have hc2 := HP.out.2.2.1; have hf2 := HP.out.2.2.2)
    refine ⟨(HP.out.2.1 (w0.heap.size + 2) (w0.heap.size + 1) (by omega) (by omega) (by omega) (by omega) (by omega) (by omega)).1.from _, (HP.out.2.1 (w0.heap.size + 2) (w0.heap.size + 1) (by omega) (by omega) (by omega) (by omega) (by omega) (by omega)).2, ?_⟩
    show RwI w (w0.heap.size + 3) w0.heap.size (w.heap.size + 1) 32 (bytL n (pre ++ [x])) _
    rw [HS.out]
    exact HP.out.1
  case done =>
    rintro D ys W hD rfl hI hK
    have HI := Lib.hid hI
    have HK := Lib.hid hK
    have hcl : W.cell? ⟨w0.heap.size, 0, none⟩ = some (.slice (some ⟨w.heap.size + 1, 0, none⟩) (bytL n (List.range 32)).length 32) := hI.2.1.cell 0 _ rfl
    clear hI hK HI0
    generalize bytL n (List.range 32) = r at *
    gi_wp2_with fail
    refine ⟨by simp, .inl ⟨_, _, rfl, run_takeDeferred HK.out, ?_⟩⟩
    exact ⟨.slice (some ⟨w.heap.size + 1, 0, none⟩) r.length 32, results_tmp (t := 2) rfl _ _ _, _, rfl, ownsRow_putObj HI.out.2.2.1 _ HK.out rfl, HI.out.2.2.2.grown (grownBy_putObj' _ D (.deferred none)) (by omega)⟩
  case stop =>
    rintro D c pre W _ _ h _
    exact h.elim
end Go.Proofs.Ytdlllihfibjabaa
