/- Contract of Text: digits that a loop over bits collects. -/
import Derived.Test.YtgmmkoahnednfaaWri
import Derived.Shelf.Bytes.SlSmallAll
import Derived.WalkSpells
import Derived.Lib.SliceRun
namespace Go.Proofs.Ytgmmkoahnednfaa
open Go.RowKit Go.Shelf
attribute [local go_sem] Oper.semAt_some

set_option maxRecDepth 100000 in
theorem nums_of (l : List UInt8) : strOfNums (l.map fun c => (c.toNat : Int)) = ⟨l.toArray⟩ := by
  unfold strOfNums
  congr 2
  rw [List.map_map]
  conv => rhs; rw [← List.map_id l]
  apply List.map_congr_left
  intro c _
  simp

set_option maxRecDepth 100000 in
theorem Bs.conv {P : Program} {w : World} {v : Value} {l : List UInt8} (h : Bs w v l) (src e dst : TypeId) (hs : P.underlying src = some (.slice e)) (he : P.underlying e = some (.int .u8)) (hd : P.underlying dst = some .string) :
    (convert src dst v).run P w = .ok (.string ⟨l.toArray⟩) w := by
  obtain ⟨A, c, rfl, h1, h2, h3⟩ := h
  rcases Nat.eq_zero_or_pos l.length with h0 | h0
  · obtain rfl : l = [] := List.eq_nil_of_length_eq_zero h0
    exact run_convert_bytes_zero w src e hs he A c dst hd
  · obtain ⟨b, o, rfl, hc⟩ := h3 h0
    rw [← nums_of]
    refine run_convert_bytes_arg (P := P) w src e hs he b o _ c _ (by simp) ?_ dst hd
    intro i hi
    rw [hc i hi]
    simp [bv, List.getD, List.getElem?_eq_getElem hi]

/-- The digit of a number below 16. -/
def dgt (y : Nat) : UInt8 := if y < 10 then UInt8.ofNat (48 + y) else UInt8.ofNat (87 + y)

/-- What a round adds to the digits. -/
def txtS (n : Nat) (l : List UInt8) (k : Nat) : List UInt8 := if dBits n 4 k ≠ 0 ∨ l ≠ [] ∨ dAt 4 k = 0 then l ++ [dgt (dBits n 4 k)] else l
def txtL (n : Nat) (pre : List Nat) : List UInt8 := pre.foldl (txtS n) []
set_option maxRecDepth 100000 in
theorem txtL_snoc (n : Nat) (pre : List Nat) (k : Nat) : txtL n (pre ++ [k]) = txtS n (txtL n pre) k := by simp [txtL]
set_option maxRecDepth 100000 in
theorem txtS_len (n : Nat) (l : List UInt8) (k : Nat) : (txtS n l k).length ≤ l.length + 1 := by unfold txtS; split <;> simp
set_option maxRecDepth 100000 in
theorem txtL_len (n : Nat) (pre : List Nat) : (txtL n pre).length ≤ pre.length := by
  unfold txtL
  suffices h : ∀ s : List UInt8, (pre.foldl (txtS n) s).length ≤ s.length + pre.length by simpa using h []
  induction pre with
  | nil => simp
  | cons k pre ih =>
    intro s
    have h1 := ih (txtS n s k)
    have h2 := txtS_len n s k
    simp only [List.foldl_cons, List.length_cons]
    omega

set_option maxRecDepth 100000 in
theorem idx_digit (y : Nat) (hy : y < 16) (w : World) : (Instr.index 9 (.string ⟨#[48, 49, 50, 51, 52, 53, 54, 55, 56, 57, 97, 98, 99, 100, 101, 102]⟩) (.int .u64 (y : Nat))).run Try.prog w = .ok (.int .u8 ((dgt y).toNat : Int)) w := by
  have h : y = 0 ∨ y = 1 ∨ y = 2 ∨ y = 3 ∨ y = 4 ∨ y = 5 ∨ y = 6 ∨ y = 7 ∨ y = 8 ∨ y = 9 ∨ y = 10 ∨ y = 11 ∨ y = 12 ∨ y = 13 ∨ y = 14 ∨ y = 15 := by omega
  rcases h with rfl | rfl | rfl | rfl | rfl | rfl | rfl | rfl | rfl | rfl | rfl | rfl | rfl | rfl | rfl | rfl <;> rfl

set_option maxRecDepth 100000 in
theorem RwI.drew {w : World} {N0 Bt gr cap : Nat} {l : List UInt8} {W : World} (h : RwI w N0 Bt gr cap l W) : RwI w N0 Bt gr cap l W.drew := h.ext (Ext.refl W).drew

set_option maxRecDepth 100000 in
/-- A byte is laid behind the row where there is room, and the variable is set. -/
theorem RwI.lay {w : World} {N0 Bt gr cap : Nat} {l : List UInt8} {W : World} (h : RwI w N0 Bt gr cap l W) (o : Obj) (c : UInt8) (hne : Bt ≠ gr) (hBt : w.heap.size ≤ Bt) (hgr : w.heap.size ≤ gr) (hl : l.length < cap) :
    RwI w N0 Bt gr cap (l ++ [c]) (((W.alloc o).setCell ⟨gr, l.length, none⟩ (bv c)).setCell ⟨Bt, 0, none⟩ (.slice (some ⟨gr, 0, none⟩) (l.length + 1) cap)) ∧
      (∀ g h : Nat, g < W.heap.size → h < W.heap.size → g ≠ Bt → g ≠ gr → h ≠ Bt → h ≠ gr → Stp g h W (((W.alloc o).setCell ⟨gr, l.length, none⟩ (bv c)).setCell ⟨Bt, 0, none⟩ (.slice (some ⟨gr, 0, none⟩) (l.length + 1) cap))) ∧
      (∃ u, W.cell? ⟨gr, l.length, none⟩ = some u) ∧ W.frozen? ⟨gr, l.length, none⟩ = false := by
  have hown := h.2.2.1
  rcases hown.2 with ⟨e, _⟩ | ⟨g, c', cur, e, hb, hg, hnc, hcm, hcs, htake⟩
  · cases e
  · injection e with e1 e2 e3
    injection e1 with e1
    injection e1 with e1
    subst e1
    subst e3
    have hrow : Cs W gr 5 cur := hg
    have hlt : l.length < cur.size := by rw [hcs]; omega
    refine ⟨(h.push o c hne hBt hgr ?_ (grown_set _ gr l.length (bv c))).1, (h.push o c hne hBt hgr ?_ (grown_set _ gr l.length (bv c))).2.1, ⟨cur[l.length], hrow.cell _ _ (Array.getElem?_eq_getElem hlt)⟩, hrow.frozen _⟩
    all_goals
      refine ⟨by simp, .inr ⟨gr, cap, cur.setIfInBounds l.length (bv c), rfl, hb, (hrow.alloc o).set l.length (bv c), by omega, hcm, by simpa using hcs, ?_⟩⟩
      rw [Array.toList_setIfInBounds, Nat.mul_one, List.take_set, List.take_succ_eq_append_getElem (by simpa using hlt)]
      rw [Nat.mul_one] at htake
      rw [htake]
      rw [List.set_append_right _ _ (by simp)]
      simp

set_option maxRecDepth 100000 in
set_option maxHeartbeats 2000000 in
theorem text_any (n : Nat) (w : World) :
    Calls Try.prog 33 #[wv n] w fun e w' => e = .returned (.string ⟨(txtL n (List.range 64)).toArray⟩) ∧ Ext w w' := by
  refine (callsIn_wide (n := 9)).1 ?_
  refine callsIn_of_wp_marks Try.func33 rfl trivial ?_ rfl
  simp only [Try.ntmps33, List.size_toArray, List.length_cons, List.length_nil, Nat.reduceAdd, Nat.reduceSub, Array.replicate_succ, Array.replicate_zero, List.push_toArray, List.append_toArray, List.nil_append, List.cons_append]
  unfold wv
  obtain ⟨i0, hi, hz0, hz1, hz2⟩ := info_parts u8info
  gi_wp2_with (first
    | (gi_at_make; refine wpListIn_make_own _ rfl _ _ 42 rfl w.heap.size 5 i0 (.int .u8 0) 1 Try.underlying42 hi hz0 hz1 .i64 .i64 64 64 rfl rfl rfl (by rw [hz2]; decide) (by unfold maxLen; omega) (by simp) ?_; intro w0 ho0 hg0; rw [World.size_alloc] at ho0 ⊢; have HO0 := Lib.hid ho0; have HG0 := Lib.hid hg0; clear ho0 hg0)
    | ((with_reducible refine wpListIn_load_word rfl 27 25 (.tmp 1) rfl Try.underlying27 winfo w.heap.size n ?_ ?_ ?_); (exact rfl); (exact ((Cs.new _ _ _ _ rfl).kept HG0.out (by simp)).alloc _)))
  refine ⟨trivial, ?_⟩
  refine (callsIn_wide.2 (downward_any n 4 _ rfl _)).mono ?_
  rintro e w1 ⟨g, h, rfl, hg, hh, c1, c2, hz, he⟩
  have hs0 : w.heap.size + 1 < w0.heap.size := by
    rcases HO0.out.2 with ⟨e, _⟩ | ⟨g', c', cur, e, _, hg', _⟩
    · cases e
    · injection e with e1
      injection e1 with e1
      injection e1 with e1
      subst e1
      exact (Array.getElem?_eq_some_iff.1 hg').1
  have hg' : g = w0.heap.size + 2 := by rw [hg]; simp
  have hh' : h = w0.heap.size + 1 := by rw [hh]; simp
  have hz' : w1.heap.size = w0.heap.size + 3 := by rw [hz]; simp
  have hI0 : RwI w (w0.heap.size + 3) w0.heap.size (w.heap.size + 1) 64 (txtL n []) w1 :=
    ⟨by omega, Cs.ext (Cs.new _ _ _ _ rfl) he, Own.ext (Own.ext (show Own w0 w.heap.size 5 (.slice (some ⟨w.heap.size + 1, 0, none⟩) 0 64) [] from HO0.out) ((Ext.refl w0).alloc _)) he, Ext.trans ((((Ext.refl w).alloc _).trans (ext_of_grown HG0.out)).alloc _) he⟩
  have HI0 := Lib.hid hI0
  clear hI0 hg hh hz he
  subst hg'
  subst hh'
  gi_wp2_with fail
  refine wpIn_rangeFunc_ownG rfl (by decide) (gf := 87) (lb := #[.pointer (some ⟨w0.heap.size + 2, 0, none⟩), .pointer (some ⟨w0.heap.size + 1, 0, none⟩)]) rfl trivial (enters_of Try.func87 (by kernel_rfl) rfl)
    (down1_stops 8 n 4 64 (w0.heap.size + 2) (w0.heap.size + 1) (by decide) (by decide) (by decide) (by decide) (by decide) w1 c1 c2) Kp2.tr (Kp2.putObj (by omega) (by omega)) (Below.refl _ _) (fun _ => rfl)
    (fun pre W => RwI w (w0.heap.size + 3) w0.heap.size (w.heap.size + 1) 64 (txtL n pre) W) (fun _ _ _ => False) (RwI.own (by omega) (by omega) (by omega) (txtL n)) (fun _ _ _ _ _ hs _ _ => hs) HI0.out
    (fun x => { tmps := #[.agg (wc n), .pointer (some ⟨w.heap.size, 0, none⟩), .string ⟨#[]⟩, .pointer (some ⟨w0.heap.size, 0, none⟩), .int .i64 (dAt 4 x : Nat), .int .u64 (dBits n 4 x : Nat), .slice (some ⟨w.heap.size + 1, 0, none⟩) 0 64, wv n, .func (.func 87) #[] #[.pointer (some ⟨w0.heap.size + 2, 0, none⟩), .pointer (some ⟨w0.heap.size + 1, 0, none⟩)], .int .i64 (dAt 4 x : Nat), .int .u64 (dBits n 4 x : Nat), undef, undef, undef, undef, undef, undef, undef, undef, undef, undef, undef, undef, undef, undef, undef, undef, undef, undef], defers := [] }) ?assign ?body ?done ?stop
  case assign =>
    intro l x W K hK
    unfold dEnc
    gi_wp2
    exact hK
  case body =>
    rintro l pre x W hI hlen
    have hsz := hI.1
    have HI := Lib.hid hI
    have HS := Lib.hid (show txtL n (pre ++ [x]) = if dBits n 4 x ≠ 0 ∨ txtL n pre ≠ [] ∨ dAt 4 x = 0 then txtL n pre ++ [dgt (dBits n 4 x)] else txtL n pre from txtL_snoc n pre x)
    have hb := dBits_lt n 4 x
    have hln : (txtL n pre).length < 64 := by have := txtL_len n pre; omega
    have hcl : W.cell? ⟨w0.heap.size, 0, none⟩ = some (.slice (some ⟨w.heap.size + 1, 0, none⟩) (txtL n pre).length 64) := hI.2.1.cell 0 _ rfl
    have hcf := hI.2.1.frozen 0
    clear hI hlen HI0
    generalize txtL n pre = r at *
    generalize dBits n 4 x = y at *
    generalize dAt 4 x = p at *
    have hmx : Try.prog.follows .mixedOrders = true := by kernel_rfl
    have hix := idx_digit y (by omega)
    have HL := Lib.hid (RwI.lay (RwI.drew HI.out) (.cells #[.int .u8 ((dgt y).toNat : Int)] 5) (dgt y) (by omega) (by omega) (by omega) hln)
    obtain ⟨u, hcu0⟩ := HL.out.2.2.1
    have hfu : (W.alloc (.cells #[.int .u8 ((dgt y).toNat : Int)] 5)).frozen? ⟨w.heap.size + 1, r.length, none⟩ = false := ((HI.out.row.elim fun _ h => (h.alloc _).frozen _))
    have hcu : (W.alloc (.cells #[.int .u8 ((dgt y).toNat : Int)] 5)).cell? ⟨w.heap.size + 1, r.length, none⟩ = some u := ((Ext.refl W).alloc _).cell hcu0
    clear hcu0
    have hend : ∀ (W' : World) (t : Act), (y ≠ 0 ∨ r ≠ [] ∨ p = 0) → W' = (((W.drew.alloc (.cells #[.int .u8 ((dgt y).toNat : Int)] 5)).setCell ⟨w.heap.size + 1, r.length, none⟩ (bv (dgt y))).setCell ⟨w0.heap.size, 0, none⟩ (.slice (some ⟨w.heap.size + 1, 0, none⟩) (r.length + 1) 64)) →
        ownPostG w1.heap.size (Kp2 (w0.heap.size + 2) (w0.heap.size + 1)) (fun pre W => RwI w (w0.heap.size + 3) w0.heap.size (w.heap.size + 1) 64 (txtL n pre) W) (fun _ _ _ => False) (pre ++ [x]) W .normal t W' := by
      intro W' t hc e
      subst e
      have hst := HL.out.2.1 (w0.heap.size + 2) (w0.heap.size + 1) (by show _ < W.heap.size; omega) (by show _ < W.heap.size; omega) (by omega) (by omega) (by omega) (by omega)
      have hst' := (Stp.ext (g := w0.heap.size + 2) (h := w0.heap.size + 1) (Ext.refl W).drew (by omega) (by omega)).trans hst
      refine ⟨hst'.1.from _, hst'.2, ?_⟩
      show RwI w (w0.heap.size + 3) w0.heap.size (w.heap.size + 1) 64 (txtL n (pre ++ [x])) _
      rw [HS.out, if_pos hc]
      exact HL.out.1
    have HEND := Lib.hid hend
    clear hend
    unfold bv at HEND
    have hcl1 : (W.alloc (.cells #[.int .u8 ((dgt y).toNat : Int)] 5)).cell? ⟨w0.heap.size, 0, none⟩ = some (.slice (some ⟨w.heap.size + 1, 0, none⟩) r.length 64) := (HI.out.2.1.alloc _).cell 0 _ rfl
    have hcl2 : ((W.alloc (.cells #[.int .u8 ((dgt y).toNat : Int)] 5)).setCell ⟨w.heap.size + 1, r.length, none⟩ (.int .u8 ((dgt y).toNat : Int))).cell? ⟨w0.heap.size, 0, none⟩ = some (.slice (some ⟨w.heap.size + 1, 0, none⟩) r.length 64) := ((HI.out.2.1.alloc _).kept (grown_set _ _ _ _) (some_ne (by omega))).cell 0 _ rfl
    have hcf2 : ((W.alloc (.cells #[.int .u8 ((dgt y).toNat : Int)] 5)).setCell ⟨w.heap.size + 1, r.length, none⟩ (.int .u8 ((dgt y).toNat : Int))).frozen? ⟨w0.heap.size, 0, none⟩ = false := ((HI.out.2.1.alloc _).kept (grown_set _ _ _ _) (some_ne (by omega))).frozen 0
    by_cases hy0 : y = 0
    · have hyb : ((y : Int) != 0) = false := by rw [hy0]; rfl
      have HY0 := Lib.hid hy0
      clear hy0
      by_cases hr0 : r.length = 0
      · have hrb : decide (0 < r.length) = false := by simp [hr0]
        have HR0 := Lib.hid (show r = [] from List.eq_nil_of_length_eq_zero hr0)
        clear hr0
        by_cases hp0 : p = 0
        · have hpb : ((p : Int) == 0) = true := by rw [hp0]; rfl
          have HP0 := Lib.hid hp0
          clear hp0
          gi_wp2_with fail
          gi_region_with_o (fail)
          all_goals
            gi_wp2_with fail
            exact HEND.out _ _ (.inr (.inr HP0.out)) rfl
        · have hpb : ((p : Int) == 0) = false := by simp; omega
          gi_wp2_with fail
          refine ⟨(KeepsOthers.refl _).from _, ⟨rfl, rfl⟩, ?_⟩
          show RwI w (w0.heap.size + 3) w0.heap.size (w.heap.size + 1) 64 (txtL n (pre ++ [x])) _
          rw [HS.out, if_neg (by rw [HR0.out]; have := HY0.out; simp; omega)]
          exact HI.out
      · have hlp : decide (0 < r.length) = true := by simp; omega
        gi_wp2_with fail
        gi_region_with_o (fail)
        all_goals
          gi_wp2_with fail
          exact HEND.out _ _ (.inr (.inl (fun e => hr0 (by rw [e]; rfl)))) rfl
    · have hyb : ((y : Int) != 0) = true := by simp; omega
      gi_wp2_with fail
      gi_region_with_o (fail)
      all_goals
        gi_wp2_with fail
        exact HEND.out _ _ (.inl hy0) rfl
  case done =>
    rintro D ys W hD rfl hI hK
    have HI := Lib.hid hI
    have HK := Lib.hid hK
    have hcl : W.cell? ⟨w0.heap.size, 0, none⟩ = some (.slice (some ⟨w.heap.size + 1, 0, none⟩) (txtL n (List.range 64)).length 64) := hI.2.1.cell 0 _ rfl
    have hcv := (Own.bs hI.2.2.1).conv (P := Try.prog) 42 5 9 Try.underlying42 Try.underlying5 Try.underlying9
    clear hI hK HI0
    generalize hr : txtL n (List.range 64) = r at *
    generalize hsr : (⟨r.toArray⟩ : ByteArray) = sr at *
    have HR := Lib.hid hr
    have HSR := Lib.hid hsr
    clear hr hsr
    gi_wp2_with fail
    refine ⟨by simp, .inl ⟨_, _, rfl, run_takeDeferred HK.out, ?_⟩⟩
    exact ⟨.string sr, results_tmp (t := 2) rfl _ _ _, by rw [HR.out, HSR.out], HI.out.2.2.2.grown (grownBy_putObj' _ D (.deferred none)) (by omega)⟩
  case stop =>
    rintro D c pre W _ _ h _
    exact h.elim
end Go.Proofs.Ytgmmkoahnednfaa
