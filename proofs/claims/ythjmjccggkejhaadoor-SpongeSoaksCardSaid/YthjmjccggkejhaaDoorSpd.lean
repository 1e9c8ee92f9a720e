/- Contract of Mix of lanes. -/
import Derived.Test.YthjmjccggkejhaaDoorSpc
namespace Go.Proofs.YthjmjccggkejhaaDoor
open Go.RowKit Go.Shelf
attribute [local go_sem] Oper.semAt_some

/-- The lanes of a column together, as far as the rounds of pre have come. -/
def colP (f : Nat → Nat) (pre : List Nat) (x : Nat) : Nat := pre.foldl (fun a k => if k % 5 = x then a ^^^ f (k % 25) else a) 0
set_option maxRecDepth 100000 in
theorem colP_snoc (f : Nat → Nat) (pre : List Nat) (k x : Nat) : colP f (pre ++ [k]) x = if k % 5 = x then colP f pre x ^^^ f (k % 25) else colP f pre x := by simp [colP]
set_option maxRecDepth 100000 in
theorem colP_lt (f : Nat → Nat) (hf : Lok f) (pre : List Nat) (x : Nat) : colP f pre x < 18446744073709551616 := by
  unfold colP
  suffices h : ∀ a, a < 18446744073709551616 → pre.foldl (fun a k => if k % 5 = x then a ^^^ f (k % 25) else a) a < 18446744073709551616 from h 0 (by decide)
  induction pre with
  | nil => intro a h; exact h
  | cons k pre ih =>
    intro a h
    rw [List.foldl_cons]
    apply ih
    split
    · exact xor_lt64 _ _ h (hf _ (Nat.mod_lt _ (by decide)))
    · exact h
/-- The turns. -/
def turnsF (i : Nat) : Nat := ([0, 1, 62, 28, 27, 36, 44, 6, 55, 20, 3, 10, 43, 25, 39, 41, 45, 15, 21, 8, 18, 2, 61, 56, 14] : List Nat).getD i 0
set_option maxRecDepth 100000 in
theorem turns_lt (i : Nat) (h : i < 25) : turnsF i < 64 := by
  have h' : ∀ j : Fin 25, turnsF j.val < 64 := by decide
  exact h' ⟨i, h⟩
/-- The table of turns lies there. -/
def TbT (W : World) : Prop := Tk W 0 (nc 25 turnsF)
set_option maxRecDepth 100000 in
theorem TbT.ext {W W' : World} (h : TbT W) (he : Ext W W') : TbT W' := Tk.ext h he
/-- The columns. -/
def colF (f : Nat → Nat) : Nat → Nat := colP f (List.range 25)
set_option maxRecDepth 100000 in
theorem colF_lt (f : Nat → Nat) (hf : Lok f) (x : Nat) : colF f x < 18446744073709551616 := colP_lt f hf _ x
/-- A lane with its columns. -/
def laneV (f : Nat → Nat) (x y : Nat) : Nat := f (nm x y) ^^^ colF f ((x + 4) % 5) ^^^ rot 1 (colF f ((x + 1) % 5))
set_option maxRecDepth 100000 in
theorem laneV_lt (f : Nat → Nat) (hf : Lok f) (x y : Nat) : laneV f x y < 18446744073709551616 := xor_lt64 _ _ (xor_lt64 _ _ (hf _ (nm_lt _ _)) (colF_lt f hf _)) (rot_lt _ _ (colF_lt f hf _))
/-- A lane behind Mix, and its place. -/
def mixV (f : Nat → Nat) (x y : Nat) : Nat := rot (turnsF (nm x y)) (laneV f x y)
def mixP (x y : Nat) : Nat := nm y (2 * x + 3 * y)
/-- Lanes behind Mix, as far as the rounds of pre have come. -/
def mP (f : Nat → Nat) (pre : List Nat) : Nat → Nat := pre.foldl (fun F k i => if i = mixP (k % 5) (k / 5 % 5) then mixV f (k % 5) (k / 5 % 5) else F i) (fun _ => 0)
set_option maxRecDepth 100000 in
theorem mP_snoc (f : Nat → Nat) (pre : List Nat) (k : Nat) : mP f (pre ++ [k]) = fun i => if i = mixP (k % 5) (k / 5 % 5) then mixV f (k % 5) (k / 5 % 5) else mP f pre i := by simp [mP]
def mixF (f : Nat → Nat) : Nat → Nat := mP f (List.range 25)
set_option maxRecDepth 100000 in
theorem mP_lt (f : Nat → Nat) (hf : Lok f) (pre : List Nat) : Lok (mP f pre) := by
  unfold mP
  suffices h : ∀ F, Lok F → Lok (pre.foldl (fun F k i => if i = mixP (k % 5) (k / 5 % 5) then mixV f (k % 5) (k / 5 % 5) else F i) F) from h _ (fun _ _ => by decide)
  induction pre with
  | nil => intro F h; exact h
  | cons k pre ih =>
    intro F h
    rw [List.foldl_cons]
    apply ih
    intro i hi
    dsimp only
    split
    · exact rot_lt _ _ (laneV_lt f hf _ _)
    · exact h i hi
set_option maxRecDepth 100000 in
theorem mixF_lt (f : Nat → Nat) (hf : Lok f) : Lok (mixF f) := mP_lt f hf _
set_option maxRecDepth 100000 in
theorem keep_cs {W : World} {g : Nat} {t : TypeId} {cs : Array Value} (h : Cs W g t cs) (i : Nat) (u : Value) : KeepsOthers W (W.setCell ⟨g, i, none⟩ u) :=
  KeepsOthers.of_grownBy (grown_set W g i u) (fun j o e ho => by injection e with e; subst e; unfold Cs at h; rw [h] at ho; injection ho with ho; subst ho; rfl)

/-- What a round of the columns keeps. -/
def MI1 (w : World) (f : Nat → Nat) (pre : List Nat) (W : World) : Prop :=
  Ln W (w.heap.size) f ∧ Ln W (w.heap.size + 1) (fun _ => 0) ∧ Cs W (w.heap.size + 1 + 1) 71 (nc 5 (colP f pre)) ∧ TbT W ∧ Ext w W ∧ 0 < w.heap.size
set_option maxRecDepth 100000 in
theorem MI1.drew {w : World} {f : Nat → Nat} {pre : List Nat} {W : World} (h : MI1 w f pre W) : MI1 w f pre W.drew := ⟨h.1, h.2.1, h.2.2.1, h.2.2.2.1, h.2.2.2.2.1.drew, h.2.2.2.2.2⟩
set_option maxRecDepth 100000 in
theorem MI1.put {w : World} {f : Nat → Nat} {pre : List Nat} {W : World} (h : MI1 w f pre W) (q v p : Nat) (hp : p = q % 5) (hv : v = colP f pre p ^^^ f (q % 25)) : MI1 w f (pre ++ [q]) (W.setCell ⟨w.heap.size + 1 + 1, p, none⟩ (.int .u64 (v : Nat))) := by
  have hg := h.2.2.2.2.2
  refine ⟨h.1.kept (grown_set _ _ _ _) (some_ne (by omega)), h.2.1.kept (grown_set _ _ _ _) (some_ne (by omega)), ?_, Tk.kept h.2.2.2.1 (grown_set _ _ _ _) (some_ne (by omega)), h.2.2.2.2.1.grown (grown_set _ _ _ _) (by omega), hg⟩
  have e := h.2.2.1.set p (lv v)
  rw [nc_set] at e
  have e2 : (fun i => if i = p then v else colP f pre i) = colP f (pre ++ [q]) := by
    funext i
    rw [colP_snoc]
    by_cases h : i = p
    · subst h; rw [if_pos rfl, if_pos hp.symm, hv]
    · rw [if_neg h, if_neg (by omega)]
  rw [e2] at e
  exact e
set_option maxRecDepth 100000 in
theorem MI1.own {w : World} {f : Nat → Nat} {B : Nat} (hB : w.heap.size + 3 ≤ B) : OwnFrom B (fun pre W => MI1 w f pre W) := by
  intro s A A' row h hg hr
  have hz := h.2.2.2.2.2
  exact ⟨h.1.kept hg (fun e => by have := (hr _ e.symm).1; omega), h.2.1.kept hg (fun e => by have := (hr _ e.symm).1; omega), h.2.2.1.kept hg (fun e => by have := (hr _ e.symm).1; omega), Tk.kept h.2.2.2.1 hg (fun e => by have := (hr _ e.symm).1; omega), Below.grown h.2.2.2.2.1 hg h.2.2.2.2.1.size (fun g e => by have := (hr _ e).1; omega), hz⟩
/-- What a round of the lanes keeps. -/
def MI2 (w : World) (f : Nat → Nat) (g6 : Nat) (pre : List Nat) (W : World) : Prop :=
  Ln W (w.heap.size) f ∧ Ln W (w.heap.size + 1) (fun _ => 0) ∧ Cs W (w.heap.size + 1 + 1) 71 (nc 5 (colF f)) ∧ TbT W ∧ Ln W g6 (mP f pre) ∧ Ext w W ∧ 0 < w.heap.size ∧ w.heap.size + 3 ≤ g6
set_option maxRecDepth 100000 in
theorem MI2.drew {w : World} {f : Nat → Nat} {g6 : Nat} {pre : List Nat} {W : World} (h : MI2 w f g6 pre W) : MI2 w f g6 pre W.drew := ⟨h.1, h.2.1, h.2.2.1, h.2.2.2.1, h.2.2.2.2.1, h.2.2.2.2.2.1.drew, h.2.2.2.2.2.2⟩
set_option maxRecDepth 100000 in
theorem MI2.put {w : World} {f : Nat → Nat} {g6 : Nat} {pre : List Nat} {W : World} (h : MI2 w f g6 pre W) (q v p : Nat) (hp : p = mixP (q % 5) (q / 5 % 5)) (hv : v = mixV f (q % 5) (q / 5 % 5)) : MI2 w f g6 (pre ++ [q]) (W.setCell ⟨g6, p, none⟩ (.int .u64 (v : Nat))) := by
  have hg := h.2.2.2.2.2.2
  refine ⟨h.1.kept (grown_set _ _ _ _) (some_ne (by omega)), h.2.1.kept (grown_set _ _ _ _) (some_ne (by omega)), h.2.2.1.kept (grown_set _ _ _ _) (some_ne (by omega)), Tk.kept h.2.2.2.1 (grown_set _ _ _ _) (some_ne (by omega)), ?_, h.2.2.2.2.2.1.grown (grown_set _ _ _ _) (by omega), hg⟩
  rw [mP_snoc, ← hp, ← hv]
  exact h.2.2.2.2.1.set p v
set_option maxRecDepth 100000 in
theorem MI2.own {w : World} {f : Nat → Nat} {g6 B : Nat} (hB : g6 < B) : OwnFrom B (fun pre W => MI2 w f g6 pre W) := by
  intro s A A' row h hg hr
  have hz := h.2.2.2.2.2.2
  exact ⟨h.1.kept hg (fun e => by have := (hr _ e.symm).1; omega), h.2.1.kept hg (fun e => by have := (hr _ e.symm).1; omega), h.2.2.1.kept hg (fun e => by have := (hr _ e.symm).1; omega), Tk.kept h.2.2.2.1 hg (fun e => by have := (hr _ e.symm).1; omega), h.2.2.2.2.1.kept hg (fun e => by have := (hr _ e.symm).1; omega), Below.grown h.2.2.2.2.2.1 hg h.2.2.2.2.2.1.size (fun g e => by have := (hr _ e).1; omega), hz⟩

set_option maxRecDepth 100000 in
theorem number_i (xi yi : Int) (x y : Nat) (hxi : xi = (x : Int)) (hyi : yi = (y : Int)) (w : World) (hx : x ≤ 1000) (hy : y ≤ 1000) :
    Calls Tryd.prog 49 #[.int .i64 xi, .int .i64 yi] w fun e w' => e = .returned (.int .i64 (nm x y : Nat)) ∧ w = w' := by
  subst hxi
  subst hyi
  exact number_any x y w hx hy
set_option maxRecDepth 100000 in
theorem dfr_own {B D : Nat} (h : D < B) : OwnFrom B (fun (_ : List Nat) W => W.heap[D]? = some (.deferred (some []))) := by
  intro s A A' row h' hg hr
  exact (hg.block D (Array.getElem?_eq_some_iff.1 h').1 (fun e => by have := (hr _ e.symm).1; omega)).trans h'

set_option maxRecDepth 100000 in
set_option maxHeartbeats 4000000 in
theorem mix_any (f : Nat → Nat) (w : World) (hf : Lok f) (ht : TbT w) : Calls Tryd.prog 18 #[lnv f] w fun e w' => e = .returned (lnv (mixF f)) ∧ Ext w w' := by
  have HF := Lib.hid hf
  have HT := Lib.hid ht
  clear hf ht
  refine (callsIn_wide (n := 9)).1 ?_
  refine callsIn_of_wp_marks Tryd.func18 rfl trivial ?_ rfl
  simp only [Tryd.ntmps18, List.size_toArray, List.length_cons, List.length_nil, Nat.reduceAdd, Nat.reduceSub, Array.replicate_succ, Array.replicate_zero, List.push_toArray, List.append_toArray, List.nil_append, List.cons_append]
  unfold lnv
  gi_wp2_with fail
  refine ⟨trivial, ?_⟩
  refine (callsIn_wide.2 (places_any _)).mono ?_
  rintro e w1 ⟨rfl, rfl⟩
  have HI := Lib.hid (show MI1 w f [] (((w.alloc (.cells (lc f) 35)).alloc (.cells (lc fun _ => 0) 35)).alloc (.cells (nc 5 fun _ => 0) 71)) from
    ⟨((Cs.new _ _ _ _ rfl).alloc _).alloc _, (Cs.new _ _ _ _ (by simp)).alloc _, Cs.new _ _ _ _ (by simp), ((HT.out.ext ((Ext.refl w).alloc _)).ext ((Ext.refl _).alloc _)).ext ((Ext.refl _).alloc _), (((Ext.refl w).alloc _).alloc _).alloc _, Tk.lt HT.out⟩)
  rw [lc_zero] at HI
  have HZ := Lib.hid (show w.heap.size + 3 ≤ (((w.alloc (.cells (lc f) 35)).alloc (.cells (lc fun _ => 0) 35)).alloc (.cells (nc 5 fun _ => 0) 71)).heap.size by simp)
  rw [lc_zero] at HZ
  have hn5 : nc 5 (fun _ => 0) = #[.int .u64 0, .int .u64 0, .int .u64 0, .int .u64 0, .int .u64 0] := rfl
  rw [hn5] at HI HZ
  clear hn5
  gi_wp2_with fail
  generalize (((w.alloc (.cells (lc f) 35)).alloc (.cells #[.int .u64 0, .int .u64 0, .int .u64 0, .int .u64 0, .int .u64 0, .int .u64 0, .int .u64 0, .int .u64 0, .int .u64 0, .int .u64 0, .int .u64 0, .int .u64 0, .int .u64 0, .int .u64 0, .int .u64 0, .int .u64 0, .int .u64 0, .int .u64 0, .int .u64 0, .int .u64 0, .int .u64 0, .int .u64 0, .int .u64 0, .int .u64 0, .int .u64 0] 35)).alloc (.cells #[.int .u64 0, .int .u64 0, .int .u64 0, .int .u64 0, .int .u64 0] 71)) = w1 at *
  have hZ := HZ.out
  refine wpIn_rangeFunc_ownG rfl (by decide) (gf := 68) (lb := #[]) rfl trivial (enters_of Tryd.func68 (by kernel_rfl) rfl)
    (places1_stops 8 (by decide) w1) (fun _ _ => trivial) (fun _ _ _ _ _ _ _ _ => trivial) (Below.refl _ _) (fun _ => rfl)
    (fun pre W => MI1 w f pre W) (fun _ _ _ => False) (MI1.own hZ) (fun _ _ _ _ _ hs _ _ => hs) HI.out
    (fun q => { tmps := #[.agg (lc f), .pointer (some ⟨w.heap.size, 0, none⟩), .pointer (some ⟨w.heap.size + 1, 0, none⟩), .pointer (some ⟨w.heap.size + 1 + 1, 0, none⟩), .int .i64 (q % 5 : Nat), .int .i64 (q / 5 % 5 : Nat), undef, undef, undef, undef, .func (.func 68) #[] #[], .int .i64 (q % 5 : Nat), .int .i64 (q / 5 % 5 : Nat), undef, undef, undef, undef, undef, undef, undef, undef, undef, undef, undef, undef, undef, undef, undef, undef, undef, undef, undef, undef, undef, undef, undef, undef, undef, undef, undef, undef, undef, undef, undef, undef, undef, undef, undef, undef, undef, undef, undef, undef, undef, undef, undef, undef, undef, undef, undef, undef], defers := [] }) ?assign ?body ?done ?stop
  case assign =>
    intro l x W K hK
    unfold pEnc
    gi_wp2
    exact hK
  case body =>
    rintro l pre q W0 hI hlen
    have HI := Lib.hid hI
    have hx : q % 5 < 5 := Nat.mod_lt _ (by decide)
    have hy : q / 5 % 5 < 5 := Nat.mod_lt _ (by decide)
    have hnm : nm (q % 5) (q / 5 % 5) = q % 25 := nm_of q
    clear hI hlen hZ HZ
    generalize hxq : q % 5 = x at *
    generalize hyq : q / 5 % 5 = y at *
    have HXQ := Lib.hid hxq.symm
    clear hxq hyq
    have HNM := Lib.hid hnm
    clear hnm
    gi_wp2_with fail
    refine wpIn_named fun a0 ha0 => ?_
    obtain ⟨fr, hfr⟩ : ∃ fr : (Nat → Value) → Act, ∀ V, fr V = ((((((((((a0.put (some 13) (V 0)).put (some 14) (V 1)).put (some 15) (V 2)).put (some 16) (V 3)).put (some 17) (V 4)).put (some 18) (V 5)).put (some 19) (V 6)).put (some 20) (V 7)).put (some 21) (V 8)).put (some 22) (V 9)) := ⟨fun V => ((((((((((a0.put (some 13) (V 0)).put (some 14) (V 1)).put (some 15) (V 2)).put (some 16) (V 3)).put (some 17) (V 4)).put (some 18) (V 5)).put (some 19) (V 6)).put (some 20) (V 7)).put (some 21) (V 8)).put (some 22) (V 9)), fun _ => rfl⟩
    rw [ha0] at hfr
    simp only [Act.put, List.setIfInBounds_toArray, List.set_cons_zero, List.set_cons_succ] at hfr
    have HFR := Lib.hid hfr
    clear hfr
    refine wpIn_region_inv (by kernel_rfl) (by kernel_rfl) (fun L A W => ∃ V : Nat → Value, A = fr V ∧ Vals (fun j => ([some (.int .i64 (x : Nat)), some (.pointer (some ⟨w.heap.size + 1 + 1, x, none⟩)), some (.int .u64 (colP f pre x : Nat)), some (.int .i64 (x : Nat)), some (.int .i64 (y : Nat)), some (.int .i64 (nm x y : Nat)), some (.pointer (some ⟨w.heap.size, nm x y, none⟩)), some (.int .u64 (f (nm x y) : Nat)), some (.int .u64 (colP f pre x ^^^ f (nm x y) : Nat)), some (.pointer (some ⟨w.heap.size + 1 + 1, x, none⟩)), none] : List (Option Value)).getD j none) L V ∧ (L 10 = false → (MI1 w f pre W ∧ KeepsOthers W0 W)) ∧ (L 10 = true → (MI1 w f (pre ++ [q]) W ∧ KeepsOthers W0 W))) ?_ ⟨?_, ?_, ?_, ?_, ?_, ?_, ?_, ?_, ?_, ?_, ?_, trivial⟩ ?_
    · refine ⟨fun j => a0.tmps.getD (([13, 14, 15, 16, 17, 18, 19, 20, 21, 22, 0] : List Nat).getD j 0) undef, ?_, Vals.no _ _ _ (far_none _ _ rfl), fun _ => ⟨MI1.drew HI.out, keep_drew _⟩, fun h => absurd h (by decide)⟩
      rw [HFR.out, ha0]
      rfl
    all_goals clear ha0
    · rintro L A W K hL hC hW ⟨V, rfl, HV, hb, ha⟩ hK
      have h0 : L 10 = false := hC.no hL 10 _ rfl rfl
      have hB := hb h0
      have H := Lib.hid (hK _ W ⟨upd V 0 (.int .i64 (x : Nat)), rfl, HV.up 0 _ (fun x hx => Option.some.inj hx), fun _ => hB, fun h => absurd (more_ne h rfl) (by rw [h0]; simp)⟩)
      clear hK hC hW hL HV hb ha h0
      rw [HFR.out]
      clear hB
      gi_wp2_with fail
      show K _ _
      have := H.out
      rw [HFR.out] at this
      exact this
    · rintro L A W K hL hC hW ⟨V, rfl, HV, hb, ha⟩ hK
      have e0 : V 0 = .int .i64 (x : Nat) := HV 0 _ rfl (hW 0 rfl)
      have h0 : L 10 = false := hC.no hL 10 _ rfl rfl
      have hB := hb h0
      have H := Lib.hid (hK _ W ⟨upd V 1 (.pointer (some ⟨w.heap.size + 1 + 1, x, none⟩)), rfl, HV.up 1 _ (fun x hx => Option.some.inj hx), fun _ => hB, fun h => absurd (more_ne h rfl) (by rw [h0]; simp)⟩)
      clear hK hC hW hL HV hb ha h0
      have u0 : (upd V 1 (.pointer (some ⟨w.heap.size + 1 + 1, x, none⟩))) 0 = .int .i64 (x : Nat) := e0
      have HU := Lib.hid (show (upd V 1 (.pointer (some ⟨w.heap.size + 1 + 1, x, none⟩))) 0 = .int .i64 (x : Nat) from u0)
      clear u0
      rw [HFR.out]
      rw [e0]
      clear e0
      have h1 : (0 : Int) ≤ (x : Int) := by omega
      have h2 : (x : Int) < 5 := by omega
      clear hB
      gi_wp2_with fail
      show K _ _
      have := H.out
      rw [HFR.out] at this
      obtain u0 := HU.out
      rw [u0] at this
      exact this
    · rintro L A W K hL hC hW ⟨V, rfl, HV, hb, ha⟩ hK
      have e1 : V 1 = .pointer (some ⟨w.heap.size + 1 + 1, x, none⟩) := HV 1 _ rfl (hW 1 rfl)
      have h0 : L 10 = false := hC.no hL 10 _ rfl rfl
      have hB := hb h0
      have H := Lib.hid (hK _ W ⟨upd V 2 (.int .u64 (colP f pre x : Nat)), rfl, HV.up 2 _ (fun x hx => Option.some.inj hx), fun _ => hB, fun h => absurd (more_ne h rfl) (by rw [h0]; simp)⟩)
      clear hK hC hW hL HV hb ha h0
      have u1 : (upd V 2 (.int .u64 (colP f pre x : Nat))) 1 = .pointer (some ⟨w.heap.size + 1 + 1, x, none⟩) := e1
      have HU := Lib.hid (show (upd V 2 (.int .u64 (colP f pre x : Nat))) 1 = .pointer (some ⟨w.heap.size + 1 + 1, x, none⟩) from u1)
      clear u1
      rw [HFR.out]
      rw [e1]
      clear e1
      have hc := Cs.cell hB.1.2.2.1 x _ (nc_get 5 _ x hx)
      unfold lv at hc
      clear hB
      gi_wp2_with fail
      show K _ _
      have := H.out
      rw [HFR.out] at this
      obtain u1 := HU.out
      rw [u1] at this
      exact this
    · rintro L A W K hL hC hW ⟨V, rfl, HV, hb, ha⟩ hK
      have h0 : L 10 = false := hC.no hL 10 _ rfl rfl
      have hB := hb h0
      have H := Lib.hid (hK _ W ⟨upd V 3 (.int .i64 (x : Nat)), rfl, HV.up 3 _ (fun x hx => Option.some.inj hx), fun _ => hB, fun h => absurd (more_ne h rfl) (by rw [h0]; simp)⟩)
      clear hK hC hW hL HV hb ha h0
      rw [HFR.out]
      clear hB
      gi_wp2_with fail
      show K _ _
      have := H.out
      rw [HFR.out] at this
      exact this
    · rintro L A W K hL hC hW ⟨V, rfl, HV, hb, ha⟩ hK
      have h0 : L 10 = false := hC.no hL 10 _ rfl rfl
      have hB := hb h0
      have H := Lib.hid (hK _ W ⟨upd V 4 (.int .i64 (y : Nat)), rfl, HV.up 4 _ (fun x hx => Option.some.inj hx), fun _ => hB, fun h => absurd (more_ne h rfl) (by rw [h0]; simp)⟩)
      clear hK hC hW hL HV hb ha h0
      rw [HFR.out]
      clear hB
      gi_wp2_with fail
      show K _ _
      have := H.out
      rw [HFR.out] at this
      exact this
    · rintro L A W K hL hC hW ⟨V, rfl, HV, hb, ha⟩ hK
      have e3 : V 3 = .int .i64 (x : Nat) := HV 3 _ rfl (hW 3 rfl)
      have e4 : V 4 = .int .i64 (y : Nat) := HV 4 _ rfl (hW 4 rfl)
      have h0 : L 10 = false := hC.no hL 10 _ rfl rfl
      have hB := hb h0
      have H := Lib.hid (hK _ W ⟨upd V 5 (.int .i64 (nm x y : Nat)), rfl, HV.up 5 _ (fun x hx => Option.some.inj hx), fun _ => hB, fun h => absurd (more_ne h rfl) (by rw [h0]; simp)⟩)
      clear hK hC hW hL HV hb ha h0
      have u3 : (upd V 5 (.int .i64 (nm x y : Nat))) 3 = .int .i64 (x : Nat) := e3
      have u4 : (upd V 5 (.int .i64 (nm x y : Nat))) 4 = .int .i64 (y : Nat) := e4
      have HU := Lib.hid (show (upd V 5 (.int .i64 (nm x y : Nat))) 3 = .int .i64 (x : Nat) ∧ (upd V 5 (.int .i64 (nm x y : Nat))) 4 = .int .i64 (y : Nat) from ⟨u3, u4⟩)
      clear u3 u4
      rw [HFR.out]
      rw [e3, e4]
      clear e3 e4
      clear hB
      gi_wp2_with fail
      refine ⟨trivial, ?_⟩
      refine (CallsIn.inRound _ (callsIn_wide.2 (number_any x y _ (by omega) (by omega)))).mono ?_
      rintro e wx ⟨rfl, rfl⟩
      gi_wp2_with fail
      show K _ _
      have := H.out
      rw [HFR.out] at this
      obtain ⟨u3, u4⟩ := HU.out
      rw [u3, u4] at this
      exact this
    · rintro L A W K hL hC hW ⟨V, rfl, HV, hb, ha⟩ hK
      have e5 : V 5 = .int .i64 (nm x y : Nat) := HV 5 _ rfl (hW 5 rfl)
      have h0 : L 10 = false := hC.no hL 10 _ rfl rfl
      have hB := hb h0
      have H := Lib.hid (hK _ W ⟨upd V 6 (.pointer (some ⟨w.heap.size, nm x y, none⟩)), rfl, HV.up 6 _ (fun x hx => Option.some.inj hx), fun _ => hB, fun h => absurd (more_ne h rfl) (by rw [h0]; simp)⟩)
      clear hK hC hW hL HV hb ha h0
      have u5 : (upd V 6 (.pointer (some ⟨w.heap.size, nm x y, none⟩))) 5 = .int .i64 (nm x y : Nat) := e5
      have HU := Lib.hid (show (upd V 6 (.pointer (some ⟨w.heap.size, nm x y, none⟩))) 5 = .int .i64 (nm x y : Nat) from u5)
      clear u5
      rw [HFR.out]
      rw [e5]
      clear e5
      have hi := nm_lt x y
      have h1 : (0 : Int) ≤ (nm x y : Int) := by omega
      have h2 : (nm x y : Int) < 25 := by omega
      clear hB
      gi_wp2_with fail
      show K _ _
      have := H.out
      rw [HFR.out] at this
      obtain u5 := HU.out
      rw [u5] at this
      exact this
    · rintro L A W K hL hC hW ⟨V, rfl, HV, hb, ha⟩ hK
      have e6 : V 6 = .pointer (some ⟨w.heap.size, nm x y, none⟩) := HV 6 _ rfl (hW 6 rfl)
      have h0 : L 10 = false := hC.no hL 10 _ rfl rfl
      have hB := hb h0
      have H := Lib.hid (hK _ W ⟨upd V 7 (.int .u64 (f (nm x y) : Nat)), rfl, HV.up 7 _ (fun x hx => Option.some.inj hx), fun _ => hB, fun h => absurd (more_ne h rfl) (by rw [h0]; simp)⟩)
      clear hK hC hW hL HV hb ha h0
      have u6 : (upd V 7 (.int .u64 (f (nm x y) : Nat))) 6 = .pointer (some ⟨w.heap.size, nm x y, none⟩) := e6
      have HU := Lib.hid (show (upd V 7 (.int .u64 (f (nm x y) : Nat))) 6 = .pointer (some ⟨w.heap.size, nm x y, none⟩) from u6)
      clear u6
      rw [HFR.out]
      rw [e6]
      clear e6
      have hc := Ln.cell hB.1.1 (nm x y) (nm_lt _ _)
      clear hB
      gi_wp2_with fail
      show K _ _
      have := H.out
      rw [HFR.out] at this
      obtain u6 := HU.out
      rw [u6] at this
      exact this
    · rintro L A W K hL hC hW ⟨V, rfl, HV, hb, ha⟩ hK
      have e2 : V 2 = .int .u64 (colP f pre x : Nat) := HV 2 _ rfl (hW 2 rfl)
      have e7 : V 7 = .int .u64 (f (nm x y) : Nat) := HV 7 _ rfl (hW 7 rfl)
      have h0 : L 10 = false := hC.no hL 10 _ rfl rfl
      have hB := hb h0
      have H := Lib.hid (hK _ W ⟨upd V 8 (.int .u64 (colP f pre x ^^^ f (nm x y) : Nat)), rfl, HV.up 8 _ (fun x hx => Option.some.inj hx), fun _ => hB, fun h => absurd (more_ne h rfl) (by rw [h0]; simp)⟩)
      clear hK hC hW hL HV hb ha h0
      have u2 : (upd V 8 (.int .u64 (colP f pre x ^^^ f (nm x y) : Nat))) 2 = .int .u64 (colP f pre x : Nat) := e2
      have u7 : (upd V 8 (.int .u64 (colP f pre x ^^^ f (nm x y) : Nat))) 7 = .int .u64 (f (nm x y) : Nat) := e7
      have HU := Lib.hid (show (upd V 8 (.int .u64 (colP f pre x ^^^ f (nm x y) : Nat))) 2 = .int .u64 (colP f pre x : Nat) ∧ (upd V 8 (.int .u64 (colP f pre x ^^^ f (nm x y) : Nat))) 7 = .int .u64 (f (nm x y) : Nat) from ⟨u2, u7⟩)
      clear u2 u7
      rw [HFR.out]
      rw [e2, e7]
      clear e2 e7
      have hn := u64_xor_nat (colP f pre x) (f (nm x y)) (colP_lt f HF.out pre x) (HF.out _ (nm_lt _ _))
      clear hB
      gi_wp2_with fail
      show K _ _
      have := H.out
      rw [HFR.out] at this
      obtain ⟨u2, u7⟩ := HU.out
      rw [u2, u7] at this
      exact this
    · rintro L A W K hL hC hW ⟨V, rfl, HV, hb, ha⟩ hK
      have e0 : V 0 = .int .i64 (x : Nat) := HV 0 _ rfl (hW 0 rfl)
      have h0 : L 10 = false := hC.no hL 10 _ rfl rfl
      have hB := hb h0
      have H := Lib.hid (hK _ W ⟨upd V 9 (.pointer (some ⟨w.heap.size + 1 + 1, x, none⟩)), rfl, HV.up 9 _ (fun x hx => Option.some.inj hx), fun _ => hB, fun h => absurd (more_ne h rfl) (by rw [h0]; simp)⟩)
      clear hK hC hW hL HV hb ha h0
      have u0 : (upd V 9 (.pointer (some ⟨w.heap.size + 1 + 1, x, none⟩))) 0 = .int .i64 (x : Nat) := e0
      have HU := Lib.hid (show (upd V 9 (.pointer (some ⟨w.heap.size + 1 + 1, x, none⟩))) 0 = .int .i64 (x : Nat) from u0)
      clear u0
      rw [HFR.out]
      rw [e0]
      clear e0
      have h1 : (0 : Int) ≤ (x : Int) := by omega
      have h2 : (x : Int) < 5 := by omega
      clear hB
      gi_wp2_with fail
      show K _ _
      have := H.out
      rw [HFR.out] at this
      obtain u0 := HU.out
      rw [u0] at this
      exact this
    · rintro L A W K hL hC hW ⟨V, rfl, HV, hb, ha⟩ hK
      have e9 : V 9 = .pointer (some ⟨w.heap.size + 1 + 1, x, none⟩) := HV 9 _ rfl (hW 9 rfl)
      have e8 : V 8 = .int .u64 (colP f pre x ^^^ f (nm x y) : Nat) := HV 8 _ rfl (hW 8 rfl)
      have hB := hb hL
      have H := Lib.hid (show ∀ W', (MI1 w f (pre ++ [q]) W' ∧ KeepsOthers W0 W') → K (fr V) W' from fun W' hA => hK _ W' ⟨V, rfl, HV.st 10 rfl, fun h => absurd h (by unfold More; rw [if_pos rfl]; simp), fun _ => hA⟩)
      clear hK hC hW hL HV hb ha
      have HU := Lib.hid (show V 9 = .pointer (some ⟨w.heap.size + 1 + 1, x, none⟩) ∧ V 8 = .int .u64 (colP f pre x ^^^ f (nm x y) : Nat) from ⟨e9, e8⟩)
      rw [HFR.out]
      rw [e9, e8]
      clear e9 e8
      have hz := Cs.cell hB.1.2.2.1 x _ (nc_get 5 _ x hx)
      unfold lv at hz
      have hf := Cs.frozen hB.1.2.2.1 x
      have HA := Lib.hid (And.intro (MI1.put hB.1 q (colP f pre x ^^^ f (nm x y)) x HXQ.out (by rw [HNM.out])) (hB.2.trans (keep_cs hB.1.2.2.1 x (.int .u64 (colP f pre x ^^^ f (nm x y) : Nat)))))
      clear hB
      gi_wp2_with fail
      show K _ _
      have := H.out _ HA.out
      rw [HFR.out] at this
      obtain ⟨u9, u8⟩ := HU.out
      rw [u9, u8] at this
      exact this
    · rintro L A W hL ⟨V, rfl, HV, hb, ha⟩
      have e0 : V 0 = .int .i64 (x : Nat) := HV 0 _ rfl (hL 0 (by simp))
      have e1 : V 1 = .pointer (some ⟨w.heap.size + 1 + 1, x, none⟩) := HV 1 _ rfl (hL 1 (by simp))
      have e2 : V 2 = .int .u64 (colP f pre x : Nat) := HV 2 _ rfl (hL 2 (by simp))
      have e3 : V 3 = .int .i64 (x : Nat) := HV 3 _ rfl (hL 3 (by simp))
      have e4 : V 4 = .int .i64 (y : Nat) := HV 4 _ rfl (hL 4 (by simp))
      have e5 : V 5 = .int .i64 (nm x y : Nat) := HV 5 _ rfl (hL 5 (by simp))
      have e6 : V 6 = .pointer (some ⟨w.heap.size, nm x y, none⟩) := HV 6 _ rfl (hL 6 (by simp))
      have e7 : V 7 = .int .u64 (f (nm x y) : Nat) := HV 7 _ rfl (hL 7 (by simp))
      have e8 : V 8 = .int .u64 (colP f pre x ^^^ f (nm x y) : Nat) := HV 8 _ rfl (hL 8 (by simp))
      have e9 : V 9 = .pointer (some ⟨w.heap.size + 1 + 1, x, none⟩) := HV 9 _ rfl (hL 9 (by simp))
      have hA := ha (hL 10 (by simp))
      rw [HFR.out]
      rw [e0, e1, e2, e3, e4, e5, e6, e7, e8, e9]
      clear hL HV HFR e0 e1 e2 e3 e4 e5 e6 e7 e8 e9 hb ha
      exact ⟨hA.2.from _, trivial, hA.1⟩
  case done =>
    rintro D ys W hD rfl hI hK
    have HI := Lib.hid hI
    have HK := Lib.hid hK
    have HD0 := Lib.hid (show w.heap.size + 3 ≤ D by omega)
    clear hI hK HZ hZ
    gi_wp2_with fail
    refine ⟨trivial, ?_⟩
    refine (callsIn_wide.2 (places_any _)).mono ?_
    rintro e w2 ⟨rfl, rfl⟩
    have HI2 := Lib.hid (show MI2 w f W.heap.size [] (W.alloc (.cells (lc fun _ => 0) 35)) from
      ⟨HI.out.1.ext ((Ext.refl W).alloc _), HI.out.2.1.ext ((Ext.refl W).alloc _), HI.out.2.2.1.ext ((Ext.refl W).alloc _), HI.out.2.2.2.1.ext ((Ext.refl W).alloc _), Cs.new _ _ _ _ rfl, HI.out.2.2.2.2.1.alloc _, HI.out.2.2.2.2.2, by have := HI.out.2.2.1.lt; omega⟩)
    have HK2 := Lib.hid (show (W.alloc (.cells (lc fun _ => 0) 35)).heap[D]? = some (.deferred (some [])) from (Below.heap_alloc _ _ _ (Array.getElem?_eq_some_iff.1 HK.out).1).trans HK.out)
    have hDz : D < (W.alloc (.cells (lc fun _ => 0) 35)).heap.size := (Array.getElem?_eq_some_iff.1 HK2.out).1
    have hgz : W.heap.size < (W.alloc (.cells (lc fun _ => 0) 35)).heap.size := by simp
    rw [lc_zero] at HI2 HK2 hDz hgz
    clear HI HK hD
    gi_wp2_with fail
    generalize W.alloc (.cells #[.int .u64 0, .int .u64 0, .int .u64 0, .int .u64 0, .int .u64 0, .int .u64 0, .int .u64 0, .int .u64 0, .int .u64 0, .int .u64 0, .int .u64 0, .int .u64 0, .int .u64 0, .int .u64 0, .int .u64 0, .int .u64 0, .int .u64 0, .int .u64 0, .int .u64 0, .int .u64 0, .int .u64 0, .int .u64 0, .int .u64 0, .int .u64 0, .int .u64 0] 35) = w2 at *
    generalize W.heap.size = g6 at *
    refine wpIn_rangeFunc_ownG rfl (by decide) (gf := 68) (lb := #[]) rfl trivial (enters_of Tryd.func68 (by kernel_rfl) rfl)
      (places1_stops 8 (by decide) w2) (fun _ _ => trivial) (fun _ _ _ _ _ _ _ _ => trivial) (Below.refl _ _) (fun _ => rfl)
      (fun pre W => MI2 w f g6 pre W ∧ W.heap[D]? = some (.deferred (some []))) (fun _ _ _ => False) (OwnFrom.and (MI2.own hgz) (dfr_own hDz)) (fun _ _ _ _ _ hs _ _ => hs) ⟨HI2.out, HK2.out⟩
      (fun q => { tmps := #[.agg (lc f), .pointer (some ⟨w.heap.size, 0, none⟩), .pointer (some ⟨w.heap.size + 1, 0, none⟩), .pointer (some ⟨w.heap.size + 1 + 1, 0, none⟩), undef, undef, .pointer (some ⟨g6, 0, none⟩), .int .i64 (q % 5 : Nat), .int .i64 (q / 5 % 5 : Nat), undef, .func (.func 68) #[] #[], undef, undef, undef, undef, undef, undef, undef, undef, undef, undef, undef, undef, .func (.func 68) #[] #[], .int .i64 (q % 5 : Nat), .int .i64 (q / 5 % 5 : Nat), undef, undef, undef, undef, undef, undef, undef, undef, undef, undef, undef, undef, undef, undef, undef, undef, undef, undef, undef, undef, undef, undef, undef, undef, undef, undef, undef, undef, undef, undef, undef, undef, undef, undef, undef], defers := [] }) ?assign2 ?body2 ?done2 ?stop2
    case assign2 =>
      intro l x W K hK
      unfold pEnc
      gi_wp2
      exact hK
    case body2 =>
      rintro l pre q W0 ⟨hI, hDD⟩ hlen
      have HI := Lib.hid hI
      have HDD := Lib.hid hDD
      have hx : q % 5 < 5 := Nat.mod_lt _ (by decide)
      have hy : q / 5 % 5 < 5 := Nat.mod_lt _ (by decide)
      clear hI hlen hDz hgz hDD HI2 HK2
      generalize hxq : q % 5 = x at *
      generalize hyq : q / 5 % 5 = y at *
      have HXQ := Lib.hid hxq.symm
      have HYQ := Lib.hid hyq.symm
      clear hxq hyq
      gi_wp2_with fail
      refine wpIn_named fun a0 ha0 => ?_
      obtain ⟨fr, hfr⟩ : ∃ fr : (Nat → Value) → Act, ∀ V, fr V = ((((((((((((((((((((a0.put (some 26) (V 0)).put (some 27) (V 1)).put (some 28) (V 2)).put (some 29) (V 3)).put (some 30) (V 4)).put (some 31) (V 5)).put (some 32) (V 6)).put (some 33) (V 7)).put (some 34) (V 8)).put (some 35) (V 9)).put (some 36) (V 10)).put (some 37) (V 11)).put (some 38) (V 12)).put (some 39) (V 13)).put (some 40) (V 14)).put (some 41) (V 15)).put (some 42) (V 16)).put (some 43) (V 17)).put (some 44) (V 18)).put (some 9) (V 19)) := ⟨fun V => ((((((((((((((((((((a0.put (some 26) (V 0)).put (some 27) (V 1)).put (some 28) (V 2)).put (some 29) (V 3)).put (some 30) (V 4)).put (some 31) (V 5)).put (some 32) (V 6)).put (some 33) (V 7)).put (some 34) (V 8)).put (some 35) (V 9)).put (some 36) (V 10)).put (some 37) (V 11)).put (some 38) (V 12)).put (some 39) (V 13)).put (some 40) (V 14)).put (some 41) (V 15)).put (some 42) (V 16)).put (some 43) (V 17)).put (some 44) (V 18)).put (some 9) (V 19)), fun _ => rfl⟩
      rw [ha0] at hfr
      simp only [Act.put, List.setIfInBounds_toArray, List.set_cons_zero, List.set_cons_succ] at hfr
      have HFR := Lib.hid hfr
      clear hfr
      refine wpIn_region_inv (by kernel_rfl) (by kernel_rfl) (fun L A W => ∃ V : Nat → Value, A = fr V ∧ Vals (fun j => ([some (.int .i64 (x : Nat)), some (.int .i64 (y : Nat)), some (.int .i64 (nm x y : Nat)), some (.pointer (some ⟨w.heap.size, nm x y, none⟩)), some (.int .u64 (f (nm x y) : Nat)), some (.int .i64 (x : Nat)), some (.int .i64 (x + 5 : Nat)), some (.int .i64 ((x : Int) + 5 - 1)), some (.int .i64 ((x + 4) % 5 : Nat)), some (.pointer (some ⟨w.heap.size + 1 + 1, (x + 4) % 5, none⟩)), some (.int .u64 (colF f ((x + 4) % 5) : Nat)), some (.int .u64 (f (nm x y) ^^^ colF f ((x + 4) % 5) : Nat)), some (.int .i64 (x : Nat)), some (.int .i64 (x + 1 : Nat)), some (.int .i64 ((x + 1) % 5 : Nat)), some (.pointer (some ⟨w.heap.size + 1 + 1, (x + 1) % 5, none⟩)), some (.int .u64 (colF f ((x + 1) % 5) : Nat)), some (.int .u64 (rot 1 (colF f ((x + 1) % 5)) : Nat)), some (.int .u64 (laneV f x y : Nat)), some (.int .u64 (laneV f x y : Nat))] : List (Option Value)).getD j none) L V ∧ (MI2 w f g6 pre W ∧ KeepsOthers W0 W)) ?_ ⟨?_, ?_, ?_, ?_, ?_, ?_, ?_, ?_, ?_, ?_, ?_, ?_, ?_, ?_, ?_, ?_, ?_, ?_, ?_, ?_, trivial⟩ ?_
      · refine ⟨fun j => a0.tmps.getD (([26, 27, 28, 29, 30, 31, 32, 33, 34, 35, 36, 37, 38, 39, 40, 41, 42, 43, 44, 9] : List Nat).getD j 0) undef, ?_, Vals.no _ _ _ (far_none _ _ rfl), ⟨MI2.drew HI.out, keep_drew _⟩⟩
        rw [HFR.out, ha0]
        rfl
      all_goals clear ha0
      · rintro L A W K hL hC hW ⟨V, rfl, HV, hB⟩ hK
        have H := Lib.hid (hK _ W ⟨upd V 0 (.int .i64 (x : Nat)), rfl, HV.up 0 _ (fun x hx => Option.some.inj hx), hB⟩)
        clear hK hC hW hL HV
        rw [HFR.out]
        clear hB
        gi_wp2_with fail
        show K _ _
        have := H.out
        rw [HFR.out] at this
        exact this
      · rintro L A W K hL hC hW ⟨V, rfl, HV, hB⟩ hK
        have H := Lib.hid (hK _ W ⟨upd V 1 (.int .i64 (y : Nat)), rfl, HV.up 1 _ (fun x hx => Option.some.inj hx), hB⟩)
        clear hK hC hW hL HV
        rw [HFR.out]
        clear hB
        gi_wp2_with fail
        show K _ _
        have := H.out
        rw [HFR.out] at this
        exact this
      · rintro L A W K hL hC hW ⟨V, rfl, HV, hB⟩ hK
        have e0 : V 0 = .int .i64 (x : Nat) := HV 0 _ rfl (hW 0 rfl)
        have e1 : V 1 = .int .i64 (y : Nat) := HV 1 _ rfl (hW 1 rfl)
        have H := Lib.hid (hK _ W ⟨upd V 2 (.int .i64 (nm x y : Nat)), rfl, HV.up 2 _ (fun x hx => Option.some.inj hx), hB⟩)
        clear hK hC hW hL HV
        have u0 : (upd V 2 (.int .i64 (nm x y : Nat))) 0 = .int .i64 (x : Nat) := e0
        have u1 : (upd V 2 (.int .i64 (nm x y : Nat))) 1 = .int .i64 (y : Nat) := e1
        have HU := Lib.hid (show (upd V 2 (.int .i64 (nm x y : Nat))) 0 = .int .i64 (x : Nat) ∧ (upd V 2 (.int .i64 (nm x y : Nat))) 1 = .int .i64 (y : Nat) from ⟨u0, u1⟩)
        clear u0 u1
        rw [HFR.out]
        rw [e0, e1]
        clear e0 e1
        clear hB
        gi_wp2_with fail
        refine ⟨trivial, ?_⟩
        refine (CallsIn.inRound _ (callsIn_wide.2 (number_any x y _ (by omega) (by omega)))).mono ?_
        rintro e wx ⟨rfl, rfl⟩
        gi_wp2_with fail
        show K _ _
        have := H.out
        rw [HFR.out] at this
        obtain ⟨u0, u1⟩ := HU.out
        rw [u0, u1] at this
        exact this
      · rintro L A W K hL hC hW ⟨V, rfl, HV, hB⟩ hK
        have e2 : V 2 = .int .i64 (nm x y : Nat) := HV 2 _ rfl (hW 2 rfl)
        have H := Lib.hid (hK _ W ⟨upd V 3 (.pointer (some ⟨w.heap.size, nm x y, none⟩)), rfl, HV.up 3 _ (fun x hx => Option.some.inj hx), hB⟩)
        clear hK hC hW hL HV
        have u2 : (upd V 3 (.pointer (some ⟨w.heap.size, nm x y, none⟩))) 2 = .int .i64 (nm x y : Nat) := e2
        have HU := Lib.hid (show (upd V 3 (.pointer (some ⟨w.heap.size, nm x y, none⟩))) 2 = .int .i64 (nm x y : Nat) from u2)
        clear u2
        rw [HFR.out]
        rw [e2]
        clear e2
        have hi := nm_lt x y
        have h1 : (0 : Int) ≤ (nm x y : Int) := by omega
        have h2 : (nm x y : Int) < 25 := by omega
        clear hB
        gi_wp2_with fail
        show K _ _
        have := H.out
        rw [HFR.out] at this
        obtain u2 := HU.out
        rw [u2] at this
        exact this
      · rintro L A W K hL hC hW ⟨V, rfl, HV, hB⟩ hK
        have e3 : V 3 = .pointer (some ⟨w.heap.size, nm x y, none⟩) := HV 3 _ rfl (hW 3 rfl)
        have H := Lib.hid (hK _ W ⟨upd V 4 (.int .u64 (f (nm x y) : Nat)), rfl, HV.up 4 _ (fun x hx => Option.some.inj hx), hB⟩)
        clear hK hC hW hL HV
        have u3 : (upd V 4 (.int .u64 (f (nm x y) : Nat))) 3 = .pointer (some ⟨w.heap.size, nm x y, none⟩) := e3
        have HU := Lib.hid (show (upd V 4 (.int .u64 (f (nm x y) : Nat))) 3 = .pointer (some ⟨w.heap.size, nm x y, none⟩) from u3)
        clear u3
        rw [HFR.out]
        rw [e3]
        clear e3
        have hc := Ln.cell hB.1.1 (nm x y) (nm_lt _ _)
        clear hB
        gi_wp2_with fail
        show K _ _
        have := H.out
        rw [HFR.out] at this
        obtain u3 := HU.out
        rw [u3] at this
        exact this
      · rintro L A W K hL hC hW ⟨V, rfl, HV, hB⟩ hK
        have H := Lib.hid (hK _ W ⟨upd V 5 (.int .i64 (x : Nat)), rfl, HV.up 5 _ (fun x hx => Option.some.inj hx), hB⟩)
        clear hK hC hW hL HV
        rw [HFR.out]
        clear hB
        gi_wp2_with fail
        show K _ _
        have := H.out
        rw [HFR.out] at this
        exact this
      · rintro L A W K hL hC hW ⟨V, rfl, HV, hB⟩ hK
        have e5 : V 5 = .int .i64 (x : Nat) := HV 5 _ rfl (hW 5 rfl)
        have H := Lib.hid (hK _ W ⟨upd V 6 (.int .i64 (x + 5 : Nat)), rfl, HV.up 6 _ (fun x hx => Option.some.inj hx), hB⟩)
        clear hK hC hW hL HV
        have u5 : (upd V 6 (.int .i64 (x + 5 : Nat))) 5 = .int .i64 (x : Nat) := e5
        have HU := Lib.hid (show (upd V 6 (.int .i64 (x + 5 : Nat))) 5 = .int .i64 (x : Nat) from u5)
        clear u5
        rw [HFR.out]
        rw [e5]
        clear e5
        have hq : IntKind.i64.wrap ((x : Int) + 5) = ((x + 5 : Nat) : Int) := by rw [IntWalk.i64_in _ (by omega)]; omega
        clear hB
        gi_wp2_with fail
        show K _ _
        have := H.out
        rw [HFR.out] at this
        obtain u5 := HU.out
        rw [u5] at this
        exact this
      · rintro L A W K hL hC hW ⟨V, rfl, HV, hB⟩ hK
        have e6 : V 6 = .int .i64 (x + 5 : Nat) := HV 6 _ rfl (hW 6 rfl)
        have H := Lib.hid (hK _ W ⟨upd V 7 (.int .i64 ((x : Int) + 5 - 1)), rfl, HV.up 7 _ (fun x hx => Option.some.inj hx), hB⟩)
        clear hK hC hW hL HV
        have u6 : (upd V 7 (.int .i64 ((x : Int) + 5 - 1))) 6 = .int .i64 (x + 5 : Nat) := e6
        have HU := Lib.hid (show (upd V 7 (.int .i64 ((x : Int) + 5 - 1))) 6 = .int .i64 (x + 5 : Nat) from u6)
        clear u6
        rw [HFR.out]
        rw [e6]
        clear e6
        have hq : IntKind.i64.wrap ((x : Int) + 5 - 1) = (x : Int) + 5 - 1 := IntWalk.i64_in _ (by omega)
        clear hB
        gi_wp2_with fail
        show K _ _
        have := H.out
        rw [HFR.out] at this
        obtain u6 := HU.out
        rw [u6] at this
        exact this
      · rintro L A W K hL hC hW ⟨V, rfl, HV, hB⟩ hK
        have e7 : V 7 = .int .i64 ((x : Int) + 5 - 1) := HV 7 _ rfl (hW 7 rfl)
        have H := Lib.hid (hK _ W ⟨upd V 8 (.int .i64 ((x + 4) % 5 : Nat)), rfl, HV.up 8 _ (fun x hx => Option.some.inj hx), hB⟩)
        clear hK hC hW hL HV
        have u7 : (upd V 8 (.int .i64 ((x + 4) % 5 : Nat))) 7 = .int .i64 ((x : Int) + 5 - 1) := e7
        have HU := Lib.hid (show (upd V 8 (.int .i64 ((x + 4) % 5 : Nat))) 7 = .int .i64 ((x : Int) + 5 - 1) from u7)
        clear u7
        rw [HFR.out]
        rw [e7]
        clear e7
        have hq : Int.tmod ((x : Int) + 5 - 1) 5 = (((x + 4) % 5 : Nat) : Int) := by rw [Int.tmod_eq_emod_of_nonneg (by omega)]; omega
        have hq2 : ((x : Int) + 5 - 1) % 5 = (((x + 4) % 5 : Nat) : Int) := by omega
        clear hB
        gi_wp2_with fail
        show K _ _
        have := H.out
        rw [HFR.out] at this
        obtain u7 := HU.out
        rw [u7] at this
        exact this
      · rintro L A W K hL hC hW ⟨V, rfl, HV, hB⟩ hK
        have e8 : V 8 = .int .i64 ((x + 4) % 5 : Nat) := HV 8 _ rfl (hW 8 rfl)
        have H := Lib.hid (hK _ W ⟨upd V 9 (.pointer (some ⟨w.heap.size + 1 + 1, (x + 4) % 5, none⟩)), rfl, HV.up 9 _ (fun x hx => Option.some.inj hx), hB⟩)
        clear hK hC hW hL HV
        have u8 : (upd V 9 (.pointer (some ⟨w.heap.size + 1 + 1, (x + 4) % 5, none⟩))) 8 = .int .i64 ((x + 4) % 5 : Nat) := e8
        have HU := Lib.hid (show (upd V 9 (.pointer (some ⟨w.heap.size + 1 + 1, (x + 4) % 5, none⟩))) 8 = .int .i64 ((x + 4) % 5 : Nat) from u8)
        clear u8
        rw [HFR.out]
        rw [e8]
        clear e8
        have hm := Nat.mod_lt (x + 4) (show 0 < 5 by decide)
        have h1 : (0 : Int) ≤ (((x + 4) % 5 : Nat) : Int) := by omega
        have h2 : (((x + 4) % 5 : Nat) : Int) < 5 := by omega
        clear hB
        gi_wp2_with fail
        show K _ _
        have := H.out
        rw [HFR.out] at this
        obtain u8 := HU.out
        rw [u8] at this
        exact this
      · rintro L A W K hL hC hW ⟨V, rfl, HV, hB⟩ hK
        have e9 : V 9 = .pointer (some ⟨w.heap.size + 1 + 1, (x + 4) % 5, none⟩) := HV 9 _ rfl (hW 9 rfl)
        have H := Lib.hid (hK _ W ⟨upd V 10 (.int .u64 (colF f ((x + 4) % 5) : Nat)), rfl, HV.up 10 _ (fun x hx => Option.some.inj hx), hB⟩)
        clear hK hC hW hL HV
        have u9 : (upd V 10 (.int .u64 (colF f ((x + 4) % 5) : Nat))) 9 = .pointer (some ⟨w.heap.size + 1 + 1, (x + 4) % 5, none⟩) := e9
        have HU := Lib.hid (show (upd V 10 (.int .u64 (colF f ((x + 4) % 5) : Nat))) 9 = .pointer (some ⟨w.heap.size + 1 + 1, (x + 4) % 5, none⟩) from u9)
        clear u9
        rw [HFR.out]
        rw [e9]
        clear e9
        have hc := Cs.cell hB.1.2.2.1 ((x + 4) % 5) _ (nc_get 5 _ _ (Nat.mod_lt _ (by decide)))
        unfold lv at hc
        clear hB
        gi_wp2_with fail
        show K _ _
        have := H.out
        rw [HFR.out] at this
        obtain u9 := HU.out
        rw [u9] at this
        exact this
      · rintro L A W K hL hC hW ⟨V, rfl, HV, hB⟩ hK
        have e4 : V 4 = .int .u64 (f (nm x y) : Nat) := HV 4 _ rfl (hW 4 rfl)
        have e10 : V 10 = .int .u64 (colF f ((x + 4) % 5) : Nat) := HV 10 _ rfl (hW 10 rfl)
        have H := Lib.hid (hK _ W ⟨upd V 11 (.int .u64 (f (nm x y) ^^^ colF f ((x + 4) % 5) : Nat)), rfl, HV.up 11 _ (fun x hx => Option.some.inj hx), hB⟩)
        clear hK hC hW hL HV
        have u4 : (upd V 11 (.int .u64 (f (nm x y) ^^^ colF f ((x + 4) % 5) : Nat))) 4 = .int .u64 (f (nm x y) : Nat) := e4
        have u10 : (upd V 11 (.int .u64 (f (nm x y) ^^^ colF f ((x + 4) % 5) : Nat))) 10 = .int .u64 (colF f ((x + 4) % 5) : Nat) := e10
        have HU := Lib.hid (show (upd V 11 (.int .u64 (f (nm x y) ^^^ colF f ((x + 4) % 5) : Nat))) 4 = .int .u64 (f (nm x y) : Nat) ∧ (upd V 11 (.int .u64 (f (nm x y) ^^^ colF f ((x + 4) % 5) : Nat))) 10 = .int .u64 (colF f ((x + 4) % 5) : Nat) from ⟨u4, u10⟩)
        clear u4 u10
        rw [HFR.out]
        rw [e4, e10]
        clear e4 e10
        have hn := u64_xor_nat (f (nm x y)) (colF f ((x + 4) % 5)) (HF.out _ (nm_lt _ _)) (colF_lt f HF.out _)
        clear hB
        gi_wp2_with fail
        show K _ _
        have := H.out
        rw [HFR.out] at this
        obtain ⟨u4, u10⟩ := HU.out
        rw [u4, u10] at this
        exact this
      · rintro L A W K hL hC hW ⟨V, rfl, HV, hB⟩ hK
        have H := Lib.hid (hK _ W ⟨upd V 12 (.int .i64 (x : Nat)), rfl, HV.up 12 _ (fun x hx => Option.some.inj hx), hB⟩)
        clear hK hC hW hL HV
        rw [HFR.out]
        clear hB
        gi_wp2_with fail
        show K _ _
        have := H.out
        rw [HFR.out] at this
        exact this
      · rintro L A W K hL hC hW ⟨V, rfl, HV, hB⟩ hK
        have e12 : V 12 = .int .i64 (x : Nat) := HV 12 _ rfl (hW 12 rfl)
        have H := Lib.hid (hK _ W ⟨upd V 13 (.int .i64 (x + 1 : Nat)), rfl, HV.up 13 _ (fun x hx => Option.some.inj hx), hB⟩)
        clear hK hC hW hL HV
        have u12 : (upd V 13 (.int .i64 (x + 1 : Nat))) 12 = .int .i64 (x : Nat) := e12
        have HU := Lib.hid (show (upd V 13 (.int .i64 (x + 1 : Nat))) 12 = .int .i64 (x : Nat) from u12)
        clear u12
        rw [HFR.out]
        rw [e12]
        clear e12
        have hq : IntKind.i64.wrap ((x : Int) + 1) = ((x + 1 : Nat) : Int) := by rw [IntWalk.i64_in _ (by omega)]; omega
        clear hB
        gi_wp2_with fail
        show K _ _
        have := H.out
        rw [HFR.out] at this
        obtain u12 := HU.out
        rw [u12] at this
        exact this
      · rintro L A W K hL hC hW ⟨V, rfl, HV, hB⟩ hK
        have e13 : V 13 = .int .i64 (x + 1 : Nat) := HV 13 _ rfl (hW 13 rfl)
        have H := Lib.hid (hK _ W ⟨upd V 14 (.int .i64 ((x + 1) % 5 : Nat)), rfl, HV.up 14 _ (fun x hx => Option.some.inj hx), hB⟩)
        clear hK hC hW hL HV
        have u13 : (upd V 14 (.int .i64 ((x + 1) % 5 : Nat))) 13 = .int .i64 (x + 1 : Nat) := e13
        have HU := Lib.hid (show (upd V 14 (.int .i64 ((x + 1) % 5 : Nat))) 13 = .int .i64 (x + 1 : Nat) from u13)
        clear u13
        rw [HFR.out]
        rw [e13]
        clear e13
        have hq : Int.tmod ((x + 1 : Nat) : Int) 5 = (((x + 1) % 5 : Nat) : Int) := by rw [Int.tmod_eq_emod_of_nonneg (by omega)]; omega
        have hq2 : ((x + 1 : Nat) : Int) % 5 = (((x + 1) % 5 : Nat) : Int) := by omega
        clear hB
        gi_wp2_with fail
        show K _ _
        have := H.out
        rw [HFR.out] at this
        obtain u13 := HU.out
        rw [u13] at this
        exact this
      · rintro L A W K hL hC hW ⟨V, rfl, HV, hB⟩ hK
        have e14 : V 14 = .int .i64 ((x + 1) % 5 : Nat) := HV 14 _ rfl (hW 14 rfl)
        have H := Lib.hid (hK _ W ⟨upd V 15 (.pointer (some ⟨w.heap.size + 1 + 1, (x + 1) % 5, none⟩)), rfl, HV.up 15 _ (fun x hx => Option.some.inj hx), hB⟩)
        clear hK hC hW hL HV
        have u14 : (upd V 15 (.pointer (some ⟨w.heap.size + 1 + 1, (x + 1) % 5, none⟩))) 14 = .int .i64 ((x + 1) % 5 : Nat) := e14
        have HU := Lib.hid (show (upd V 15 (.pointer (some ⟨w.heap.size + 1 + 1, (x + 1) % 5, none⟩))) 14 = .int .i64 ((x + 1) % 5 : Nat) from u14)
        clear u14
        rw [HFR.out]
        rw [e14]
        clear e14
        have hm := Nat.mod_lt (x + 1) (show 0 < 5 by decide)
        have h1 : (0 : Int) ≤ (((x + 1) % 5 : Nat) : Int) := by omega
        have h2 : (((x + 1) % 5 : Nat) : Int) < 5 := by omega
        clear hB
        gi_wp2_with fail
        show K _ _
        have := H.out
        rw [HFR.out] at this
        obtain u14 := HU.out
        rw [u14] at this
        exact this
      · rintro L A W K hL hC hW ⟨V, rfl, HV, hB⟩ hK
        have e15 : V 15 = .pointer (some ⟨w.heap.size + 1 + 1, (x + 1) % 5, none⟩) := HV 15 _ rfl (hW 15 rfl)
        have H := Lib.hid (hK _ W ⟨upd V 16 (.int .u64 (colF f ((x + 1) % 5) : Nat)), rfl, HV.up 16 _ (fun x hx => Option.some.inj hx), hB⟩)
        clear hK hC hW hL HV
        have u15 : (upd V 16 (.int .u64 (colF f ((x + 1) % 5) : Nat))) 15 = .pointer (some ⟨w.heap.size + 1 + 1, (x + 1) % 5, none⟩) := e15
        have HU := Lib.hid (show (upd V 16 (.int .u64 (colF f ((x + 1) % 5) : Nat))) 15 = .pointer (some ⟨w.heap.size + 1 + 1, (x + 1) % 5, none⟩) from u15)
        clear u15
        rw [HFR.out]
        rw [e15]
        clear e15
        have hc := Cs.cell hB.1.2.2.1 ((x + 1) % 5) _ (nc_get 5 _ _ (Nat.mod_lt _ (by decide)))
        unfold lv at hc
        clear hB
        gi_wp2_with fail
        show K _ _
        have := H.out
        rw [HFR.out] at this
        obtain u15 := HU.out
        rw [u15] at this
        exact this
      · rintro L A W K hL hC hW ⟨V, rfl, HV, hB⟩ hK
        have e16 : V 16 = .int .u64 (colF f ((x + 1) % 5) : Nat) := HV 16 _ rfl (hW 16 rfl)
        have H := Lib.hid (hK _ W ⟨upd V 17 (.int .u64 (rot 1 (colF f ((x + 1) % 5)) : Nat)), rfl, HV.up 17 _ (fun x hx => Option.some.inj hx), hB⟩)
        clear hK hC hW hL HV
        have u16 : (upd V 17 (.int .u64 (rot 1 (colF f ((x + 1) % 5)) : Nat))) 16 = .int .u64 (colF f ((x + 1) % 5) : Nat) := e16
        have HU := Lib.hid (show (upd V 17 (.int .u64 (rot 1 (colF f ((x + 1) % 5)) : Nat))) 16 = .int .u64 (colF f ((x + 1) % 5) : Nat) from u16)
        clear u16
        rw [HFR.out]
        rw [e16]
        clear e16
        clear hB
        gi_wp2_with fail
        refine ⟨trivial, ?_⟩
        refine (CallsIn.inRound _ (callsIn_wide.2 (turned_any 1 (colF f ((x + 1) % 5)) _ (by decide) (colF_lt f HF.out _)))).mono ?_
        rintro e wx ⟨rfl, rfl⟩
        gi_wp2_with fail
        show K _ _
        have := H.out
        rw [HFR.out] at this
        obtain u16 := HU.out
        rw [u16] at this
        exact this
      · rintro L A W K hL hC hW ⟨V, rfl, HV, hB⟩ hK
        have e11 : V 11 = .int .u64 (f (nm x y) ^^^ colF f ((x + 4) % 5) : Nat) := HV 11 _ rfl (hW 11 rfl)
        have e17 : V 17 = .int .u64 (rot 1 (colF f ((x + 1) % 5)) : Nat) := HV 17 _ rfl (hW 17 rfl)
        have H := Lib.hid (hK _ W ⟨upd V 18 (.int .u64 (laneV f x y : Nat)), rfl, HV.up 18 _ (fun x hx => Option.some.inj hx), hB⟩)
        clear hK hC hW hL HV
        have u11 : (upd V 18 (.int .u64 (laneV f x y : Nat))) 11 = .int .u64 (f (nm x y) ^^^ colF f ((x + 4) % 5) : Nat) := e11
        have u17 : (upd V 18 (.int .u64 (laneV f x y : Nat))) 17 = .int .u64 (rot 1 (colF f ((x + 1) % 5)) : Nat) := e17
        have HU := Lib.hid (show (upd V 18 (.int .u64 (laneV f x y : Nat))) 11 = .int .u64 (f (nm x y) ^^^ colF f ((x + 4) % 5) : Nat) ∧ (upd V 18 (.int .u64 (laneV f x y : Nat))) 17 = .int .u64 (rot 1 (colF f ((x + 1) % 5)) : Nat) from ⟨u11, u17⟩)
        clear u11 u17
        rw [HFR.out]
        rw [e11, e17]
        clear e11 e17
        have hn := u64_xor_nat (f (nm x y) ^^^ colF f ((x + 4) % 5)) (rot 1 (colF f ((x + 1) % 5))) (xor_lt64 _ _ (HF.out _ (nm_lt _ _)) (colF_lt f HF.out _)) (rot_lt _ _ (colF_lt f HF.out _))
        clear hB
        gi_wp2_with fail
        show K _ _
        have := H.out
        rw [HFR.out] at this
        obtain ⟨u11, u17⟩ := HU.out
        rw [u11, u17] at this
        exact this
      · rintro L A W K hL hC hW ⟨V, rfl, HV, hB⟩ hK
        have e18 : V 18 = .int .u64 (laneV f x y : Nat) := HV 18 _ rfl (hW 18 rfl)
        have H := Lib.hid (hK _ W ⟨upd V 19 (.int .u64 (laneV f x y : Nat)), rfl, HV.up 19 _ (fun x hx => Option.some.inj hx), hB⟩)
        clear hK hC hW hL HV
        have u18 : (upd V 19 (.int .u64 (laneV f x y : Nat))) 18 = .int .u64 (laneV f x y : Nat) := e18
        have HU := Lib.hid (show (upd V 19 (.int .u64 (laneV f x y : Nat))) 18 = .int .u64 (laneV f x y : Nat) from u18)
        clear u18
        rw [HFR.out]
        rw [e18]
        clear e18
        clear hB
        gi_wp2_with fail
        show K _ _
        have := H.out
        rw [HFR.out] at this
        obtain u18 := HU.out
        rw [u18] at this
        exact this
      · rintro L A W hL ⟨V, rfl, HV, hB⟩
        have e0 : V 0 = .int .i64 (x : Nat) := HV 0 _ rfl (hL 0 (by simp))
        have e1 : V 1 = .int .i64 (y : Nat) := HV 1 _ rfl (hL 1 (by simp))
        have e2 : V 2 = .int .i64 (nm x y : Nat) := HV 2 _ rfl (hL 2 (by simp))
        have e3 : V 3 = .pointer (some ⟨w.heap.size, nm x y, none⟩) := HV 3 _ rfl (hL 3 (by simp))
        have e4 : V 4 = .int .u64 (f (nm x y) : Nat) := HV 4 _ rfl (hL 4 (by simp))
        have e5 : V 5 = .int .i64 (x : Nat) := HV 5 _ rfl (hL 5 (by simp))
        have e6 : V 6 = .int .i64 (x + 5 : Nat) := HV 6 _ rfl (hL 6 (by simp))
        have e7 : V 7 = .int .i64 ((x : Int) + 5 - 1) := HV 7 _ rfl (hL 7 (by simp))
        have e8 : V 8 = .int .i64 ((x + 4) % 5 : Nat) := HV 8 _ rfl (hL 8 (by simp))
        have e9 : V 9 = .pointer (some ⟨w.heap.size + 1 + 1, (x + 4) % 5, none⟩) := HV 9 _ rfl (hL 9 (by simp))
        have e10 : V 10 = .int .u64 (colF f ((x + 4) % 5) : Nat) := HV 10 _ rfl (hL 10 (by simp))
        have e11 : V 11 = .int .u64 (f (nm x y) ^^^ colF f ((x + 4) % 5) : Nat) := HV 11 _ rfl (hL 11 (by simp))
        have e12 : V 12 = .int .i64 (x : Nat) := HV 12 _ rfl (hL 12 (by simp))
        have e13 : V 13 = .int .i64 (x + 1 : Nat) := HV 13 _ rfl (hL 13 (by simp))
        have e14 : V 14 = .int .i64 ((x + 1) % 5 : Nat) := HV 14 _ rfl (hL 14 (by simp))
        have e15 : V 15 = .pointer (some ⟨w.heap.size + 1 + 1, (x + 1) % 5, none⟩) := HV 15 _ rfl (hL 15 (by simp))
        have e16 : V 16 = .int .u64 (colF f ((x + 1) % 5) : Nat) := HV 16 _ rfl (hL 16 (by simp))
        have e17 : V 17 = .int .u64 (rot 1 (colF f ((x + 1) % 5)) : Nat) := HV 17 _ rfl (hL 17 (by simp))
        have e18 : V 18 = .int .u64 (laneV f x y : Nat) := HV 18 _ rfl (hL 18 (by simp))
        have e19 : V 19 = .int .u64 (laneV f x y : Nat) := HV 19 _ rfl (hL 19 (by simp))
        rw [HFR.out]
        rw [e0, e1, e2, e3, e4, e5, e6, e7, e8, e9, e10, e11, e12, e13, e14, e15, e16, e17, e18, e19]
        clear hL HV HFR e0 e1 e2 e3 e4 e5 e6 e7 e8 e9 e10 e11 e12 e13 e14 e15 e16 e17 e18 e19
        have HI := Lib.hid hB.1
        have HKO := Lib.hid hB.2
        clear hB
        gi_wp2_with fail
        refine ⟨trivial, ?_⟩
        refine (CallsIn.inRound _ (callsIn_wide.2 (number_i _ _ y (2 * x + 3 * y) rfl (by omega) _ (by omega) (by omega)))).mono ?_
        rintro e wa ⟨rfl, rfl⟩
        gi_wp2_with fail
        refine ⟨trivial, ?_⟩
        refine (CallsIn.inRound _ (callsIn_wide.2 (number_any x y _ (by omega) (by omega)))).mono ?_
        rintro e wb ⟨rfl, rfl⟩
        have hc : W.cell? ⟨0, nm x y, none⟩ = some (.int .u64 (turnsF (nm x y) : Nat)) := Tk.cell HI.out.2.2.2.1 (nm x y) _ (nc_get 25 turnsF _ (nm_lt _ _))
        have hi := nm_lt x y
        have hj := nm_lt y (2 * x + 3 * y)
        have ht := turns_lt (nm x y) (nm_lt _ _)
        have h1 : (0 : Int) ≤ (nm x y : Int) := by omega
        have h2 : (nm x y : Int) < 25 := by omega
        have h3 : (0 : Int) ≤ (nm y (2 * x + 3 * y) : Int) := by omega
        have h4 : (nm y (2 * x + 3 * y) : Int) < 25 := by omega
        gi_wp2_with fail
        refine ⟨trivial, ?_⟩
        refine (CallsIn.inRound _ (callsIn_wide.2 (turned_any (turnsF (nm x y)) (laneV f x y) _ ht (laneV_lt f HF.out x y)))).mono ?_
        rintro e wd ⟨rfl, rfl⟩
        clear hc
        have hz := Ln.cell HI.out.2.2.2.2.1 (nm y (2 * x + 3 * y)) hj
        have hf := Cs.frozen HI.out.2.2.2.2.1 (nm y (2 * x + 3 * y))
        have HP := Lib.hid (MI2.put HI.out q (mixV f x y) (mixP x y) (by rw [HXQ.out, HYQ.out]) (by rw [HXQ.out, HYQ.out]))
        gi_wp2_with fail
        exact ⟨(HKO.out.trans (keep_set HI.out.2.2.2.2.1 _ _)).from _, trivial, HP.out, (HKO.out.trans (keep_set HI.out.2.2.2.2.1 (mixP x y) (.int .u64 (mixV f x y : Nat)))).same D _ HDD.out rfl⟩
    case done2 =>
      rintro D2 ys W hD2 rfl ⟨hI, hDD⟩ hE2
      have HE2 := Lib.hid hE2
      have HDD := Lib.hid hDD
      have HI := Lib.hid hI
      clear hE2 hDD hI HI2 HK2
      gi_wp2_with (first
        | ((with_reducible refine wpListIn_load_lanes ?_ (.tmp 6) ?_ g6 (mixF f) ?_ ?_ ?_); (exact rfl); (exact rfl); (exact rfl); (exact HI.out.2.2.2.2.1))
        | ((with_reducible refine wpListIn_store_lanes ?_ ?_ (.tmp 2) (.tmp 60) ?_ (w.heap.size + 1) (lc fun _ => 0) (mixF f) ?_ ?_ ?_ ?_ ?_); (exact rfl); (exact rfl); (exact rfl); (exact rfl); (exact rfl); (exact HI.out.2.1); (exact lc_size _); intro w4 k4 g4; have K4 := Lib.hid k4; have G4 := Lib.hid g4; clear k4 g4))
      have hKO := KeepsOthers.of_grownBy G4.out (fun j o e ho => by injection e with e; subst e; have := HI.out.2.1; unfold Ln Cs at this; rw [this] at ho; injection ho with ho; subst ho; rfl)
      have hK1 := hKO.same D _ HDD.out rfl
      have hK2 := hKO.same D2 _ HE2.out rfl
      have hd0 := HD0.out
      have hz2 := HI.out.2.2.2.2.2.2.2
      have hK1' : (w4.putObj D2 (.deferred none)).heap[D]? = some (.deferred (some [])) := (World.putObj_heap_other (by omega)).trans hK1
      refine ⟨by simp, .inl ⟨_, _, rfl, run_takeDeferred hK2, ⟨by simp, .inl ⟨_, _, rfl, run_takeDeferred hK1', ?_⟩⟩⟩⟩
      exact ⟨_, results_lanes Tryd.results18 _ _ (w.heap.size + 1) (mixF f) rfl ((K4.out.kept (grownBy_putObj' _ D2 (.deferred none)) (some_ne (by omega))).kept (grownBy_putObj' _ D (.deferred none)) (some_ne (by omega))), rfl, ((HI.out.2.2.2.2.2.1.grown G4.out (by omega)).grown (grownBy_putObj' _ D2 (.deferred none)) (by omega)).grown (grownBy_putObj' _ D (.deferred none)) (by omega)⟩
    case stop2 =>
      rintro D c pre W _ _ h _
      exact h.elim
  case stop =>
    rintro D c pre W _ _ h _
    exact h.elim
end Go.Proofs.YthjmjccggkejhaaDoor
