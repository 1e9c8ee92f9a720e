/- The law's helpers: one. The law's wakes. -/
import Derived.Test.YtiojfpdjnblkhaaQStr
namespace Go.Proofs.Ytiojfpdjnblkhaa
open Go.ChangeShapes Go.WideShapes Go.ChangeAt Go.RowKit Go.Shelf

def oneA (a : Ac) : Ac := { a with code := a.code.take 201, store := a.store.take 25 }
theorem Pks.takeMin {W : World} {A : Option Addr} {n c : Nat} {l : List (Nat × Nat)} (h : Pks W (.slice A n c) l) (m k : Nat) (hk : k = min l.length m) : Rs W 8 (.slice A k c) k (pkf (l.take m)) ∧ (l.take m).length = k := by
 have hr := h.rs
 obtain ⟨A', c', e, h1, h2⟩ := h.len
 injection e with e1 e2 e3
 subst e1 e2 e3
 have hl : (l.take m).length = k := by rw [List.length_take, hk]; omega
 refine ⟨?_, hl⟩
 have := hr.take k (by omega)
 have e : (pkf l).take (k * 8) = pkf (l.take m) := by
  have hlm : l.take m = l.take k := by
   subst hk
   rcases Nat.le_total l.length m with h | h
   ·rw [Nat.min_eq_left h, List.take_of_length_le h, List.take_length]
   ·rw [Nat.min_eq_right h]
  rw [hlm]
  have hk' : k ≤ l.length := by omega
  clear this hr hlm hl hk h
  clear h1 h2
  induction l generalizing k with
  | nil => simp [pkf]
  | cons p l ih =>
   cases k with
   | zero => simp [pkf]
   | succ k =>
    have hpc : (pkc p).toList.length = 8 := rfl
    rw [List.take_succ_cons]
    show ((pkc p).toList ++ pkf l).take ((k + 1) * 8) = (pkc p).toList ++ pkf (l.take k)
    rw [List.take_append, hpc, show (k + 1) * 8 - 8 = k * 8 by omega, List.take_of_length_le (by rw [hpc]; omega), ih k (by simpa using hk')]
 rw [e] at this
 exact this
set_option maxRecDepth 100000 in
set_option maxHeartbeats 4000000 in
theorem one_any (a : Ac) (u v : Value) (w : World) (hu : Bs w u a.code) (hv : Pks w v a.store) :
  Calls Try.prog 40 #[.agg (acc a u v)] w fun e w' => ∃ u' v', e = .returned (.agg (acc (oneA a) u' v')) ∧ AcO w.heap.size w' (oneA a) u' v' ∧ Ext w w' := by
 have HU := Lib.hid hu
 have HV := Lib.hid hv
 obtain ⟨A1, c1, rfl, z1, z2, _⟩ := hu
 obtain ⟨A2, c2, rfl, z3, z4⟩ := hv.len
 unfold maxLen at z2 z4
 have HK : Hid (Ab ((w.alloc (.cells (acc a (.slice A1 a.code.length c1) (.slice A2 a.store.length c2)) 37)).alloc (.cells az0 37)) w.heap.size a (.slice A1 a.code.length c1) (.slice A2 a.store.length c2)) := Lib.hid (Cs.alloc (Cs.new _ _ _ _ rfl) _)
 have HZ : Hid (Cs ((w.alloc (.cells (acc a (.slice A1 a.code.length c1) (.slice A2 a.store.length c2)) 37)).alloc (.cells az0 37)) (w.heap.size + 1) 37 az0) := Lib.hid (Cs.new _ _ _ _ (by simp))
 have HE := Lib.hid (((Ext.refl w).alloc (.cells (acc a (.slice A1 a.code.length c1) (.slice A2 a.store.length c2)) 37)).alloc (.cells az0 37))
 have HSZ := Lib.hid (show ((w.alloc (.cells (acc a (.slice A1 a.code.length c1) (.slice A2 a.store.length c2)) 37)).alloc (.cells az0 37)).heap.size = w.heap.size + 1 + 1 by simp)
 obtain ⟨w0, hw0⟩ : ∃ w0, (w.alloc (.cells (acc a (.slice A1 a.code.length c1) (.slice A2 a.store.length c2)) 37)).alloc (.cells az0 37) = w0 := ⟨_, rfl⟩
 obtain ⟨cs, hcs⟩ : ∃ cs, acc a (.slice A1 a.code.length c1) (.slice A2 a.store.length c2) = cs := ⟨_, rfl⟩
 have HCS := Lib.hid hcs
 have hcs6 : cs[6]? = some (.slice A1 a.code.length c1) := by rw [← hcs]; rfl
 have hcs7 : cs[7]? = some (.slice A2 a.store.length c2) := by rw [← hcs]; rfl
 rw [hw0] at HK HE HZ HSZ
 rw [hcs] at hw0 ⊢
 unfold az0 at hw0
 have HW0 := Lib.hid hw0
 clear hv hcs hw0
 go_enter Try.func40, Try.ntmps40
 go_upto_region 1 with fail
 rw [HW0.out]
 obtain ⟨l1, hl1⟩ : ∃ l1, a.code.take 201 = l1 := ⟨_, rfl⟩
 have HL1 := Lib.hid hl1
 have HT1 := Lib.hid (fun W (h : Ext w W) => show Bs W (.slice A1 (min (a.code.length : Int) 201).toNat c1) l1 from by rw [← hl1]; exact (HU.out.ext h).takeMin 201 _ (by omega))
 have HLL := Lib.hid (show l1.length ≤ 201 by rw [← hl1]; simp; omega)
 obtain ⟨s1, hs1⟩ : ∃ s1, a.store.take 25 = s1 := ⟨_, rfl⟩
 have HS1 := Lib.hid hs1
 have HT2 := Lib.hid (fun W (h : Ext w W) => show Rs W 8 (.slice A2 (min (a.store.length : Int) 25).toNat c2) s1.length (pkf s1) ∧ (s1.length ≤ 25) from by
  have := (HV.out.ext h).takeMin 25 (min (a.store.length : Int) 25).toNat (by omega)
  rw [hs1] at this
  rw [this.2]
  exact ⟨this.1, by omega⟩)
 have HPW := Lib.hid (show ∀ p ∈ s1, p.1 < M256 ∧ p.2 < M256 from fun p hp => HV.out.words p (by rw [← hs1] at hp; exact List.mem_of_mem_take hp))
 clear hl1 hs1
 have q6 : (w0.alloc (.cells #[] 5)).cell? ⟨w.heap.size, 6, none⟩ = some (.slice A1 a.code.length c1) := (Ab.ext HK.out ((Ext.refl w0).alloc _)).code
 go_upto_region 2 with (at_builtin; go_loud (refine wpList_append_bytes rfl (.tmp 3) (.tmp 10) _ rfl (w.heap.size + 1 + 1) 5 Try.underlying34 u8info _ [] rfl (own_made w0 (w.heap.size + 1 + 1) 5 (by rw [HSZ.out]; omega)) _ l1 rfl (HT1.out _ (HE.out.alloc (.cells #[] 5))) (by have := HLL.out; simp; omega) (by simp; rw [HSZ.out]; omega) ?_); intro v1 w1 ho hg hat; rw [List.nil_append] at ho; have HX1 := Lib.hid (show Ext w0 w1 from ((Ext.refl w0).alloc (.cells #[] 5)).grown hg (Nat.le_refl _)); have K1 := Lib.hid (Ab.ext HK.out HX1.out); have q6' : w1.cell? ⟨w.heap.size, 6, none⟩ = some (.slice A1 a.code.length c1) := K1.out.code; have f6' : w1.frozen? ⟨w.heap.size, 6, none⟩ = false := Cs.frozen K1.out 6; obtain ⟨A3, c3, rfl, y1, y2, _⟩ := ho.bs; have HO1 := Lib.hid ho; clear ho hg hat)
 have K2 := Lib.hid (show Ab (w1.setCell ⟨w.heap.size, 6, none⟩ (.slice A3 l1.length c3)) w.heap.size { a with code := l1 } (.slice A3 l1.length c3) (.slice A2 a.store.length c2) from by simpa [Ab, acc] using Cs.set K1.out 6 (.slice A3 l1.length c3))
 have Z2 := Lib.hid (Cs.kept (Cs.ext HZ.out HX1.out) (grown_set w1 w.heap.size 6 (.slice A3 l1.length c3)) (some_ne (by omega)))
 have HE2 := Lib.hid ((HE.out.trans HX1.out).grown (grown_set w1 w.heap.size 6 (.slice A3 l1.length c3)) (Nat.le_refl _))
 have HO2 := Lib.hid (World.ownsRow.kept HO1.out (grown_set w1 w.heap.size 6 (.slice A3 l1.length c3)) (.inr (fun e => by have := (World.ownsRow.lt HO1.out w.heap.size e).1; omega)))
 have HB2 := Lib.hid (show w.heap.size + 1 + 1 ≤ (w1.setCell ⟨w.heap.size, 6, none⟩ (.slice A3 l1.length c3)).heap.size by have := HX1.out.size; simp; rw [HSZ.out] at this; omega)
 clear HK HZ HE HX1 K1 HO1 q6 q6' f6' HW0 HSZ HT1 HU hcs6 hcs7
 generalize w1.setCell ⟨w.heap.size, 6, none⟩ (.slice A3 l1.length c3) = w2 at *
 have q7 : (w2.alloc (.cells #[] 33)).cell? ⟨w.heap.size, 7, none⟩ = some (.slice A2 a.store.length c2) := (Ab.ext K2.out ((Ext.refl w2).alloc _)).store
 have HOP : Hid ((w2.alloc (.cells #[] 33)).ownsRow (w.heap.size + 1 + 1) 33 8 (.slice (some ⟨w2.heap.size, 0, none⟩) 0 0) 0 []) := Lib.hid ⟨by simp, .inr ⟨w2.heap.size, 0, #[], rfl, HB2.out, heap_alloc_new _ _, Nat.le_refl _, by unfold maxLen; omega, by simp, by simp⟩⟩
 go_upto_region 3 with (at_builtin; go_loud (refine wpList_append_row rfl (.tmp 13) (.tmp 20) 35 rfl (w.heap.size + 1 + 1) 33 Try.underlying35 _ 8 64 pkinfo3 rfl (by decide) _ 0 [] rfl HOP.out _ s1.length (pkf s1) rfl (HT2.out _ (HE2.out.alloc (.cells #[] 33))).1 (pkf_one s1) (by have := (HT2.out _ HE2.out).2; omega) (by decide) (by have := HB2.out; simp; omega) ?_); intro v3 w3 ho hg hat; rw [List.nil_append, Nat.zero_add] at ho; have HX3 := Lib.hid (show Ext w2 w3 from ((Ext.refl w2).alloc (.cells #[] 33)).grown hg (Nat.le_refl _)); have K3 := Lib.hid (Ab.ext K2.out HX3.out); have q7' : w3.cell? ⟨w.heap.size, 7, none⟩ = some (.slice A2 a.store.length c2) := K3.out.store; have f7' : w3.frozen? ⟨w.heap.size, 7, none⟩ = false := Cs.frozen K3.out 7; obtain ⟨_, A4, c4, rfl, x1, x2, _⟩ := Rs.of_own ho; have HO3 := Lib.hid ho; clear ho hg hat)
 have K4 := Lib.hid (show Ab (w3.setCell ⟨w.heap.size, 7, none⟩ (.slice A4 s1.length c4)) w.heap.size { a with code := l1, store := s1 } (.slice A3 l1.length c3) (.slice A4 s1.length c4) from by simpa [Ab, acc] using Cs.set K3.out 7 (.slice A4 s1.length c4))
 have Z4 := Lib.hid (Cs.kept (Cs.ext Z2.out HX3.out) (grown_set w3 w.heap.size 7 (.slice A4 s1.length c4)) (some_ne (by omega)))
 have HE4 := Lib.hid ((HE2.out.trans HX3.out).grown (grown_set w3 w.heap.size 7 (.slice A4 s1.length c4)) (Nat.le_refl _))
 have HO4 := Lib.hid (World.ownsRow.kept (own_ext HO2.out HX3.out) (grown_set w3 w.heap.size 7 (.slice A4 s1.length c4)) (.inr (fun e => by have := (World.ownsRow.lt HO2.out w.heap.size e).1; omega)))
 have HP4 := Lib.hid (World.ownsRow.kept HO3.out (grown_set w3 w.heap.size 7 (.slice A4 s1.length c4)) (.inr (fun e => by have := (World.ownsRow.lt HO3.out w.heap.size e).1; omega)))
 clear K2 Z2 HE2 HX3 K3 HO2 HO3 q7 q7' f7' HOP HB2
 generalize w3.setCell ⟨w.heap.size, 7, none⟩ (.slice A4 s1.length c4) = w4 at *
 go_wp2_with (first
  | ((with_reducible refine wpList_load_ac ?_ (.tmp 1) ?_ w.heap.size 0 { a with code := l1, store := s1 } (.slice A3 l1.length c3) (.slice A4 s1.length c4) ?_ ?_ ?_); (exact rfl); (exact rfl); (exact rfl); (exact K4.out.range))
  | ((with_reducible refine wpList_store_ac ?_ ?_ (.tmp 2) (.tmp 23) ?_ (w.heap.size + 1) az0 { a with code := l1, store := s1 } (.slice A3 l1.length c3) (.slice A4 s1.length c4) ?_ ?_ ?_ ?_ ?_ ?_ ?_); (exact rfl); (exact rfl); (exact rfl); (exact rfl); (exact rfl); (exact rfl); (exact rfl); (exact Z4.out); (exact rfl); intro w5 k5 g5; have K5 := Lib.hid k5; have HE5 := Lib.hid (HE4.out.grown g5 (by omega)); have HO5 := Lib.hid (World.ownsRow.kept HO4.out g5 (.inr (fun e => by have := (World.ownsRow.lt HO4.out _ e).1; omega))); have HP5 := Lib.hid (World.ownsRow.kept HP4.out g5 (.inr (fun e => by have := (World.ownsRow.lt HP4.out _ e).1; omega))); clear k5 g5))
 refine bodyPost_ret (results_ac Try.results40 _ _ (w.heap.size + 1) _ _ _ rfl K5.out) rfl ?_
 have e : oneA a = { a with code := l1, store := s1 } := by unfold oneA; rw [HL1.out, HS1.out]
 rw [e]
 exact ⟨_, _, rfl, ⟨own_mono HO5.out (by omega), own_mono HP5.out (by omega), HPW.out⟩, HE5.out⟩
end Go.Proofs.Ytiojfpdjnblkhaa
namespace Go.Proofs.Ytiojfpdjnblkhaa
open Go.ChangeShapes Go.WideShapes Go.ChangeAt Go.RowKit Go.Shelf

def wkA : List Ac := [⟨20, 7, 0, [], []⟩]
def wkB : List Ac := [⟨20, 4, 0, [], []⟩, ⟨21, 3, 0, [], []⟩]
def wkC : List Ac := [⟨20, 4, 0, [], []⟩, ⟨21, 3, 0, [], [(5, 9)]⟩]
theorem wk_mint : mintS [] 20 7 = (wkA, 0) := by kernel_rfl
theorem wk_move : moveS wkA 20 21 3 = (wkB, 0) := by kernel_rfl
theorem wk_save : saveS wkB 21 (5, 9) = (wkC, 0) := by kernel_rfl
theorem wk_tot : totN wkC = 7 := by kernel_rfl
theorem wk_load : loadN wkC 21 5 = 9 := by kernel_rfl
theorem wk_acc : (accF wkB 21).1.store = [] := by kernel_rfl
theorem wk_sz {l : List Ac} (h : l = wkA ∨ l = wkB ∨ l = wkC) : ∀ q ∈ l, q.code.length ≤ 1000000 ∧ q.store.length ≤ 1000000 := by
 rcases h with rfl | rfl | rfl <;> simp [wkA, wkB, wkC]
theorem wk_sz2 {l : List Ac} (h : l = wkA ∨ l = wkB ∨ l = wkC) : ∀ q ∈ l, q.code.length ≤ 1000000000 ∧ q.store.length ≤ 1000000000 := fun q hq => by
 have := wk_sz h q hq
 omega
theorem wk_lit (a : Nat) (ha : a < 18446744073709551616) : wv a = .agg #[.int .u64 (a : Int), .int .u64 0, .int .u64 0, .int .u64 0] := by unfold wv; rw [wc_small a ha]
set_option maxRecDepth 100000 in
theorem wkMint_any (w : World) : Calls Try.prog 35 #[.agg #[.slice none 0 0], .int .u64 20, .agg #[.int .u64 7, .int .u64 0, .int .u64 0, .int .u64 0]] w (RetS w (wkA, 0)) := by
 have := stateMint_any (.slice none 0 0) [] 20 7 w (acs_nil w) (by simp) (fun q hq => nomatch hq) (by decide) (by decide)
 rw [wk_mint, wk_lit 7 (by decide)] at this
 exact this
set_option maxRecDepth 100000 in
theorem wkMove_any (sv : Value) (w : World) (hs : Acs w sv wkA) : Calls Try.prog 36 #[.agg #[sv], .int .u64 20, .int .u64 21, .agg #[.int .u64 3, .int .u64 0, .int .u64 0, .int .u64 0]] w (RetS w (wkB, 0)) := by
 have := stateMove_any sv wkA 20 21 3 w hs (by simp [wkA]) (wk_sz2 (.inl rfl)) (by decide) (by decide) (by decide)
 rw [wk_move, wk_lit 3 (by decide)] at this
 exact this
set_option maxRecDepth 100000 in
theorem wkSave_any (sv : Value) (w : World) (hs : Acs w sv wkB) : Calls Try.prog 37 #[.agg #[sv], .int .u64 21, .agg #[.int .u64 5, .int .u64 0, .int .u64 0, .int .u64 0, .int .u64 9, .int .u64 0, .int .u64 0, .int .u64 0]] w (RetS w (wkC, 0)) := by
 have := stateSave_any sv wkB 21 (5, 9) w hs (by decide) (by simp [wkB]) (wk_sz (.inr (.inl rfl))) (fun _ => by rw [wk_acc]; exact saved_nil (5, 9) ⟨by decide, by decide⟩ (by decide))
 rw [wk_save, show pkc (5, 9) = #[.int .u64 5, .int .u64 0, .int .u64 0, .int .u64 0, .int .u64 9, .int .u64 0, .int .u64 0, .int .u64 0] by simp [pkc, lv, lb]] at this
 exact this
set_option maxRecDepth 100000 in
theorem wkTotal_any (sv : Value) (w : World) (hs : Acs w sv wkC) : Calls Try.prog 38 #[.agg #[sv]] w fun e w' => e = .returned (wv 7) ∧ Ext w w' := by
 have := stateTotal_any sv wkC w hs (by simp [wkC])
 rw [wk_tot] at this
 exact this
set_option maxRecDepth 100000 in
theorem wkLoad_any (sv : Value) (w : World) (hs : Acs w sv wkC) : Calls Try.prog 39 #[.agg #[sv], .int .u64 21, .agg #[.int .u64 5, .int .u64 0, .int .u64 0, .int .u64 0]] w fun e w' => e = .returned (wv 9) ∧ Ext w w' := by
 have := stateLoad_any sv wkC 21 5 w hs (by decide) (by simp [wkC]) (by decide)
 rw [wk_load, wk_lit 5 (by decide)] at this
 exact this
def WkJ (w : World) (g : Nat) (A : Option Addr) (n c : Nat) (l : List Ac) (W : World) : Prop := Cs W g 24 #[.slice A n c] ∧ RwA w.heap.size W (.slice A n c) (.slice none 0 0) l ∧ Ext w W
theorem WkJ.ext {w : World} {g n c : Nat} {A : Option Addr} {l : List Ac} {W W' : World} (h : WkJ w g A n c l W) (he : Ext W W') : WkJ w g A n c l W' := ⟨Cs.ext h.1 he, h.2.1.ext he, h.2.2.trans he⟩
theorem WkJ.put {w : World} {g n c n' c' : Nat} {A A' : Option Addr} {l l' : List Ac} {W : World} (h : WkJ w g A n c l W) (hg : w.heap.size ≤ g) (hr : RwA w.heap.size W (.slice A' n' c') (.slice none 0 0) l') : WkJ w g A' n' c' l' (W.setCell ⟨g, 0, none⟩ (.slice A' n' c')) :=
 ⟨by simpa using Cs.set h.1 0 (.slice A' n' c'), hr.keptS (grown_set _ _ _ _) h.1, h.2.2.grown (grown_set _ _ _ _) hg⟩
set_option maxRecDepth 100000 in
set_option maxHeartbeats 4000000 in
theorem stateWakes_any (w : World) : Calls Try.prog 10 #[] w fun e w' => e = .returned (.bool true) ∧ Ext w w' := by
 go_enter Try.func10, Try.ntmps10
 go_wp2_with fail
 refine (wkMint_any w).mono ?_
 rintro e w1 ⟨v1, rfl, hr, he⟩
 dsimp only at hr ⊢
 obtain ⟨A1, c1, e1⟩ := hr.shape
 rw [show wkA.length = 1 from rfl] at e1
 subst e1
 have HJ1 : Hid (WkJ w w1.heap.size A1 1 c1 wkA (w1.alloc (.cells #[.slice A1 1 c1] 24))) := Lib.hid ⟨Cs.new _ _ _ _ rfl, hr.ext ((Ext.refl w1).alloc _), he.alloc _⟩
 have HG := Lib.hid he.size
 have q1 : (w1.alloc (.cells #[.slice A1 1 c1] 24)).cell? ⟨w1.heap.size, 0, none⟩ = some (.slice A1 1 c1) := HJ1.out.1.cell 0 _ rfl
 clear hr he
 go_wp2_with fail
 generalize w1.alloc (.cells #[.slice A1 1 c1] 24) = w2 at *
 refine (wkMove_any _ w2 HJ1.out.2.1.acs).mono ?_
 rintro e w3 ⟨v3, rfl, hr, he⟩
 dsimp only at hr ⊢
 obtain ⟨A3, c3, e3⟩ := hr.shape
 rw [show wkB.length = 2 from rfl] at e3
 subst e3
 have HJ3 := Lib.hid (HJ1.out.ext he)
 have HR3 := Lib.hid (hr.low HJ1.out.2.2.size)
 have q3 : w3.cell? ⟨w1.heap.size, 0, none⟩ = some (.slice A1 1 c1) := HJ3.out.1.cell 0 _ rfl
 have f3 : w3.frozen? ⟨w1.heap.size, 0, none⟩ = false := HJ3.out.1.frozen 0
 have HJ4 := Lib.hid (HJ3.out.put HG.out HR3.out)
 have q4 : (w3.setCell ⟨w1.heap.size, 0, none⟩ (.slice A3 2 c3)).cell? ⟨w1.heap.size, 0, none⟩ = some (.slice A3 2 c3) := HJ4.out.1.cell 0 _ rfl
 clear hr he HJ1 HJ3 HR3 q1
 go_wp2_with fail
 clear q3 f3
 generalize w3.setCell ⟨w1.heap.size, 0, none⟩ (.slice A3 2 c3) = w4 at *
 refine (wkSave_any _ w4 HJ4.out.2.1.acs).mono ?_
 rintro e w5 ⟨v5, rfl, hr, he⟩
 dsimp only at hr ⊢
 obtain ⟨A5, c5, e5⟩ := hr.shape
 rw [show wkC.length = 2 from rfl] at e5
 subst e5
 have HJ5 := Lib.hid (HJ4.out.ext he)
 have HR5 := Lib.hid (hr.low HJ4.out.2.2.size)
 have q5 : w5.cell? ⟨w1.heap.size, 0, none⟩ = some (.slice A3 2 c3) := HJ5.out.1.cell 0 _ rfl
 have f5 : w5.frozen? ⟨w1.heap.size, 0, none⟩ = false := HJ5.out.1.frozen 0
 have HJ6 := Lib.hid (HJ5.out.put HG.out HR5.out)
 have q6 : (w5.setCell ⟨w1.heap.size, 0, none⟩ (.slice A5 2 c5)).cell? ⟨w1.heap.size, 0, none⟩ = some (.slice A5 2 c5) := HJ6.out.1.cell 0 _ rfl
 clear hr he HJ4 HJ5 HR5 q4
 go_wp2_with fail
 clear q5 f5
 generalize w5.setCell ⟨w1.heap.size, 0, none⟩ (.slice A5 2 c5) = w6 at *
 refine (wkTotal_any _ w6 HJ6.out.2.1.acs).mono ?_
 rintro e w7 ⟨rfl, he⟩
 have HJ7 := Lib.hid (HJ6.out.ext he)
 have q7 : w7.cell? ⟨w1.heap.size, 0, none⟩ = some (.slice A5 2 c5) := HJ7.out.1.cell 0 _ rfl
 clear he HJ6 q6
 go_wp2_with ((with_reducible refine wpList_eql_word ?_ (.tmp 43) (.tmp 44) ?_ 7 7 (by decide) (by decide) ?_ ?_ ?_); (exact rfl); (exact rfl); (exact rfl); (exact (wk_lit 7 (by decide)).symm); rw [show ((7 : Nat) == 7) = true from rfl])
 refine (wkLoad_any _ w7 HJ7.out.2.1.acs).mono ?_
 rintro e w8 ⟨rfl, he⟩
 have HE8 := Lib.hid (HJ7.out.2.2.trans he)
 clear he HJ7 q7
 go_wp2_with ((with_reducible refine wpList_eql_word ?_ (.tmp 50) (.tmp 51) ?_ 9 9 (by decide) (by decide) ?_ ?_ ?_); (exact rfl); (exact rfl); (exact rfl); (exact (wk_lit 9 (by decide)).symm); rw [show ((9 : Nat) == 9) = true from rfl])
 go_ret
 exact ⟨rfl, HE8.out⟩
end Go.Proofs.Ytiojfpdjnblkhaa
