/- The law's helpers: one. -/
import Derived.Test.YtmojbekihbmdfaaStr
namespace Go.Proofs.Ytmojbekihbmdfaa
open Go.ChangeShapes Go.WideShapes Go.ChangeAt Go.RowKit Go.Shelf

/-- An account that can be gone through. -/
def oneA (a : Ac) : Ac := { a with code := a.code.take 201, store := a.store.take 25 }
set_option maxRecDepth 100000 in
theorem Pks.takeMin {W : World} {A : Option Addr} {n c : Nat} {l : List (Nat × Nat)} (h : Pks W (.slice A n c) l) (m k : Nat) (hk : k = min l.length m) : Rs W 8 (.slice A k c) k (pkf (l.take m)) ∧ (l.take m).length = k := by
  have hr := h.rs
  obtain ⟨A', c', e, h1, h2⟩ := h.len
  injection e with e1 e2 e3
  subst e1 e2 e3
  have hl : (l.take m).length = k := by rw [List.length_take, hk]; omega
  refine ⟨?_, hl⟩
  have := hr.take k (by omega)
  have e : (pkf l).take (k * 8) = pkf (l.take m) := by
    have hlm : l.take m = l.take k := by
      subst hk
      rcases Nat.le_total l.length m with h | h
      · rw [Nat.min_eq_left h, List.take_of_length_le h, List.take_length]
      · rw [Nat.min_eq_right h]
    rw [hlm]
    have hk' : k ≤ l.length := by omega
    clear this hr hlm hl hk h
    clear h1 h2
    induction l generalizing k with
    | nil => simp [pkf]
    | cons p l ih =>
      cases k with
      | zero => simp [pkf]
      | succ k =>
        have hpc : (pkc p).toList.length = 8 := rfl
        rw [List.take_succ_cons]
        show ((pkc p).toList ++ pkf l).take ((k + 1) * 8) = (pkc p).toList ++ pkf (l.take k)
        rw [List.take_append, hpc, show (k + 1) * 8 - 8 = k * 8 by omega, List.take_of_length_le (by rw [hpc]; omega), ih k (by simpa using hk')]
  rw [e] at this
  exact this
set_option maxRecDepth 100000 in
set_option maxHeartbeats 4000000 in
theorem one_any (a : Ac) (u v : Value) (w : World) (hu : Bs w u a.code) (hv : Pks w v a.store) :
    Calls Try.prog 27 #[.agg (acc a u v)] w fun e w' => ∃ u' v', e = .returned (.agg (acc (oneA a) u' v')) ∧ AcO w.heap.size w' (oneA a) u' v' ∧ Ext w w' := by
  have HU := Lib.hid hu
  have HV := Lib.hid hv
  obtain ⟨A1, c1, rfl, z1, z2, _⟩ := hu
  obtain ⟨A2, c2, rfl, z3, z4⟩ := hv.len
  unfold maxLen at z2 z4
  have HK : Hid (Ab ((w.alloc (.cells (acc a (.slice A1 a.code.length c1) (.slice A2 a.store.length c2)) 37)).alloc (.cells az0 37)) w.heap.size a (.slice A1 a.code.length c1) (.slice A2 a.store.length c2)) := Lib.hid (Cs.alloc (Cs.new _ _ _ _ rfl) _)
  have HZ : Hid (Cs ((w.alloc (.cells (acc a (.slice A1 a.code.length c1) (.slice A2 a.store.length c2)) 37)).alloc (.cells az0 37)) (w.heap.size + 1) 37 az0) := Lib.hid (Cs.new _ _ _ _ (by simp))
  have HE := Lib.hid (((Ext.refl w).alloc (.cells (acc a (.slice A1 a.code.length c1) (.slice A2 a.store.length c2)) 37)).alloc (.cells az0 37))
  have HSZ := Lib.hid (show ((w.alloc (.cells (acc a (.slice A1 a.code.length c1) (.slice A2 a.store.length c2)) 37)).alloc (.cells az0 37)).heap.size = w.heap.size + 1 + 1 by simp)
  obtain ⟨w0, hw0⟩ : ∃ w0, (w.alloc (.cells (acc a (.slice A1 a.code.length c1) (.slice A2 a.store.length c2)) 37)).alloc (.cells az0 37) = w0 := ⟨_, rfl⟩
  obtain ⟨cs, hcs⟩ : ∃ cs, acc a (.slice A1 a.code.length c1) (.slice A2 a.store.length c2) = cs := ⟨_, rfl⟩
  have HCS := Lib.hid hcs
  have hcs6 : cs[6]? = some (.slice A1 a.code.length c1) := by rw [← hcs]; rfl
  have hcs7 : cs[7]? = some (.slice A2 a.store.length c2) := by rw [← hcs]; rfl
  rw [hw0] at HK HE HZ HSZ
  rw [hcs] at hw0 ⊢
  unfold az0 at hw0
  have HW0 := Lib.hid hw0
  clear hv hcs hw0
  go_enter Try.func27, Try.ntmps27
  go_upto_region 1 with fail
  rw [HW0.out]
  obtain ⟨l1, hl1⟩ : ∃ l1, a.code.take 201 = l1 := ⟨_, rfl⟩
  have HL1 := Lib.hid hl1
  have HT1 := Lib.hid (fun W (h : Ext w W) => show Bs W (.slice A1 (min (a.code.length : Int) 201).toNat c1) l1 from by rw [← hl1]; exact (HU.out.ext h).takeMin 201 _ (by omega))
  have HLL := Lib.hid (show l1.length ≤ 201 by rw [← hl1]; simp; omega)
  obtain ⟨s1, hs1⟩ : ∃ s1, a.store.take 25 = s1 := ⟨_, rfl⟩
  have HS1 := Lib.hid hs1
  have HT2 := Lib.hid (fun W (h : Ext w W) => show Rs W 8 (.slice A2 (min (a.store.length : Int) 25).toNat c2) s1.length (pkf s1) ∧ (s1.length ≤ 25) from by
    have := (HV.out.ext h).takeMin 25 (min (a.store.length : Int) 25).toNat (by omega)
    rw [hs1] at this
    rw [this.2]
    exact ⟨this.1, by omega⟩)
  have HPW := Lib.hid (show ∀ p ∈ s1, p.1 < M256 ∧ p.2 < M256 from fun p hp => HV.out.words p (by rw [← hs1] at hp; exact List.mem_of_mem_take hp))
  clear hl1 hs1
  have q6 : (w0.alloc (.cells #[] 5)).cell? ⟨w.heap.size, 6, none⟩ = some (.slice A1 a.code.length c1) := (Ab.ext HK.out ((Ext.refl w0).alloc _)).code
  go_upto_region 2 with (at_builtin; go_loud (refine wpList_append_bytes rfl (.tmp 3) (.tmp 10) _ rfl (w.heap.size + 1 + 1) 5 Try.underlying34 u8info _ [] rfl (own_made w0 (w.heap.size + 1 + 1) 5 (by rw [HSZ.out]; omega)) _ l1 rfl (HT1.out _ (HE.out.alloc (.cells #[] 5))) (by have := HLL.out; simp; omega) (by simp; rw [HSZ.out]; omega) ?_); intro v1 w1 ho hg hat; rw [List.nil_append] at ho; have HX1 := Lib.hid (show Ext w0 w1 from ((Ext.refl w0).alloc (.cells #[] 5)).grown hg (Nat.le_refl _)); have K1 := Lib.hid (Ab.ext HK.out HX1.out); have q6' : w1.cell? ⟨w.heap.size, 6, none⟩ = some (.slice A1 a.code.length c1) := K1.out.code; have f6' : w1.frozen? ⟨w.heap.size, 6, none⟩ = false := Cs.frozen K1.out 6; obtain ⟨A3, c3, rfl, y1, y2, _⟩ := ho.bs; have HO1 := Lib.hid ho; clear ho hg hat)
  have K2 := Lib.hid (show Ab (w1.setCell ⟨w.heap.size, 6, none⟩ (.slice A3 l1.length c3)) w.heap.size { a with code := l1 } (.slice A3 l1.length c3) (.slice A2 a.store.length c2) from by simpa [Ab, acc] using Cs.set K1.out 6 (.slice A3 l1.length c3))
  have Z2 := Lib.hid (Cs.kept (Cs.ext HZ.out HX1.out) (grown_set w1 w.heap.size 6 (.slice A3 l1.length c3)) (some_ne (by omega)))
  have HE2 := Lib.hid ((HE.out.trans HX1.out).grown (grown_set w1 w.heap.size 6 (.slice A3 l1.length c3)) (Nat.le_refl _))
  have HO2 := Lib.hid (World.ownsRow.kept HO1.out (grown_set w1 w.heap.size 6 (.slice A3 l1.length c3)) (.inr (fun e => by have := (World.ownsRow.lt HO1.out w.heap.size e).1; omega)))
  have HB2 := Lib.hid (show w.heap.size + 1 + 1 ≤ (w1.setCell ⟨w.heap.size, 6, none⟩ (.slice A3 l1.length c3)).heap.size by have := HX1.out.size; simp; rw [HSZ.out] at this; omega)
  clear HK HZ HE HX1 K1 HO1 q6 q6' f6' HW0 HSZ HT1 HU hcs6 hcs7
  generalize w1.setCell ⟨w.heap.size, 6, none⟩ (.slice A3 l1.length c3) = w2 at *
  have q7 : (w2.alloc (.cells #[] 33)).cell? ⟨w.heap.size, 7, none⟩ = some (.slice A2 a.store.length c2) := (Ab.ext K2.out ((Ext.refl w2).alloc _)).store
  have HOP : Hid ((w2.alloc (.cells #[] 33)).ownsRow (w.heap.size + 1 + 1) 33 8 (.slice (some ⟨w2.heap.size, 0, none⟩) 0 0) 0 []) := Lib.hid ⟨by simp, .inr ⟨w2.heap.size, 0, #[], rfl, HB2.out, heap_alloc_new _ _, Nat.le_refl _, by unfold maxLen; omega, by simp, by simp⟩⟩
  go_upto_region 3 with (at_builtin; go_loud (refine wpList_append_row rfl (.tmp 13) (.tmp 20) 35 rfl (w.heap.size + 1 + 1) 33 Try.underlying35 _ 8 64 pkinfo3 rfl (by decide) _ 0 [] rfl HOP.out _ s1.length (pkf s1) rfl (HT2.out _ (HE2.out.alloc (.cells #[] 33))).1 (pkf_one s1) (by have := (HT2.out _ HE2.out).2; omega) (by decide) (by have := HB2.out; simp; omega) ?_); intro v3 w3 ho hg hat; rw [List.nil_append, Nat.zero_add] at ho; have HX3 := Lib.hid (show Ext w2 w3 from ((Ext.refl w2).alloc (.cells #[] 33)).grown hg (Nat.le_refl _)); have K3 := Lib.hid (Ab.ext K2.out HX3.out); have q7' : w3.cell? ⟨w.heap.size, 7, none⟩ = some (.slice A2 a.store.length c2) := K3.out.store; have f7' : w3.frozen? ⟨w.heap.size, 7, none⟩ = false := Cs.frozen K3.out 7; obtain ⟨_, A4, c4, rfl, x1, x2, _⟩ := Rs.of_own ho; have HO3 := Lib.hid ho; clear ho hg hat)
  have K4 := Lib.hid (show Ab (w3.setCell ⟨w.heap.size, 7, none⟩ (.slice A4 s1.length c4)) w.heap.size { a with code := l1, store := s1 } (.slice A3 l1.length c3) (.slice A4 s1.length c4) from by simpa [Ab, acc] using Cs.set K3.out 7 (.slice A4 s1.length c4))
  have Z4 := Lib.hid (Cs.kept (Cs.ext Z2.out HX3.out) (grown_set w3 w.heap.size 7 (.slice A4 s1.length c4)) (some_ne (by omega)))
  have HE4 := Lib.hid ((HE2.out.trans HX3.out).grown (grown_set w3 w.heap.size 7 (.slice A4 s1.length c4)) (Nat.le_refl _))
  have HO4 := Lib.hid (World.ownsRow.kept (own_ext HO2.out HX3.out) (grown_set w3 w.heap.size 7 (.slice A4 s1.length c4)) (.inr (fun e => by have := (World.ownsRow.lt HO2.out w.heap.size e).1; omega)))
  have HP4 := Lib.hid (World.ownsRow.kept HO3.out (grown_set w3 w.heap.size 7 (.slice A4 s1.length c4)) (.inr (fun e => by have := (World.ownsRow.lt HO3.out w.heap.size e).1; omega)))
  clear K2 Z2 HE2 HX3 K3 HO2 HO3 q7 q7' f7' HOP HB2
  generalize w3.setCell ⟨w.heap.size, 7, none⟩ (.slice A4 s1.length c4) = w4 at *
  go_wp2_with (first
    | ((with_reducible refine wpList_load_ac ?_ (.tmp 1) ?_ w.heap.size 0 { a with code := l1, store := s1 } (.slice A3 l1.length c3) (.slice A4 s1.length c4) ?_ ?_ ?_); (exact rfl); (exact rfl); (exact rfl); (exact K4.out.range))
    | ((with_reducible refine wpList_store_ac ?_ ?_ (.tmp 2) (.tmp 23) ?_ (w.heap.size + 1) az0 { a with code := l1, store := s1 } (.slice A3 l1.length c3) (.slice A4 s1.length c4) ?_ ?_ ?_ ?_ ?_ ?_ ?_); (exact rfl); (exact rfl); (exact rfl); (exact rfl); (exact rfl); (exact rfl); (exact rfl); (exact Z4.out); (exact rfl); intro w5 k5 g5; have K5 := Lib.hid k5; have HE5 := Lib.hid (HE4.out.grown g5 (by omega)); have HO5 := Lib.hid (World.ownsRow.kept HO4.out g5 (.inr (fun e => by have := (World.ownsRow.lt HO4.out _ e).1; omega))); have HP5 := Lib.hid (World.ownsRow.kept HP4.out g5 (.inr (fun e => by have := (World.ownsRow.lt HP4.out _ e).1; omega))); clear k5 g5))
  refine bodyPost_ret (results_ac Try.results27 _ _ (w.heap.size + 1) _ _ _ rfl K5.out) rfl ?_
  have e : oneA a = { a with code := l1, store := s1 } := by unfold oneA; rw [HL1.out, HS1.out]
  rw [e]
  exact ⟨_, _, rfl, ⟨own_mono HO5.out (by omega), own_mono HP5.out (by omega), HPW.out⟩, HE5.out⟩
end Go.Proofs.Ytmojbekihbmdfaa
