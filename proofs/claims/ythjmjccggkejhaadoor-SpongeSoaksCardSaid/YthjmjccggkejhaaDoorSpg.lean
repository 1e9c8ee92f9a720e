/- Contracts of package sponge: digest, Sum. -/
import Derived.Test.YthjmjccggkejhaaDoorSpf
import Derived.WalkMore
import Derived.WalkSpells
import Derived.Deep.Cut
namespace Go.Proofs.YthjmjccggkejhaaDoor
open Go.RowKit Go.Shelf

/-! ### Digests -/
/-- A byte as a value. -/
def bn (n : Nat) : Value := .int .u8 (n : Int)
/-- The cells of a digest. -/
def ic (f : Nat → Nat) : Array Value := ((List.range 32).map fun i => bn (f i)).toArray
/-- A digest as a value. -/
def idv (f : Nat → Nat) : Value := .agg (ic f)
set_option maxRecDepth 100000 in
theorem ic_size (f : Nat → Nat) : (ic f).size = 32 := rfl
set_option maxRecDepth 100000 in
theorem ic_get (f : Nat → Nat) (i : Nat) (h : i < 32) : (ic f)[i]? = some (bn (f i)) := by simp [ic, h]
set_option maxRecDepth 100000 in
theorem ic_one (f : Nat → Nat) : (ic f).all (·.oneCell') = true := by simp [ic, bn, Value.oneCell']
set_option maxRecDepth 100000 in
theorem ic_set (f : Nat → Nat) (k v : Nat) : (ic f).setIfInBounds k (bn v) = ic fun i => if i = k then v else f i := by
  unfold ic
  rw [List.setIfInBounds_toArray]
  congr 1
  apply List.ext_getElem (by simp)
  intro i h1 h2
  rw [List.getElem_set]
  by_cases hk : k = i
  · subst hk; simp
  · rw [if_neg hk]; simp [Ne.symm hk]
set_option maxRecDepth 100000 in
theorem ic_congr {f g : Nat → Nat} (h : ∀ i, i < 32 → f i = g i) : ic f = ic g := by
  unfold ic
  congr 1
  apply List.map_congr_left
  intro i hi
  rw [h i (by simpa using hi)]
/-- The block g holds the digest f. -/
def Ib (W : World) (g : Nat) (f : Nat → Nat) : Prop := Cs W g 27 (ic f)
set_option maxRecDepth 100000 in
theorem Ib.cell {W : World} {g : Nat} {f : Nat → Nat} (h : Ib W g f) (i : Nat) (hi : i < 32) : W.cell? ⟨g, i, none⟩ = some (.int .u8 (f i : Nat)) := Cs.cell h i _ (ic_get f i hi)
set_option maxRecDepth 100000 in
theorem Ib.set {W : World} {g : Nat} {f : Nat → Nat} (h : Ib W g f) (k v : Nat) : Ib (W.setCell ⟨g, k, none⟩ (.int .u8 (v : Nat))) g (fun i => if i = k then v else f i) := by
  unfold Ib
  rw [← ic_set f k v]
  exact Cs.set h k (bn v)
set_option maxRecDepth 100000 in
theorem iinfo : (Tryd.prog.info? 27).map (·.size) = some 32 := by kernel_rfl
set_option maxRecDepth 100000 in
theorem ic_zero : ic (fun _ => 0) = (List.replicate 32 (Value.int .u8 0)).toArray := rfl
set_option maxRecDepth 100000 in
/-- A digest is loaded. -/
theorem wpList_load_id {ops : Array Oper} {rest : List Oper} {o : Oper} {a : Act} {w : World} {Q : Exit → Act → World → Prop} (hgd : Region.wanted o (yielded ops a.tmps) = true) (x : Operand) (ho : o.op = .load 27 x)
    (g : Nat) (f : Nat → Nat) (hx : a.eval x = .pointer (some ⟨g, 0, none⟩)) (hg : Ib w g f) (h : wpList Tryd.prog ops Q rest (a.put o.dst (idv f)) w) : wpList Tryd.prog ops Q (o :: rest) a w := by
  refine wpList_step fun K hK => ?_
  rw [if_pos hgd]
  exact wp_load_row 27 x ho g hx 27 (ic f) (0, 0) _ hg Tryd.underlying27 rfl iinfo (hK _ _ h)
set_option maxRecDepth 100000 in
/-- A digest is stored. -/
theorem wpList_store_id {ops : Array Oper} {rest : List Oper} {o : Oper} {a : Act} {w : World} {Q : Exit → Act → World → Prop} (hgd : o.guard = none) (hd : o.dst = none) (x y : Operand) (ho : o.op = .store 27 x y)
    (g : Nat) (old : Array Value) (f : Nat → Nat) (hx : a.eval x = .pointer (some ⟨g, 0, none⟩)) (hy : a.eval y = idv f) (hg : Cs w g 27 old) (hold : old.size = 32)
    (h : ∀ w', Ib w' g f → w.grownBy w' (some g) → wpList Tryd.prog ops Q rest a w') : wpList Tryd.prog ops Q (o :: rest) a w := by
  have h' : ∀ w', Ib w' g f → w.grownBy w' (some g) → wpList Tryd.prog ops Q rest (a.put o.dst undef) w' := by rw [hd]; exact h
  refine wpList_store_row hgd 27 x y ho g (ic f) hx hy 27 old hg iinfo hold (ic_one f) (h' _ ?_ ?_)
  · exact setRow_heap w g _ _ 27 (0, 0) hg
  · exact ⟨rfl, rfl, rfl, by simp [World.setRow], fun k _ hk => setRow_other w g k _ (fun e => hk (by simp [e]))⟩
set_option maxRecDepth 100000 in
theorem results_id {fn : Func} {p : Tmp} (h : fn.results = #[.cell p 27]) (tmps : Array Value) (w : World) (g : Nat) (f : Nat → Nat) (hp : tmps.getD p undef = .pointer (some ⟨g, 0, none⟩)) (hg : Ib w g f) : (results fn tmps).run Tryd.prog w = .ok (idv f) w :=
  results_cell_row h tmps w g 27 (ic f) (0, 0) _ hp hg Tryd.underlying27 rfl iinfo

/-- The bytes of lanes. -/
def dgB (f : Nat → Nat) (i : Nat) : Nat := f (i / 8) / 2 ^ (8 * (i % 8)) % 256
def dgP (f : Nat → Nat) (k : Nat) : Nat → Nat := fun i => if i < k then dgB f i else 0
set_option maxRecDepth 100000 in
theorem dgP_step (f : Nat → Nat) (k : Nat) : (fun i => if i = k then dgB f k else dgP f k i) = dgP f (k + 1) := by
  funext i
  unfold dgP
  by_cases h : i = k
  · subst h; rw [if_pos rfl, if_pos (by omega)]
  · rw [if_neg h]
    by_cases h2 : i < k
    · rw [if_pos h2, if_pos (by omega)]
    · rw [if_neg h2, if_neg (by omega)]

set_option maxRecDepth 100000 in
theorem idx_lanes (f : Nat → Nat) (i : Nat) (hi : i < 5) (u : World) : (Instr.index 35 (lnv f) (.int .i64 (i : Nat))).run Tryd.prog u = .ok (.int .u64 (f i : Nat)) u := by
  match i, hi with
  | 0, _ => rfl
  | 1, _ => rfl
  | 2, _ => rfl
  | 3, _ => rfl
  | 4, _ => rfl

set_option maxRecDepth 100000 in
theorem dg_byte (f : Nat → Nat) (j k : Nat) (hk : k < 8) : ((f j : Nat) : Int) / 2 ^ (8 * k) % 256 = ((dgB f (8 * j + k) : Nat) : Int) := by
  unfold dgB
  rw [show (8 * j + k) / 8 = j by omega, show (8 * j + k) % 8 = k by omega]
  simp

set_option maxRecDepth 100000 in
set_option maxHeartbeats 2000000 in
theorem digest_any (f : Nat → Nat) (w : World) (hf : Lok f) :
    Calls Tryd.prog 47 #[lnv f] w fun e w' => e = .returned (idv (dgB f)) ∧ Ext w w' := by
  have HF := Lib.hid hf
  clear hf
  unfold lnv
  have HK : Hid (Ln (((w.alloc (.cells (lc f) 35)).alloc (.cells (ic fun _ => 0) 27)).alloc (.cells (ic fun _ => 0) 27)) w.heap.size f) := ((Cs.new _ _ _ _ rfl).alloc _).alloc _
  have HZ : Hid (Ib (((w.alloc (.cells (lc f) 35)).alloc (.cells (ic fun _ => 0) 27)).alloc (.cells (ic fun _ => 0) 27)) (w.heap.size + 1) (fun _ => 0)) := (Cs.new _ _ _ _ (by simp)).alloc _
  have HD : Hid (Ib (((w.alloc (.cells (lc f) 35)).alloc (.cells (ic fun _ => 0) 27)).alloc (.cells (ic fun _ => 0) 27)) (w.heap.size + 1 + 1) (dgP f (8 * 0))) := Cs.new _ _ _ _ (by simp)
  have HE : Hid (Ext w (((w.alloc (.cells (lc f) 35)).alloc (.cells (ic fun _ => 0) 27)).alloc (.cells (ic fun _ => 0) 27))) := (((Ext.refl w).alloc _).alloc _).alloc _
  go_enter Tryd.func47, Tryd.ntmps47
  go_wp2_with fail
  go_step3
  go_wp2_with fail
  go_step3
  go_wp2_with ((with_reducible refine wpList_load_lanes ?_ (.tmp 1) ?_ w.heap.size f ?_ ?_ ?_); (exact rfl); (exact rfl); (exact rfl); (exact HK.out))
  go_loopw [4, 6, 7, 9, 10, 11, 12, 13, 14, 15, 16, 17, 18, 19, 20, 21, 22, 23, 24, 25, 26, 27] (fun u _ _ v _ _ _ _ _ _ _ _ _ _ _ _ _ _ _ _ _ _ wr => ∃ j : Nat, j ≤ 4 ∧ u = .int .i64 ((8 * j : Nat) : Int) ∧ v = .int .i64 j ∧ Hid (Ib wr (w.heap.size + 1) (fun _ => 0)) ∧ Hid (Ib wr (w.heap.size + 1 + 1) (dgP f (8 * j))) ∧ Hid (Ext w wr)) (fun _ _ _ v _ _ _ _ _ _ _ _ _ _ _ _ _ _ _ _ _ _ _ => 25 - (intOf v).toNat)
  case atStart => exact ⟨0, by omega, rfl, rfl, HZ, HD, HE⟩
  case round =>
    clear HZ HD HE
    obtain ⟨j, hj, rfl, rfl, HZ, HD, HE⟩ := hrel
    have hix := idx_lanes f j (by omega)
    have hj25 : j < 25 := by omega
    have hfj := HF.out j (by omega)
    go_wp2_with fail
    go_loopw [4, 7, 12, 13, 14, 15, 16, 17, 18, 19, 20, 21, 22, 23, 24, 25, 26] (fun u _ v _ _ _ _ _ _ _ _ _ _ _ _ _ _ wr => ∃ k : Nat, k ≤ 8 ∧ 8 * j + k ≤ 32 ∧ u = .int .i64 ((8 * j + k : Nat) : Int) ∧ v = .int .i64 k ∧ Hid (Ib wr (w.heap.size + 1) (fun _ => 0)) ∧ Hid (Ib wr (w.heap.size + 1 + 1) (dgP f (8 * j + k))) ∧ Hid (Ext w wr)) (fun _ _ v _ _ _ _ _ _ _ _ _ _ _ _ _ _ _ => 8 - (intOf v).toNat)
    case atStart => exact ⟨0, by omega, by omega, rfl, rfl, HZ, HD, HE⟩
    case round =>
      clear HZ HD HE
      obtain ⟨k, hk, hjk, rfl, rfl, HZ, HD, HE⟩ := hrel
      by_cases hlt : k < 8
      · by_cases h32 : 8 * j + k = 32
        · have hdg : idv (dgP f (8 * j + k)) = idv (dgB f) := by
            unfold idv
            rw [ic_congr (g := dgB f) fun i hi => by unfold dgP; rw [if_pos (by omega)]]
          have HG := Lib.hid hdg
          clear hdg
          go_wp2_with (first
            | ((with_reducible refine wpList_load_id ?_ (.tmp 3) ?_ (w.heap.size + 1 + 1) (dgP f (8 * j + k)) ?_ ?_ ?_); (exact rfl); (exact rfl); (exact rfl); (exact HD.out))
            | ((with_reducible refine wpList_store_id ?_ ?_ (.tmp 2) (.tmp 28) ?_ (w.heap.size + 1) (ic fun _ => 0) (dgP f (8 * j + k)) ?_ ?_ ?_ ?_ ?_); (exact rfl); (exact rfl); (exact rfl); (exact rfl); (exact rfl); (exact HZ.out); (exact ic_size _); intro w7 k7 g7; have K7 := Lib.hid k7; have HE7 := Lib.hid (HE.out.grown g7 (by omega)); clear k7 g7))
          try rw [Exit.noGoto_ret]
          exact bodyPost_ret (results_id Tryd.results47 _ _ (w.heap.size + 1) _ rfl K7.out) rfl ⟨by rw [HG.out], HE7.out⟩
        · have HB := Lib.hid (dg_byte f j k hlt)
          have HS := Lib.hid (dgP_step f (8 * j + k))
          generalize hm : 8 * j + k = m at *
          have hc := HD.out.cell m (by omega)
          have hf := Cs.frozen HD.out m
          have a1 : (0 : Int) ≤ (m : Int) := by omega
          have a2 : (m : Int) < 32 := by omega
          have a3 : ((m : Int) == 32) = false := by simp; omega
          have a4 : (8 : Int) * (k : Int) < 64 := by omega
          have a5 : (0 : Int) ≤ (8 : Int) * (k : Int) := by omega
          go_wp2_with fail
          rw [HB.out]
          refine ⟨⟨k + 1, by omega, by omega, by go_num, by go_num, ?_, ?_, ?_⟩, by simp [intOf]; omega⟩
          · exact Lib.hid (Cs.kept HZ.out (grown_set wr _ _ _) (some_ne (by omega)))
          · have h7 := HD.out.set m (dgB f m)
            rw [HS.out] at h7
            rw [show 8 * j + (k + 1) = m + 1 by omega]
            exact Lib.hid h7
          · exact Lib.hid (HE.out.grown (grown_set wr _ _ _) (by omega))
      · obtain rfl : k = 8 := by omega
        go_wp2_with fail
        exact ⟨⟨j + 1, by omega, by go_num, by go_num, HZ, HD, HE⟩, by simp [intOf]; omega⟩
end Go.Proofs.YthjmjccggkejhaaDoor
