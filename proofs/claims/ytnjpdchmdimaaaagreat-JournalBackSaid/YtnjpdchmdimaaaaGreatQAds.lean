/- Sorted addresses: mathematics; and the contract of Sorted of package addr. The document's Sorted, and SameAddrs. -/
import Derived.Test.YtnjpdchmdimaaaaGreatQAem
import Derived.Test.YtnjpdchmdimaaaaGreatQByt
import Derived.Test.YtnjpdchmdimaaaaGreatShl
import Derived.Lib.OwnBridge
import Derived.Sort.OwnSorted
import Derived.ArgAppend
import Derived.BigQuiet
import Derived.Deep.RegionHeld3
namespace Go.Proofs.YtnjpdchmdimaaaaGreat
open Go.RowKit Go.Shelf

def SR (l r : List Int) : Prop := r.Pairwise (· < ·) ∧ ∀ x, x ∈ r ↔ x ∈ l
theorem rise_unique : ∀ (r s : List Int), r.Pairwise (· < ·) → s.Pairwise (· < ·) → (∀ x, x ∈ r ↔ x ∈ s) → r = s
 | [], [], _, _, _ => rfl
 | [], b :: s, _, _, h => absurd ((h b).2 List.mem_cons_self) (by simp)
 | a :: r, [], _, _, h => absurd ((h a).1 List.mem_cons_self) (by simp)
 | a :: r, b :: s, hr, hs, h => by
  obtain ⟨hr1, hr2⟩ := List.pairwise_cons.1 hr
  obtain ⟨hs1, hs2⟩ := List.pairwise_cons.1 hs
  have hab : a = b := by
   rcases List.mem_cons.1 ((h a).1 List.mem_cons_self) with e | e
   ·exact e
   ·rcases List.mem_cons.1 ((h b).2 List.mem_cons_self) with e' | e'
    ·exact e'.symm
    ·have := hr1 b e'
     have := hs1 a e
     omega
  subst hab
  rw [rise_unique r s hr2 hs2 fun x => ⟨fun hx => by
   rcases List.mem_cons.1 ((h x).1 (List.mem_cons_of_mem _ hx)) with e | e
   ·have := hr1 x hx; omega
   ·exact e, fun hx => by
   rcases List.mem_cons.1 ((h x).2 (List.mem_cons_of_mem _ hx)) with e | e
   ·have := hs1 x hx; omega
   ·exact e⟩]
theorem SR.unique {l r s : List Int} (h : SR l r) (k : SR l s) : r = s := rise_unique r s h.1 k.1 fun x => (h.2 x).trans (k.2 x).symm
theorem keeps_below (d : Array Int) : ∀ i, ∃ k, k ≤ i ∧ Lib.keeps d k = true ∧ d[k]! = d[i]!
 | 0 => ⟨0, Nat.le_refl _, by unfold Lib.keeps; simp, rfl⟩
 | i + 1 => by
  by_cases h : d[i + 1]! = d[i]!
  ·obtain ⟨k, h1, h2, h3⟩ := keeps_below d i
   exact ⟨k, by omega, h2, by rw [h3, h]⟩
  ·exact ⟨i + 1, Nat.le_refl _, by unfold Lib.keeps; simp; exact h, rfl⟩
theorem compact_SR (d : Array Int) (hs : ∀ i j, i < j → j < d.size → ¬ d[j]! < d[i]!) : SR d.toList (Lib.compactUpTo d d.size) := by
 have hle : ∀ i j, i ≤ j → j < d.size → d[i]! ≤ d[j]! := by
  intro i j h1 h2
  rcases Nat.lt_or_ge i j with h | h
  ·have := hs i j h h2
   omega
  ·rw [show i = j by omega]
   exact Int.le_refl _
 constructor
 ·unfold Lib.compactUpTo
  rw [List.pairwise_map]
  have hp : (List.range d.size).Pairwise (· < ·) := List.pairwise_lt_range
  have hq : ((List.range d.size).filter (Lib.keeps d)).Pairwise (· < ·) := hp.sublist List.filter_sublist
  refine List.Pairwise.imp_of_mem ?_ hq
  intro i j _ hj hij
  rw [List.mem_filter, List.mem_range] at hj
  obtain ⟨hj1, hj2⟩ := hj
  unfold Lib.keeps at hj2
  have h3 : d[j]! ≠ d[j - 1]! := by
   rcases of_decide_eq_true hj2 with h | h
   ·omega
   ·exact h
  have h4 := hle i (j - 1) (by omega) (by omega)
  have h5 := hle (j - 1) j (by omega) hj1
  omega
 ·intro x
  unfold Lib.compactUpTo
  rw [List.mem_map]
  constructor
  ·rintro ⟨i, hi, rfl⟩
   rw [List.mem_filter, List.mem_range] at hi
   rw [getElem!_pos d i hi.1]
   exact Array.getElem_mem_toList hi.1
  ·intro hx
   obtain ⟨i, hi, rfl⟩ := List.getElem_of_mem hx
   have hi' : i < d.size := by simpa using hi
   obtain ⟨k, h1, h2, h3⟩ := keeps_below d i
   refine ⟨k, ?_, ?_⟩
   ·rw [List.mem_filter, List.mem_range]
    exact ⟨by omega, h2⟩
   ·rw [h3, getElem!_pos d i hi']
    rfl

def az (x : Int) : Value := .int .u64 x
theorem az_one (l : List Int) : ∀ u ∈ l.map az, u.oneCell' = true := by
 intro u hu
 obtain ⟨c, _, rfl⟩ := List.mem_map.1 hu
 rfl
def Az (w : World) (v : Value) (l : List Int) : Prop := Rs w 1 v l.length (l.map az)
theorem Az.ext {w w' : World} {v : Value} {l : List Int} (h : Az w v l) (he : Ext w w') : Az w' v l := Rs.ext h he
theorem Az.cells {w : World} {v : Value} {l : List Int} (h : Az w v l) (hp : 0 < l.length) : ∃ b o c, v = .slice (some ⟨b, o, none⟩) l.length c ∧ l.length ≤ c ∧ c ≤ maxLen ∧ ∀ i, i < l.length → w.cell? ⟨b, o + i, none⟩ = some (.int .u64 (l.getD i 0)) := by
 obtain ⟨_, A, c, rfl, h1, h2, h3⟩ := h
 obtain ⟨b, o, rfl, hc⟩ := h3 hp
 refine ⟨b, o, c, rfl, h1, h2, fun i hi => hc i _ ?_⟩
 simp [hi, az]
def AzO (w : World) (base : Nat) (v : Value) (l : List Int) : Prop := w.ownsRow base 45 1 v l.length (l.map az)
theorem AzO.az {w : World} {base : Nat} {v : Value} {l : List Int} (h : AzO w base v l) : Az w v l := Rs.of_own h
theorem AzO.ext {w w' : World} {base : Nat} {v : Value} {l : List Int} (h : AzO w base v l) (he : Ext w w') : AzO w' base v l := own_ext h he
set_option maxRecDepth 100000 in
theorem adinfo : (Tryz.prog.info? 45).map (fun i => (i.zero, i.size, i.bytes)) = some (some (.int .u64 0), 1, 8) := by kernel_rfl
set_option maxRecDepth 100000 in
theorem adsize : (Tryz.prog.info? 45).map (·.size) = some 1 := by kernel_rfl
theorem ext_grow (w : World) (os : Array Obj) : Ext w (Go.Sort.grow w os) := ⟨rfl, rfl, rfl, by simp, fun _ hk => Go.Sort.heap_grow_old w os hk⟩
theorem own_row {w : World} {g base : Nat} {l : List Int} (h : w.heap[g]? = some (.cells (l.map az).toArray 45 (0, 0))) (hb : base ≤ g) (hl : l.length ≤ maxLen) : AzO w base (.slice (some ⟨g, 0, none⟩) l.length l.length) l :=
 ⟨by simp, .inr ⟨g, l.length, _, rfl, hb, h, Nat.le_refl _, hl, by simp, List.take_of_length_le (by simp)⟩⟩
theorem wpList_make_az {P : Program} {w : World} {ops : Array Oper} {rest : List Oper} {o : Oper} {a : Act} {Q : Exit → Act → World → Prop}
  (hg : o.guard = none) (l c : Operand) (t : TypeId) (hop : o.op = Op.makeSlice t l c) (e : TypeId) (h1 : P.underlying t = some (.slice e))
  (hinfo : (P.info? e).map (fun i => (i.zero, i.size, i.bytes)) = some (some (.int .u64 0), 1, 8)) (kl kc : IntKind) (L C : Int) (n : Nat) (hl : a.eval l = .int kl L) (hc : a.eval c = .int kc C) (hL : L = (n : Int)) (hC : C = (n : Int)) (hn : n ≤ 1099511627776)
  (hK : ∀ w' cur, w'.heap[w.heap.size]? = some (.cells cur e (0, 0)) → cur.size = n → Ext w w' → wpList P ops Q rest (a.put o.dst (.slice (some ⟨w.heap.size, 0, none⟩) n n)) w') :
  wpList P ops Q (o :: rest) a w := by
 obtain ⟨i0, hi, hz0, hz1, hz2⟩ := info_parts hinfo
 refine wpList_make_full w hg l c t hop w.heap.size e i0 (.int .u64 0) 1 h1 hi hz0 hz1 kl kc L C n hl hc hL hC (by rw [hz2]; omega) (by unfold maxLen; omega) (Nat.le_refl _) fun w' hown hgr => ?_
 rcases hown.2 with ⟨h', _⟩ | ⟨g, cap, cur, h', _, hgg, _, _, hcs, _⟩
 ·simp at h'
 ·simp only [Value.slice.injEq, Option.some.injEq, Addr.mk.injEq, and_true, true_and] at h'
  obtain ⟨rfl, rfl⟩ := h'
  exact hK w' cur hgg (by simpa using hcs) ⟨hgr.os, hgr.tape, hgr.output, hgr.size, fun k hk => hgr.block k hk (by simp)⟩
theorem wpList_copy_row {P : Program} {w : World} {ops : Array Oper} {rest : List Oper} {o : Oper} {a : Act} {Q : Exit → Act → World → Prop} (hgd : o.guard = none) (d s : Operand) (dT sT : TypeId)
  (ho : o.op = .call { callee := .builtin .copy, args := #[d, s], argTypes := #[dT, sT] }) (e : TypeId) (hu : P.underlying dT = some (.slice e)) (hsz : (P.info? e).map (·.size) = some 1)
  (g n cap : Nat) (cur : Array Value) (hcs : cur.size = n) (hd : a.eval d = .slice (some ⟨g, 0, none⟩) n cap) (hg : w.heap[g]? = some (.cells cur e (0, 0))) (sv : Value) (cs : List Value) (hs : a.eval s = sv) (hx : Rs w 1 sv n cs) (h1 : ∀ v ∈ cs, v.oneCell' = true)
  (hK : ∀ w', w'.heap[g]? = some (.cells cs.toArray e (0, 0)) → w.grownBy w' (some g) → wpList P ops Q rest (a.put o.dst (goInt n)) w') : wpList P ops Q (o :: rest) a w := by
 obtain ⟨hl, A, c, rfl, h2, h3, h4⟩ := hx
 rw [Nat.mul_one] at hl
 by_cases h0 : n = 0
 ·subst h0
  refine wpList_copy_nothing hgd d s dT sT ho e hu hsz _ _ _ _ _ _ hd hs rfl ?_
  have e1 : cs = [] := List.eq_nil_of_length_eq_zero hl
  have e2 : cur = #[] := Array.eq_empty_of_size_eq_zero hcs
  exact hK w (by rw [e1]; rw [e2] at hg; exact hg) (World.grownBy.refl _ _)
 ·obtain ⟨b, o', rfl, hc⟩ := h4 (by omega)
  refine wpList_copy_own hgd d s dT sT ho e hu hsz g 0 n cap ⟨b, o', none⟩ n c hd hs cur e hg cs (by simp [hl]) ?_ (by omega) h1 ?_
  ·intro j u hu'
   have hadd : (⟨b, o', none⟩ : Addr).add j = ⟨b, o' + j, none⟩ := by unfold Addr.add; split <;> simp_all
   rw [hadd]
   exact hc j u hu'
  ·have e1 : (cur.toList.take 0 ++ (cs ++ cur.toList.drop (0 + cs.length))).toArray = cs.toArray := by
    rw [List.drop_of_length_le (by rw [Array.length_toList]; omega)]
    simp
   rw [e1, hl]
   exact hK _ (setRow_heap w g _ _ e (0, 0) hg) ⟨rfl, rfl, rfl, by simp [World.setRow], fun k _ hk => setRow_other w g k _ (fun e => hk (by simp [e]))⟩

def cmpI (x y : Int) : Int := if x < y then -1 else if y < x then 1 else 0
theorem cmpI_lt (x y : Int) : ltOf cmpI x y = decide (x < y) := by
 unfold ltOf cmpI
 by_cases h1 : x < y
 ·simp [h1]
 ·by_cases h2 : y < x <;> simp [h1, h2]
theorem cmpI_swo : Go.Sort.SWO (ltOf cmpI) where
 irrefl x := by rw [cmpI_lt]; simp
 trans x y z h1 h2 := by rw [cmpI_lt] at *; simp at *; omega
 ntrans x y z h1 h2 := by rw [cmpI_lt] at *; simp at *; omega
set_option maxRecDepth 100000 in
theorem cmpAdr_any (x y : Int) (w : World) : Calls Tryz.prog 129 #[.int .u64 x, .int .u64 y] w fun e w' => e = .returned (.int .i64 (cmpI x y)) ∧ w = w' := by
 go_enter Tryz.func129, Tryz.ntmps129
 go_wp2
 all_goals
  go_ret
  refine ⟨ret_int ?_, rfl⟩
  unfold cmpI
  split <;> (try split) <;> omega
set_option maxRecDepth 100000 in
theorem sorted1_any (x y : Int) (w : World) : Calls Tryz.prog 136 #[.int .u64 x, .int .u64 y] w fun e w' => e = .returned (.int .i64 (cmpI x y)) ∧ ∃ q, w' = w.drewN q := by
 have HC := Lib.hid (fun W => cmpAdr_any x y W)
 generalize cmpI x y = r at *
 go_enter Tryz.func136, Tryz.ntmps136
 go_wp2_with fail
 refine (HC.out _).mono ?_
 rintro e w1 ⟨rfl, rfl⟩
 go_wp2_with fail
 go_ret
 exact ⟨rfl, 0, rfl⟩
def RetSd (w : World) (l : List Int) (e : Ending) (w' : World) : Prop := ∃ v r, e = .returned v ∧ SR l r ∧ AzO w' w.heap.size v r ∧ Ext w w'

set_option maxRecDepth 100000 in
set_option maxHeartbeats 4000000 in
theorem sorted_any (v : Value) (l : List Int) (w : World) (hv : Az w v l) (hl : l.length ≤ 1000000) : Calls Tryz.prog 109 #[v] w (RetSd w l) := by
 obtain ⟨_, A, c, rfl, h1, h2, _⟩ := id hv
 have HV := Lib.hid (show Rs w 1 (.slice A l.length c) l.length (l.map az) from hv)
 clear hv
 unfold maxLen at h2
 go_enter Tryz.func109, Tryz.ntmps109
 go_wp2_with (first
  | (at_make; refine wpList_make_az rfl _ _ _ rfl 45 Tryz.underlying31 adinfo .i64 .i64 _ _ l.length rfl rfl rfl rfl (by omega) ?_; intro w1 cur hr1 hc1 he1; have HR := Lib.hid hr1; have HN := Lib.hid hc1; have HE := Lib.hid he1; clear hr1 hc1 he1)
  | (with_reducible refine wpList_copy_row rfl (.tmp 7) (.tmp 8) _ _ rfl 45 Tryz.underlying31 adsize w.heap.size l.length l.length cur HN.out rfl HR.out (.slice A l.length c) (l.map az) rfl (HV.out.ext HE.out) (az_one l) ?_; intro w2 hr2 hg2; have HE2 := Lib.hid (HE.out.grown hg2 (Nat.le_refl _)); have HO := Lib.hid (own_row (base := w.heap.size) hr2 (Nat.le_refl _) (by unfold maxLen; omega)); clear hr2 hg2))
 obtain ⟨g, cap, hgv, hbg, hgl, _, _, _, hH⟩ := Lib.holds_of_ownsRow HO.out (by simp)
 simp only [Value.slice.injEq, Option.some.injEq, Addr.mk.injEq, and_true, true_and] at hgv
 obtain ⟨rfl, rfl⟩ := hgv
 have hcon : Calls Tryz.prog 135 #[.slice (some ⟨w.heap.size, 0, none⟩) l.length l.length, .func (.func 136) #[] #[]] w2 fun e w' => e = .returned (.tuple #[]) ∧ ∃ d' n os, Go.Sort.PermIn 0 l.toArray.size l.toArray d' ∧ Go.Sort.SortedIn (ltOf cmpI) 0 l.toArray.size d' ∧ w' = sortWorld az w2 w.heap.size 0 n d' os :=
  Any.slices_SortFunc laySort az (fun _ => rfl) cmpI cmpI_swo 136 #[] w.heap.size 0 l.length l.toArray w2 (fun args u => Tryz.call136 args u) (CmpReads.lays fun _ _ _ _ x y => sorted1_any x y _) hH hgl (by simp; omega)
 have HC := Lib.hid hcon
 clear hcon hH
 refine HC.out.mono ?_
 rintro e w3 ⟨rfl, d', n, os, hp, hs, rfl⟩
 obtain ⟨hp1, _, hp3⟩ := hp
 have hsz : d'.size = l.length := by simpa using hp1
 have hperm : d'.toList.Perm l := by
  have e1 : d'.extract 0 l.toArray.size = d' := by rw [← hp1]; exact Array.extract_size
  rw [e1, Array.extract_size] at hp3
  exact hp3
 have hsr := compact_SR d' (fun i j hij hj => by
  have := hs i j (Nat.zero_le _) hij (by rw [← hp1]; exact hj)
  rw [cmpI_lt] at this
  simpa using this)
 have hown1 := Lib.ownsRow_putRow (q := n) (k := l.length) (ys := d'.toList) HO.out (by simp [hsz]) (Nat.le_refl _)
 rw [List.take_of_length_le (by simp [hsz]), Array.toArray_toList] at hown1
 have hown3 := own_ext hown1 (ext_grow _ os)
 have HE3 := Lib.hid (Ext.trans (Lib.below_putRow (enc := az) (q := n) (d := d') HE2.out (Nat.le_refl _)) (ext_grow _ os))
 have HO3 := Lib.hid hown3
 have HSR := Lib.hid (show SR l (Lib.compactUpTo d' d'.size) from ⟨hsr.1, fun x => (hsr.2 x).trans hperm.mem_iff⟩)
 have HSZ := Lib.hid hsz
 obtain ⟨_, _, hgv, _, hgl3, _, _, _, hH3⟩ := Lib.holds_of_ownsRow hown3 (by simp)
 simp only [Value.slice.injEq, Option.some.injEq, Addr.mk.injEq, and_true, true_and] at hgv
 obtain ⟨rfl, rfl⟩ := hgv
 rw [Array.toArray_toList] at hH3
 have hlen : (Lib.compactUpTo d' d'.size).length ≤ l.length := by
  unfold Lib.compactUpTo
  rw [List.length_map]
  exact Nat.le_trans (List.length_filter_le _ _) (by rw [List.length_range, hsz]; exact Nat.le_refl _)
 have HLEN := Lib.hid hlen
 clear HC hp1 hp3 hs hperm hsr hown1 hown3
 unfold sortWorld
 generalize Go.Sort.grow (Go.Sort.putRow az (Go.Sort.ahead w2 n) w.heap.size 0 d') os = w3 at *
 have hcon := AnyE.slices_Compact layCompact az (fun _ => rfl) (EqlAt.intD _ _ .u64) (NeqAt.intD _ _ .u64) 0 Tryz.zeroValue45 w.heap.size 0 l.length d' w3 hH3 (by omega) (by omega)
 change Calls Tryz.prog 137 _ _ _ at hcon
 generalize Lib.compactUpTo d' d'.size = r at *
 rw [hsz] at hcon
 have HC := Lib.hid hcon
 clear hcon hH3 hlen
 go_wp2_with fail
 refine HC.out.mono ?_
 rintro e w4 ⟨rfl, q, rfl⟩
 have hown := Lib.ownsRow_putRow (q := q) (k := r.length) (ys := r ++ List.replicate (l.length - r.length) 0) HO3.out (by simp; have := HLEN.out; omega) HLEN.out
 rw [List.take_left] at hown
 have HF := Lib.hid (And.intro hown (Lib.below_putRow (enc := az) (q := q) (d := (r ++ List.replicate (l.length - r.length) 0).toArray) HE3.out (Nat.le_refl _)))
 clear hown
 generalize Go.Sort.putRow az (Go.Sort.ahead w3 q) w.heap.size 0 (r ++ List.replicate (l.length - r.length) 0).toArray = w4 at *
 go_wp2_with fail
 go_ret
 exact ⟨_, r, rfl, HSR.out, HF.out.1, HF.out.2⟩
end Go.Proofs.YtnjpdchmdimaaaaGreat
namespace Go.Proofs.YtnjpdchmdimaaaaGreat
open Go.RowKit Go.Shelf

end Go.Proofs.YtnjpdchmdimaaaaGreat
