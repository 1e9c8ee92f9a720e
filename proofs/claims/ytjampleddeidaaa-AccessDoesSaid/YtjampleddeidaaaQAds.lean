/- Sorted addresses: mathematics; and the contract of Sorted of package addr. The document's Sorted, and SameAddrs. -/
import Derived.Test.YtjampleddeidaaaQAem
import Derived.Test.YtjampleddeidaaaQByt
import Derived.Test.YtjampleddeidaaaShl
import Derived.Lib.OwnBridge
import Derived.Sort.OwnSorted
import Derived.ArgAppend
import Derived.BigQuiet
import Derived.Deep.RegionHeld3
namespace Go.Proofs.Ytjampleddeidaaa
open Go.RowKit Go.Shelf

def SR (l r : List Int) : Prop := r.Pairwise (· < ·) ∧ ∀ x, x ∈ r ↔ x ∈ l
set_option maxRecDepth 100000 in
theorem rise_unique : ∀ (r s : List Int), r.Pairwise (· < ·) → s.Pairwise (· < ·) → (∀ x, x ∈ r ↔ x ∈ s) → r = s
  | [], [], _, _, _ => rfl
  | [], b :: s, _, _, h => absurd ((h b).2 List.mem_cons_self) (by simp)
  | a :: r, [], _, _, h => absurd ((h a).1 List.mem_cons_self) (by simp)
  | a :: r, b :: s, hr, hs, h => by
    obtain ⟨hr1, hr2⟩ := List.pairwise_cons.1 hr
    obtain ⟨hs1, hs2⟩ := List.pairwise_cons.1 hs
    have hab : a = b := by
      rcases List.mem_cons.1 ((h a).1 List.mem_cons_self) with e | e
      · exact e
      · rcases List.mem_cons.1 ((h b).2 List.mem_cons_self) with e' | e'
        · exact e'.symm
        · have := hr1 b e'
          have := hs1 a e
          omega
    subst hab
    rw [rise_unique r s hr2 hs2 fun x => ⟨fun hx => by
      rcases List.mem_cons.1 ((h x).1 (List.mem_cons_of_mem _ hx)) with e | e
      · have := hr1 x hx; omega
      · exact e, fun hx => by
      rcases List.mem_cons.1 ((h x).2 (List.mem_cons_of_mem _ hx)) with e | e
      · have := hs1 x hx; omega
      · exact e⟩]
set_option maxRecDepth 100000 in
theorem SR.unique {l r s : List Int} (h : SR l r) (k : SR l s) : r = s := rise_unique r s h.1 k.1 fun x => (h.2 x).trans (k.2 x).symm
set_option maxRecDepth 100000 in
theorem keeps_below (d : Array Int) : ∀ i, ∃ k, k ≤ i ∧ Lib.keeps d k = true ∧ d[k]! = d[i]!
  | 0 => ⟨0, Nat.le_refl _, by unfold Lib.keeps; simp, rfl⟩
  | i + 1 => by
    by_cases h : d[i + 1]! = d[i]!
    · obtain ⟨k, h1, h2, h3⟩ := keeps_below d i
      exact ⟨k, by omega, h2, by rw [h3, h]⟩
    · exact ⟨i + 1, Nat.le_refl _, by unfold Lib.keeps; simp; exact h, rfl⟩
set_option maxRecDepth 100000 in
theorem compact_SR (d : Array Int) (hs : ∀ i j, i < j → j < d.size → ¬ d[j]! < d[i]!) : SR d.toList (Lib.compactUpTo d d.size) := by
  have hle : ∀ i j, i ≤ j → j < d.size → d[i]! ≤ d[j]! := by
    intro i j h1 h2
    rcases Nat.lt_or_ge i j with h | h
    · have := hs i j h h2
      omega
    · rw [show i = j by omega]
      exact Int.le_refl _
  constructor
  · unfold Lib.compactUpTo
    rw [List.pairwise_map]
    have hp : (List.range d.size).Pairwise (· < ·) := List.pairwise_lt_range
    have hq : ((List.range d.size).filter (Lib.keeps d)).Pairwise (· < ·) := hp.sublist List.filter_sublist
    refine List.Pairwise.imp_of_mem ?_ hq
    intro i j _ hj hij
    rw [List.mem_filter, List.mem_range] at hj
    obtain ⟨hj1, hj2⟩ := hj
    unfold Lib.keeps at hj2
    have h3 : d[j]! ≠ d[j - 1]! := by
      rcases of_decide_eq_true hj2 with h | h
      · omega
      · exact h
    have h4 := hle i (j - 1) (by omega) (by omega)
    have h5 := hle (j - 1) j (by omega) hj1
    omega
  · intro x
    unfold Lib.compactUpTo
    rw [List.mem_map]
    constructor
    · rintro ⟨i, hi, rfl⟩
      rw [List.mem_filter, List.mem_range] at hi
      rw [getElem!_pos d i hi.1]
      exact Array.getElem_mem_toList hi.1
    · intro hx
      obtain ⟨i, hi, rfl⟩ := List.getElem_of_mem hx
      have hi' : i < d.size := by simpa using hi
      obtain ⟨k, h1, h2, h3⟩ := keeps_below d i
      refine ⟨k, ?_, ?_⟩
      · rw [List.mem_filter, List.mem_range]
        exact ⟨by omega, h2⟩
      · rw [h3, getElem!_pos d i hi']
        rfl

def az (x : Int) : Value := .int .u64 x
set_option maxRecDepth 100000 in
theorem az_one (l : List Int) : ∀ u ∈ l.map az, u.oneCell' = true := by
  intro u hu
  obtain ⟨c, _, rfl⟩ := List.mem_map.1 hu
  rfl
def Az (w : World) (v : Value) (l : List Int) : Prop := Rs w 1 v l.length (l.map az)
set_option maxRecDepth 100000 in
theorem Az.ext {w w' : World} {v : Value} {l : List Int} (h : Az w v l) (he : Ext w w') : Az w' v l := Rs.ext h he
def AzO (w : World) (base : Nat) (v : Value) (l : List Int) : Prop := w.ownsRow base 28 1 v l.length (l.map az)
set_option maxRecDepth 100000 in
theorem AzO.az {w : World} {base : Nat} {v : Value} {l : List Int} (h : AzO w base v l) : Az w v l := Rs.of_own h
set_option maxRecDepth 100000 in
theorem AzO.ext {w w' : World} {base : Nat} {v : Value} {l : List Int} (h : AzO w base v l) (he : Ext w w') : AzO w' base v l := own_ext h he
set_option maxRecDepth 100000 in
theorem adinfo : (Try.prog.info? 28).map (fun i => (i.zero, i.size, i.bytes)) = some (some (.int .u64 0), 1, 8) := by kernel_rfl
set_option maxRecDepth 100000 in
theorem adsize : (Try.prog.info? 28).map (·.size) = some 1 := by kernel_rfl
set_option maxRecDepth 100000 in
theorem ext_grow (w : World) (os : Array Obj) : Ext w (Go.Sort.grow w os) := ⟨rfl, rfl, rfl, by simp, fun _ hk => Go.Sort.heap_grow_old w os hk⟩
set_option maxRecDepth 100000 in
theorem own_row {w : World} {g base : Nat} {l : List Int} (h : w.heap[g]? = some (.cells (l.map az).toArray 28 (0, 0))) (hb : base ≤ g) (hl : l.length ≤ maxLen) : AzO w base (.slice (some ⟨g, 0, none⟩) l.length l.length) l :=
  ⟨by simp, .inr ⟨g, l.length, _, rfl, hb, h, Nat.le_refl _, hl, by simp, List.take_of_length_le (by simp)⟩⟩
set_option maxRecDepth 100000 in
theorem wpList_make_az {P : Program} {w : World} {ops : Array Oper} {rest : List Oper} {o : Oper} {a : Act} {Q : Exit → Act → World → Prop}
    (hg : o.guard = none) (l c : Operand) (t : TypeId) (hop : o.op = Op.makeSlice t l c) (e : TypeId) (h1 : P.underlying t = some (.slice e))
    (hinfo : (P.info? e).map (fun i => (i.zero, i.size, i.bytes)) = some (some (.int .u64 0), 1, 8)) (kl kc : IntKind) (L C : Int) (n : Nat) (hl : a.eval l = .int kl L) (hc : a.eval c = .int kc C) (hL : L = (n : Int)) (hC : C = (n : Int)) (hn : n ≤ 1099511627776)
    (hK : ∀ w' cur, w'.heap[w.heap.size]? = some (.cells cur e (0, 0)) → cur.size = n → Ext w w' → wpList P ops Q rest (a.put o.dst (.slice (some ⟨w.heap.size, 0, none⟩) n n)) w') :
    wpList P ops Q (o :: rest) a w := by
  obtain ⟨i0, hi, hz0, hz1, hz2⟩ := info_parts hinfo
  refine wpList_make_full w hg l c t hop w.heap.size e i0 (.int .u64 0) 1 h1 hi hz0 hz1 kl kc L C n hl hc hL hC (by rw [hz2]; omega) (by unfold maxLen; omega) (Nat.le_refl _) fun w' hown hgr => ?_
  rcases hown.2 with ⟨h', _⟩ | ⟨g, cap, cur, h', _, hgg, _, _, hcs, _⟩
  · simp at h'
  · simp only [Value.slice.injEq, Option.some.injEq, Addr.mk.injEq, and_true, true_and] at h'
    obtain ⟨rfl, rfl⟩ := h'
    exact hK w' cur hgg (by simpa using hcs) ⟨hgr.os, hgr.tape, hgr.output, hgr.size, fun k hk => hgr.block k hk (by simp)⟩
set_option maxRecDepth 100000 in
theorem wpList_copy_row {P : Program} {w : World} {ops : Array Oper} {rest : List Oper} {o : Oper} {a : Act} {Q : Exit → Act → World → Prop} (hgd : o.guard = none) (d s : Operand) (dT sT : TypeId)
    (ho : o.op = .call { callee := .builtin .copy, args := #[d, s], argTypes := #[dT, sT] }) (e : TypeId) (hu : P.underlying dT = some (.slice e)) (hsz : (P.info? e).map (·.size) = some 1)
    (g n cap : Nat) (cur : Array Value) (hcs : cur.size = n) (hd : a.eval d = .slice (some ⟨g, 0, none⟩) n cap) (hg : w.heap[g]? = some (.cells cur e (0, 0))) (sv : Value) (cs : List Value) (hs : a.eval s = sv) (hx : Rs w 1 sv n cs) (h1 : ∀ v ∈ cs, v.oneCell' = true)
    (hK : ∀ w', w'.heap[g]? = some (.cells cs.toArray e (0, 0)) → w.grownBy w' (some g) → wpList P ops Q rest (a.put o.dst (goInt n)) w') : wpList P ops Q (o :: rest) a w := by
  obtain ⟨hl, A, c, rfl, h2, h3, h4⟩ := hx
  rw [Nat.mul_one] at hl
  by_cases h0 : n = 0
  · subst h0
    refine wpList_copy_nothing hgd d s dT sT ho e hu hsz _ _ _ _ _ _ hd hs rfl ?_
    have e1 : cs = [] := List.eq_nil_of_length_eq_zero hl
    have e2 : cur = #[] := Array.eq_empty_of_size_eq_zero hcs
    exact hK w (by rw [e1]; rw [e2] at hg; exact hg) (World.grownBy.refl _ _)
  · obtain ⟨b, o', rfl, hc⟩ := h4 (by omega)
    refine wpList_copy_own hgd d s dT sT ho e hu hsz g 0 n cap ⟨b, o', none⟩ n c hd hs cur e hg cs (by simp [hl]) ?_ (by omega) h1 ?_
    · intro j u hu'
      have hadd : (⟨b, o', none⟩ : Addr).add j = ⟨b, o' + j, none⟩ := by unfold Addr.add; split <;> simp_all
      rw [hadd]
      exact hc j u hu'
    · have e1 : (cur.toList.take 0 ++ (cs ++ cur.toList.drop (0 + cs.length))).toArray = cs.toArray := by
        rw [List.drop_of_length_le (by rw [Array.length_toList]; omega)]
        simp
      rw [e1, hl]
      exact hK _ (setRow_heap w g _ _ e (0, 0) hg) ⟨rfl, rfl, rfl, by simp [World.setRow], fun k _ hk => setRow_other w g k _ (fun e => hk (by simp [e]))⟩

def cmpI (x y : Int) : Int := if x < y then -1 else if y < x then 1 else 0
set_option maxRecDepth 100000 in
theorem cmpI_lt (x y : Int) : ltOf cmpI x y = decide (x < y) := by
  unfold ltOf cmpI
  by_cases h1 : x < y
  · simp [h1]
  · by_cases h2 : y < x <;> simp [h1, h2]
set_option maxRecDepth 100000 in
theorem cmpI_swo : Go.Sort.SWO (ltOf cmpI) where
  irrefl x := by rw [cmpI_lt]; simp
  trans x y z h1 h2 := by rw [cmpI_lt] at *; simp at *; omega
  ntrans x y z h1 h2 := by rw [cmpI_lt] at *; simp at *; omega
set_option maxRecDepth 100000 in
theorem cmpAdr_any (x y : Int) (w : World) : Calls Try.prog 56 #[.int .u64 x, .int .u64 y] w fun e w' => e = .returned (.int .i64 (cmpI x y)) ∧ w = w' := by
  go_enter Try.func56, Try.ntmps56
  go_wp2
  all_goals
    go_ret
    refine ⟨ret_int ?_, rfl⟩
    unfold cmpI
    split <;> (try split) <;> omega
set_option maxRecDepth 100000 in
theorem sorted1_any (x y : Int) (w : World) : Calls Try.prog 58 #[.int .u64 x, .int .u64 y] w fun e w' => e = .returned (.int .i64 (cmpI x y)) ∧ ∃ q, w' = w.drewN q := by
  have HC := Lib.hid (fun W => cmpAdr_any x y W)
  generalize cmpI x y = r at *
  go_enter Try.func58, Try.ntmps58
  go_wp2_with fail
  refine (HC.out _).mono ?_
  rintro e w1 ⟨rfl, rfl⟩
  go_wp2_with fail
  go_ret
  exact ⟨rfl, 0, rfl⟩
def RetS (w : World) (l : List Int) (e : Ending) (w' : World) : Prop := ∃ v r, e = .returned v ∧ SR l r ∧ AzO w' w.heap.size v r ∧ Ext w w'

set_option maxRecDepth 100000 in
set_option maxHeartbeats 4000000 in
theorem sorted_any (v : Value) (l : List Int) (w : World) (hv : Az w v l) (hl : l.length ≤ 1000000) : Calls Try.prog 42 #[v] w (RetS w l) := by
  obtain ⟨_, A, c, rfl, h1, h2, _⟩ := id hv
  have HV := Lib.hid (show Rs w 1 (.slice A l.length c) l.length (l.map az) from hv)
  clear hv
  unfold maxLen at h2
  go_enter Try.func42, Try.ntmps42
  go_wp2_with (first
    | (at_make; refine wpList_make_az rfl _ _ _ rfl 28 Try.underlying22 adinfo .i64 .i64 _ _ l.length rfl rfl rfl rfl (by omega) ?_; intro w1 cur hr1 hc1 he1; have HR := Lib.hid hr1; have HN := Lib.hid hc1; have HE := Lib.hid he1; clear hr1 hc1 he1)
    | (with_reducible refine wpList_copy_row rfl (.tmp 7) (.tmp 8) _ _ rfl 28 Try.underlying22 adsize w.heap.size l.length l.length cur HN.out rfl HR.out (.slice A l.length c) (l.map az) rfl (HV.out.ext HE.out) (az_one l) ?_; intro w2 hr2 hg2; have HE2 := Lib.hid (HE.out.grown hg2 (Nat.le_refl _)); have HO := Lib.hid (own_row (base := w.heap.size) hr2 (Nat.le_refl _) (by unfold maxLen; omega)); clear hr2 hg2))
  obtain ⟨g, cap, hgv, hbg, hgl, _, _, _, hH⟩ := Lib.holds_of_ownsRow HO.out (by simp)
  simp only [Value.slice.injEq, Option.some.injEq, Addr.mk.injEq, and_true, true_and] at hgv
  obtain ⟨rfl, rfl⟩ := hgv
  have hcon : Calls Try.prog 57 #[.slice (some ⟨w.heap.size, 0, none⟩) l.length l.length, .func (.func 58) #[] #[]] w2 fun e w' => e = .returned (.tuple #[]) ∧ ∃ d' n os, Go.Sort.PermIn 0 l.toArray.size l.toArray d' ∧ Go.Sort.SortedIn (ltOf cmpI) 0 l.toArray.size d' ∧ w' = sortWorld az w2 w.heap.size 0 n d' os :=
    Any.slices_SortFunc laySort az (fun _ => rfl) cmpI cmpI_swo 58 #[] w.heap.size 0 l.length l.toArray w2 (fun args u => Try.call58 args u) (CmpReads.lays fun _ _ _ _ x y => sorted1_any x y _) hH hgl (by simp; omega)
  have HC := Lib.hid hcon
  clear hcon hH
  refine HC.out.mono ?_
  rintro e w3 ⟨rfl, d', n, os, hp, hs, rfl⟩
  obtain ⟨hp1, _, hp3⟩ := hp
  have hsz : d'.size = l.length := by simpa using hp1
  have hperm : d'.toList.Perm l := by
    have e1 : d'.extract 0 l.toArray.size = d' := by rw [← hp1]; exact Array.extract_size
    rw [e1, Array.extract_size] at hp3
    exact hp3
  have hsr := compact_SR d' (fun i j hij hj => by
    have := hs i j (Nat.zero_le _) hij (by rw [← hp1]; exact hj)
    rw [cmpI_lt] at this
    simpa using this)
  have hown1 := Lib.ownsRow_putRow (q := n) (k := l.length) (ys := d'.toList) HO.out (by simp [hsz]) (Nat.le_refl _)
  rw [List.take_of_length_le (by simp [hsz]), Array.toArray_toList] at hown1
  have hown3 := own_ext hown1 (ext_grow _ os)
  have HE3 := Lib.hid (Ext.trans (Lib.below_putRow (enc := az) (q := n) (d := d') HE2.out (Nat.le_refl _)) (ext_grow _ os))
  have HO3 := Lib.hid hown3
  have HSR := Lib.hid (show SR l (Lib.compactUpTo d' d'.size) from ⟨hsr.1, fun x => (hsr.2 x).trans hperm.mem_iff⟩)
  have HSZ := Lib.hid hsz
  obtain ⟨_, _, hgv, _, hgl3, _, _, _, hH3⟩ := Lib.holds_of_ownsRow hown3 (by simp)
  simp only [Value.slice.injEq, Option.some.injEq, Addr.mk.injEq, and_true, true_and] at hgv
  obtain ⟨rfl, rfl⟩ := hgv
  rw [Array.toArray_toList] at hH3
  have hlen : (Lib.compactUpTo d' d'.size).length ≤ l.length := by
    unfold Lib.compactUpTo
    rw [List.length_map]
    exact Nat.le_trans (List.length_filter_le _ _) (by rw [List.length_range, hsz]; exact Nat.le_refl _)
  have HLEN := Lib.hid hlen
  clear HC hp1 hp3 hs hperm hsr hown1 hown3
  unfold sortWorld
  generalize Go.Sort.grow (Go.Sort.putRow az (Go.Sort.ahead w2 n) w.heap.size 0 d') os = w3 at *
  have hcon := AnyE.slices_Compact layCompact az (fun _ => rfl) (EqlAt.intD _ _ .u64) (NeqAt.intD _ _ .u64) 0 Try.zeroValue28 w.heap.size 0 l.length d' w3 hH3 (by omega) (by omega)
  change Calls Try.prog 59 _ _ _ at hcon
  generalize Lib.compactUpTo d' d'.size = r at *
  rw [hsz] at hcon
  have HC := Lib.hid hcon
  clear hcon hH3 hlen
  go_wp2_with fail
  refine HC.out.mono ?_
  rintro e w4 ⟨rfl, q, rfl⟩
  have hown := Lib.ownsRow_putRow (q := q) (k := r.length) (ys := r ++ List.replicate (l.length - r.length) 0) HO3.out (by simp; have := HLEN.out; omega) HLEN.out
  rw [List.take_left] at hown
  have HF := Lib.hid (And.intro hown (Lib.below_putRow (enc := az) (q := q) (d := (r ++ List.replicate (l.length - r.length) 0).toArray) HE3.out (Nat.le_refl _)))
  clear hown
  generalize Go.Sort.putRow az (Go.Sort.ahead w3 q) w.heap.size 0 (r ++ List.replicate (l.length - r.length) 0).toArray = w4 at *
  go_wp2_with fail
  go_ret
  exact ⟨_, r, rfl, HSR.out, HF.out.1, HF.out.2⟩
end Go.Proofs.Ytjampleddeidaaa
namespace Go.Proofs.Ytjampleddeidaaa
open Go.RowKit Go.Shelf

set_option maxRecDepth 100000 in
theorem ext_drewN {a w : World} (h : Ext a w) (n : Nat) : Ext a (w.drewN n) := ⟨h.os, h.tape, h.output, h.size, fun i hi => Below.block h i hi⟩
set_option maxRecDepth 100000 in
theorem step_append_grows {P : Program} {w : World} {ops : Array Oper} {o : Oper} {a : Act} {K : Act → World → Prop} {Q : Exit → Act → World → Prop} (hgd : Region.wanted o (yielded ops a.tmps) = true) (s x : Operand) (t : TypeId)
    (ho : o.op = .call { callee := .builtin .append, args := #[s, x], argTypes := #[t, t] }) (e : TypeId) (ht : P.underlying t = some (.slice e)) (z : Value) (sz bytes : Nat)
    (hinfo : (P.info? e).map (fun i => (i.zero, i.size, i.bytes)) = some (some z, sz, bytes)) (hzs : z.cells.size = sz) (hsz : 0 < sz)
    (v : Value) (n : Nat) (cs : List Value) (hs : a.eval s = v) (ao : Option Addr) (hv : v = .slice ao n n) (hr : Rs w sz v n cs) (sv : Value) (m : Nat) (ds : List Value) (hx : a.eval x = sv) (hb : Rs w sz sv m ds) (h1c : ∀ u ∈ ds, u.oneCell' = true) (hm : 0 < m)
    (hlen : n + m ≤ 1099511627776) (hby : bytes ≤ 128) (hnil : ao = none → n = 0)
    (hK : ∀ v' w', w'.ownsRow w.heap.size e sz v' (n + m) (cs ++ ds) → w.grownBy w' none → K (a.put o.dst v') w') :
    if Region.wanted o (yielded ops a.tmps) = true then Oper.wp P o a w K Q else K (a.put o.dst undef) w := by
  obtain ⟨i0, hi, hz0, hz1, hz2⟩ := info_parts hinfo
  have hbb : (n + m) * bytes ≤ 140737488355328 := Nat.le_trans (Nat.mul_le_mul hlen hby) (by decide)
  have hmm : n + m ≤ maxLen := by unfold maxLen; omega
  obtain ⟨hl2, A2, c2, rfl, _, _, h2⟩ := hb
  obtain ⟨b2, o2, rfl, hc2⟩ := h2 hm
  have hadd : ∀ (b o j : Nat), (⟨b, o, none⟩ : Addr).add j = ⟨b, o + j, none⟩ := fun b o j => by unfold Addr.add; split <;> simp_all
  have hsrc : ∀ j u, ds[j]? = some u → w.cell? ((⟨b2, o2, none⟩ : Addr).add j) = some u := fun j u hu => by rw [hadd]; exact hc2 j u hu
  obtain ⟨hl1, A1, c1, e1, _, _, h1⟩ := hr
  have hrun : ∃ v' w', (Builtin.append_ #[t, t] o.type #[v, .slice (some ⟨b2, o2, none⟩) m c2]).run P w = .ok v' w' ∧ w'.ownsRow w.heap.size e sz v' (n + m) (cs ++ ds) ∧ w.grownBy w' none := by
    cases ao with
    | none =>
      obtain rfl := hnil rfl
      obtain rfl : cs = [] := List.eq_nil_of_length_eq_zero (by rw [hl1]; simp)
      subst hv
      obtain ⟨v', w', hr, ho', hg', _⟩ := run_append_own (P := P) w w.heap.size t o.type e i0 z sz bytes ht hi hz0 hz1 hz2 hzs hsz (.slice none 0 0) 0 [] (World.ownsRow_nil w _ e sz) ⟨b2, o2, none⟩ m c2 ds hl2 hsrc h1c hmm hbb (Nat.le_refl _)
      exact ⟨v', w', hr, ho', hg'⟩
    | some b =>
      subst hv
      injection e1 with e2 e3 e4
      subst e2
      by_cases hn : n = 0
      · subst hn
        obtain rfl : cs = [] := List.eq_nil_of_length_eq_zero (by rw [hl1]; simp)
        exact run_append_arg_grows (P := P) w t o.type e i0 z sz bytes ht hi hz0 hz1 hz2 hzs hsz b 0 0 [] (by simp) (fun j u hu => by simp at hu) ⟨b2, o2, none⟩ m c2 ds hl2 hsrc (by omega) hmm hbb
      · obtain ⟨b1, o1, e5, hc1⟩ := h1 (by omega)
        injection e5 with e5
        subst e5
        exact run_append_arg_grows (P := P) w t o.type e i0 z sz bytes ht hi hz0 hz1 hz2 hzs hsz ⟨b1, o1, none⟩ n n cs hl1 (fun j u hu => by rw [hadd]; exact hc1 j u hu) ⟨b2, o2, none⟩ m c2 ds hl2 hsrc (by omega) hmm hbb
  obtain ⟨v', w', hr, h4, h5⟩ := hrun
  rw [if_pos hgd]
  unfold Oper.wp
  simp [execOp, ho, resolve, invoke, builtin, hs, hx, hr, Result.andThen]
  exact hK v' w' h4 h5

set_option maxRecDepth 100000 in
theorem ins_SR {m out : List Int} (h : SR m out) (x : Int) (k : Nat) (hk : k ≤ out.length) (h1 : ∀ j, j < k → out.getD j 0 < x) (h2 : k < out.length → x < out.getD k 0) : SR (m ++ [x]) (out.take k ++ x :: out.drop k) := by
  obtain ⟨hp, hm⟩ := h
  have hp' := hp
  rw [← List.take_append_drop k out, List.pairwise_append] at hp'
  obtain ⟨p1, p2, p3⟩ := hp'
  have ht : ∀ a ∈ out.take k, a < x := by
    intro a ha
    obtain ⟨j, hj, rfl⟩ := List.getElem_of_mem ha
    rw [List.length_take] at hj
    have := h1 j (by omega)
    rw [List.getElem_take]
    simpa [List.getD, show j < out.length by omega] using this
  have hd : ∀ b ∈ out.drop k, x < b := by
    intro b hb
    by_cases hkl : k < out.length
    · have h3 := h2 hkl
      rw [List.drop_eq_getElem_cons hkl] at hb p2
      have e : out.getD k 0 = out[k] := by simp [List.getD, hkl]
      rw [e] at h3
      rcases List.mem_cons.1 hb with rfl | hb
      · exact h3
      · have := (List.pairwise_cons.1 p2).1 b hb
        omega
    · rw [List.drop_of_length_le (by omega)] at hb
      cases hb
  refine ⟨?_, fun y => ?_⟩
  · rw [List.pairwise_append, List.pairwise_cons]
    refine ⟨p1, ⟨hd, p2⟩, fun a ha b hb => ?_⟩
    rcases List.mem_cons.1 hb with rfl | hb
    · exact ht a ha
    · exact p3 a ha b hb
  · have e : y ∈ out ↔ y ∈ out.take k ∨ y ∈ out.drop k := by
      conv => lhs; rw [← List.take_append_drop k out]
      exact List.mem_append
    rw [List.mem_append, List.mem_cons, List.mem_append, List.mem_singleton, ← hm y, e]
    constructor
    · rintro (h | h | h)
      · exact .inl (.inl h)
      · exact .inr h
      · exact .inl (.inr h)
    · rintro ((h | h) | h)
      · exact .inl h
      · exact .inr (.inr h)
      · exact .inr (.inl h)
set_option maxRecDepth 100000 in
theorem dup_SR {m out : List Int} (h : SR m out) (x : Int) (k : Nat) (hk : k < out.length) (he : out.getD k 0 = x) : SR (m ++ [x]) out := by
  refine ⟨h.1, fun y => ?_⟩
  have hx : x ∈ out := by
    rw [← he]
    simp [List.getD, hk]
  rw [List.mem_append, List.mem_singleton, ← h.2 y]
  exact ⟨.inl, fun h => h.elim id fun e => e ▸ hx⟩
set_option maxRecDepth 100000 in
theorem take_more (l : List Int) (k : Nat) (hk : k < l.length) : l.take (k + 1) = l.take k ++ [l.getD k 0] := by
  rw [List.take_succ_eq_append_getElem hk]
  simp [List.getD, hk]

set_option maxRecDepth 100000 in
theorem own_oneA (w : World) (base g : Nat) (t : TypeId) (v : Value) (hg : g = w.heap.size) (hb : base ≤ g) : (w.alloc (.cells #[v] t)).ownsRow base t 1 (.slice (some ⟨g, 0, none⟩) 1 1) 1 [v] :=
  hg ▸ ⟨rfl, .inr ⟨_, 1, #[v], rfl, hg ▸ hb, heap_alloc_new _ _, Nat.le_refl _, by unfold maxLen; omega, by simp, by simp⟩⟩
set_option maxRecDepth 100000 in
theorem az_dropA {w : World} {b o c n : Nat} {out : List Int} (h : Az w (.slice (some ⟨b, o, none⟩) n c) out) (hn : n = out.length) (p : Nat) (hp : p < n) (hc : n ≤ c) : Rs w 1 (.slice (some ⟨b, o + p, none⟩) (n - p) (c - p)) (n - p) ((out.drop p).map az) := by
  subst hn
  have h1 := Rs.drop h p (by omega)
  rw [if_neg (by omega), Nat.mul_one, ← List.map_drop] at h1
  have hadd : (⟨b, o, none⟩ : Addr).add p = ⟨b, o + p, none⟩ := by unfold Addr.add; split <;> simp_all
  rw [Option.map_some, hadd] at h1
  exact h1
set_option maxRecDepth 100000 in
theorem az_takeA {w : World} {A : Option Addr} {c n : Nat} {out : List Int} (h : Az w (.slice A n c) out) (hn : n = out.length) (p : Nat) (hp : p ≤ n) : Rs w 1 (.slice A p p) p ((out.take p).map az) := by
  subst hn
  obtain ⟨h1, A', c', e, h2, h3, h4⟩ := Rs.take h p hp
  injection e with e1 e2 e3
  subst e1
  subst e3
  rw [Nat.mul_one, ← List.map_take] at h1
  refine ⟨by rw [h1, Nat.mul_one], A, p, rfl, Nat.le_refl _, by omega, fun hpp => ?_⟩
  obtain ⟨b, o, ea, hc⟩ := h4 hpp
  refine ⟨b, o, ea, fun i u hu => hc i u ?_⟩
  rw [Nat.mul_one, ← List.map_take]
  exact hu
set_option maxRecDepth 100000 in
theorem rs_none (w : World) (A : Option Addr) (c : Nat) (hc : c ≤ maxLen) : Rs w 1 (.slice A 0 c) 0 [] := ⟨rfl, A, c, rfl, Nat.zero_le _, hc, fun h => absurd h (by simp)⟩
set_option maxRecDepth 100000 in
theorem own_ins {w : World} {base base' : Nat} {v : Value} {out : List Int} {x : Int} {p m : Nat} (h : w.ownsRow base' 28 1 v (p + (1 + m)) ((out.take p).map az ++ ([az x] ++ (out.drop p).map az))) (hp : p ≤ out.length) (hm : m = out.length - p) (hb : base ≤ base') : AzO w base v (out.take p ++ x :: out.drop p) := by
  have h2 := own_mono h hb
  have e : (out.take p ++ x :: out.drop p).map az = (out.take p).map az ++ ([az x] ++ (out.drop p).map az) := by simp
  have e2 : (out.take p ++ x :: out.drop p).length = p + (1 + m) := by simp; omega
  unfold AzO
  rw [e, e2]
  exact h2

set_option maxRecDepth 100000 in
set_option maxHeartbeats 4000000 in
theorem refSorted_any (v : Value) (l : List Int) (w : World) (hv : Az w v l) (hl : l.length ≤ 1000000) : Calls Try.prog 41 #[v] w (RetS w l) := by
  obtain ⟨_, A0, c0, rfl, _, hm0, ha0⟩ := hv
  unfold maxLen at hm0
  have H0 := Lib.hid ha0
  clear ha0
  go_enter Try.func41, Try.ntmps41
  go_wp2_with fail
  go_loopw [3, 4, 5, 6, 7, 8, 9, 10, 11, 12, 13, 14, 15, 16, 17, 18, 19, 20, 21, 22, 23, 24, 25, 26, 27, 28, 29, 30, 31, 32, 33, 34, 35, 36, 37, 38, 39, 40, 41, 42, 43, 44, 45, 46, 47, 48, 49, 50, 51, 52, 53, 54, 55, 56, 57] (fun vo u _ _ _ _ _ _ _ _ _ _ _ _ _ _ _ _ _ _ _ _ _ _ _ _ _ _ _ _ _ _ _ _ _ _ _ _ _ _ _ _ _ _ _ _ _ _ _ _ _ _ _ _ _ wr => ∃ (k : Nat) (out : List Int), k ≤ l.length ∧ u = .int .i64 k ∧ SR (l.take k) out ∧ out.length ≤ k ∧ Hid (AzO wr w.heap.size vo out) ∧ Hid (Ext w wr)) (fun _ u _ _ _ _ _ _ _ _ _ _ _ _ _ _ _ _ _ _ _ _ _ _ _ _ _ _ _ _ _ _ _ _ _ _ _ _ _ _ _ _ _ _ _ _ _ _ _ _ _ _ _ _ _ _ => l.length - (intOf u).toNat)
  case atStart => exact ⟨0, [], by omega, rfl, ⟨List.Pairwise.nil, fun x => by simp⟩, by simp, Lib.hid (World.ownsRow_nil w _ _ 1), Lib.hid (Ext.refl w)⟩
  case round =>
    obtain ⟨k, out, hk, rfl, hsr, hok, HO, HE⟩ := hrel
    obtain ⟨_, A1, c1, rfl, hlc1, hm1, ha1⟩ := HO.out.az
    unfold maxLen at hm1
    have hol : out.length ≤ 1000000 := by omega
    by_cases hlt : k < l.length
    · obtain ⟨b0, o0, rfl, hc0⟩ := H0.out (by omega)
      have hx0 := HE.out.cell (hc0 k (az (l.getD k 0)) (by simp [hlt]))
      unfold az at hx0
      have HSK := Lib.hid (take_more l k hlt)
      clear hc0
      generalize l.getD k 0 = x at *
      go_wp2_with fail
      go_loopw [5, 12, 13, 14, 15, 16, 17, 18, 19, 20, 21, 22, 23, 24, 25, 26, 27, 28] (fun u _ _ _ _ _ _ _ _ _ _ _ _ _ _ _ _ _ wq => ∃ (p : Nat), p ≤ out.length ∧ u = .int .i64 p ∧ (∀ j, j < p → out.getD j 0 < x) ∧ Hid (Ext wr wq)) (fun u _ _ _ _ _ _ _ _ _ _ _ _ _ _ _ _ _ _ => out.length - (intOf u).toNat)
      case atStart => exact ⟨0, by omega, rfl, fun j hj => absurd hj (by omega), Lib.hid (Ext.refl wr)⟩
      case round =>
        obtain ⟨p, hp, rfl, hlow, HQ⟩ := hrel
        have hx := HQ.out.cell hx0
        by_cases hpl : p < out.length
        · have hd : decide (p < out.length) = true := by simp; omega
          obtain ⟨b1, o1, rfl, hc1⟩ := ha1 (by omega)
          have hy := HQ.out.cell (hc1 p (az (out.getD p 0)) (by simp [hpl]))
          unfold az at hy
          have HY := Lib.hid (show out.getD p 0 = out.getD p 0 from rfl)
          generalize hyv : out.getD p 0 = y at hy
          by_cases hyx : y < x
          · have hd2 : decide (y < x) = true := by simp; omega
            go_wp2_with fail
            go_quiet (fail)
            go_wp2_with fail
            exact ⟨⟨p + 1, by omega, by go_num, fun j hj => by
              by_cases h : j = p
              · rw [h, hyv]; exact hyx
              · exact hlow j (by omega), Lib.hid (ext_drewN HQ.out nq)⟩, by simp [intOf]; omega⟩
          · have hd2 : decide (y < x) = false := by simp; omega
            go_wp2_with fail
            go_quiet (fail)
            by_cases heq : y = x
            · have hq : (y == x) = true := by simp [heq]
              go_wp2_with fail
              go_quiet (fail)
              go_wp2_with fail
              exact ⟨⟨k + 1, out, by omega, by go_num, by rw [HSK.out]; exact dup_SR hsr x p hpl (by rw [hyv, heq]), by omega, Lib.hid (HO.out.ext (ext_drewN HQ.out _)), Lib.hid (HE.out.trans (ext_drewN HQ.out _))⟩, by simp [intOf]; omega⟩
            · have hq : (y == x) = false := by simp [heq]
              go_wp2_with fail
              go_quiet (fail)
              go_wp2_with fail
              have i1 : (0 : Int) ≤ (p : Int) := by omega
              have i2 : (p : Int) ≤ (c1 : Int) := by omega
              have i3 : (p : Int) ≤ (out.length : Int) := by omega
              have i4 : p ≤ c1 := by omega
              have i5 : ¬ c1 = p := by omega
              have i6 : (0 : Int) ≤ (k : Int) := by omega
              have i7 : (k : Int) < (l.length : Int) := by omega
              have HDR := Lib.hid (fun W (h : Ext wr W) => az_dropA ((HO.out.az.ext HQ.out).ext h) rfl p hpl hlc1)
              have HTK := Lib.hid (fun W (h : Ext wr W) => az_takeA ((HO.out.az.ext HQ.out).ext h) rfl p hp)
              have HSZ := Lib.hid (Nat.le_trans HE.out.size HQ.out.size)
              go_region_held3 (fun w' => w'.cell? ⟨b0, o0 + k, none⟩ = some (.int .u64 x)) (first | exact hx | exact ((Ext.refl _).alloc _).cell hx | exact HX2.out | exact HX1.out)
                (first
                  | (refine step_append_row rfl (.tmp 52) (.tmp 55) 22 rfl wr.heap.size 28 Try.underlying22 (.int .u64 0) 1 8 adinfo rfl (by decide) _ 1 [az x] rfl (own_oneA _ _ _ _ _ rfl (Nat.le_refl _)) _ (out.length - p) ((out.drop p).map az) rfl (HDR.out _ ((ext_drewN (Ext.refl wr) _).alloc _)) (az_one _) (by omega) (by decide) (by simp) ?_; intro v1 w1 ho1 hg1 _; have EX1 := Lib.hid (Ext.appendR ((ext_drewN (Ext.refl wr) _).alloc _) (own_oneA _ _ _ _ _ rfl (Nat.le_refl _)) hg1); have HX1 := Lib.hid (EX1.out.cell hx); have HO1 := Lib.hid ho1; clear ho1 hg1)
                  | (refine step_append_grows rfl (.tmp 47) (.tmp 56) 22 rfl 28 Try.underlying22 (.int .u64 0) 1 8 adinfo rfl (by decide) _ p ((out.take p).map az) rfl (some ⟨b1, o1, none⟩) rfl (HTK.out _ EX1.out) _ (1 + (out.length - p)) ([az x] ++ (out.drop p).map az) rfl (Rs.of_own HO1.out) (az_one (x :: out.drop p)) (by omega) (by omega) (by decide) (fun h => by cases h) ?_; intro v2 w2 ho2 hg2; have EX2 := Lib.hid (EX1.out.trans (ext_of_grown hg2)); have HX2 := Lib.hid (EX2.out.cell hx); have HO2 := Lib.hid (own_ins ho2 hp rfl (Nat.le_trans HSZ.out EX1.out.size)); clear ho2 hg2)
                  | fail)
              go_wp2_with fail
              exact ⟨⟨k + 1, out.take p ++ x :: out.drop p, by omega, by go_num, by rw [HSK.out]; exact ins_SR hsr x p hp hlow (fun _ => by rw [hyv]; omega), by simp; omega, HO2, Lib.hid (HE.out.trans (HQ.out.trans EX2.out))⟩, by simp [intOf]; omega⟩
        · obtain rfl : p = out.length := by omega
          have hnil : A1 = none → out.length = 0 := fun h => by
            rcases Nat.eq_zero_or_pos out.length with h0 | h0
            · exact h0
            · obtain ⟨b1, o1, e, _⟩ := ha1 h0
              rw [h] at e
              cases e
          have HNIL := Lib.hid hnil
          have HTK := Lib.hid (fun W (h : Ext wr W) => az_takeA ((HO.out.az.ext HQ.out).ext h) rfl out.length (Nat.le_refl _))
          have HSZ := Lib.hid (Nat.le_trans HE.out.size HQ.out.size)
          have i1 : (0 : Int) ≤ (out.length : Int) := by omega
          have i2 : (out.length : Int) ≤ (c1 : Int) := by omega
          have i6 : (0 : Int) ≤ (k : Int) := by omega
          have i7 : (k : Int) < (l.length : Int) := by omega
          have HC1 : Hid (c1 ≤ maxLen) := by unfold maxLen; exact hm1
          clear ha1 hnil
          by_cases i5 : c1 = out.length
          · go_wp2_with fail
            go_quiet (fail)
            go_wp2_with fail
            go_quiet (fail)
            go_wp2_with fail
            go_region_held3 (fun w' => w'.cell? ⟨b0, o0 + k, none⟩ = some (.int .u64 x)) (first | exact hx | exact ((Ext.refl _).alloc _).cell hx | exact HX2.out | exact HX1.out)
              (first
                | (refine step_append_row rfl (.tmp 52) (.tmp 55) 22 rfl wr.heap.size 28 Try.underlying22 (.int .u64 0) 1 8 adinfo rfl (by decide) _ 1 [az x] rfl (own_oneA _ _ _ _ _ rfl (Nat.le_refl _)) _ 0 [] rfl (rs_none _ _ _ (by have := HC1.out; omega)) (by simp) (by omega) (by decide) (by simp) ?_; intro v1 w1 ho1 hg1 _; have EX1 := Lib.hid (Ext.appendR ((ext_drewN (Ext.refl wr) _).alloc _) (own_oneA _ _ _ _ _ rfl (Nat.le_refl _)) hg1); have HX1 := Lib.hid (EX1.out.cell hx); have HO1 := Lib.hid ho1; clear ho1 hg1)
                | (refine step_append_grows rfl (.tmp 47) (.tmp 56) 22 rfl 28 Try.underlying22 (.int .u64 0) 1 8 adinfo rfl (by decide) _ out.length ((out.take out.length).map az) rfl A1 rfl (HTK.out _ EX1.out) _ (1 + 0) ([az x] ++ []) rfl (Rs.of_own HO1.out) (az_one [x]) (by omega) (by omega) (by decide) HNIL.out ?_; intro v2 w2 ho2 hg2; have EX2 := Lib.hid (EX1.out.trans (ext_of_grown hg2)); have HX2 := Lib.hid (EX2.out.cell hx); have HO2 := Lib.hid (own_ins (m := 0) (x := x) (by rw [List.drop_length]; exact ho2) (Nat.le_refl _) (by omega) (Nat.le_trans HSZ.out EX1.out.size)); clear ho2 hg2)
                | fail)
            go_wp2_with fail
            exact ⟨⟨k + 1, out.take out.length ++ x :: out.drop out.length, by omega, by go_num, by rw [HSK.out]; exact ins_SR hsr x out.length (Nat.le_refl _) hlow (fun h => absurd h (by omega)), by simp; omega, HO2, Lib.hid (HE.out.trans (HQ.out.trans EX2.out))⟩, by simp [intOf]; omega⟩
          · go_wp2_with fail
            go_quiet (fail)
            go_wp2_with fail
            go_quiet (fail)
            go_wp2_with fail
            go_region_held3 (fun w' => w'.cell? ⟨b0, o0 + k, none⟩ = some (.int .u64 x)) (first | exact hx | exact ((Ext.refl _).alloc _).cell hx | exact HX2.out | exact HX1.out)
              (first
                | (refine step_append_row rfl (.tmp 52) (.tmp 55) 22 rfl wr.heap.size 28 Try.underlying22 (.int .u64 0) 1 8 adinfo rfl (by decide) _ 1 [az x] rfl (own_oneA _ _ _ _ _ rfl (Nat.le_refl _)) _ 0 [] rfl (rs_none _ _ _ (by have := HC1.out; omega)) (by simp) (by omega) (by decide) (by simp) ?_; intro v1 w1 ho1 hg1 _; have EX1 := Lib.hid (Ext.appendR ((ext_drewN (Ext.refl wr) _).alloc _) (own_oneA _ _ _ _ _ rfl (Nat.le_refl _)) hg1); have HX1 := Lib.hid (EX1.out.cell hx); have HO1 := Lib.hid ho1; clear ho1 hg1)
                | (refine step_append_grows rfl (.tmp 47) (.tmp 56) 22 rfl 28 Try.underlying22 (.int .u64 0) 1 8 adinfo rfl (by decide) _ out.length ((out.take out.length).map az) rfl A1 rfl (HTK.out _ EX1.out) _ (1 + 0) ([az x] ++ []) rfl (Rs.of_own HO1.out) (az_one [x]) (by omega) (by omega) (by decide) HNIL.out ?_; intro v2 w2 ho2 hg2; have EX2 := Lib.hid (EX1.out.trans (ext_of_grown hg2)); have HX2 := Lib.hid (EX2.out.cell hx); have HO2 := Lib.hid (own_ins (m := 0) (x := x) (by rw [List.drop_length]; exact ho2) (Nat.le_refl _) (by omega) (Nat.le_trans HSZ.out EX1.out.size)); clear ho2 hg2)
                | fail)
            go_wp2_with fail
            exact ⟨⟨k + 1, out.take out.length ++ x :: out.drop out.length, by omega, by go_num, by rw [HSK.out]; exact ins_SR hsr x out.length (Nat.le_refl _) hlow (fun h => absurd h (by omega)), by simp; omega, HO2, Lib.hid (HE.out.trans (HQ.out.trans EX2.out))⟩, by simp [intOf]; omega⟩
    · obtain rfl : k = l.length := by omega
      rw [List.take_length] at hsr
      go_wp2_with fail
      go_ret
      exact ⟨_, out, rfl, hsr, HO.out, HE.out⟩
end Go.Proofs.Ytjampleddeidaaa
