/- Package pack: Size. Package pack: append of bytes made of noughts. Package pack: copy into the midst of a row of the call's own. -/
import Derived.Test.YtdlllihfibjabaaPkb
import Derived.Test.YtdlllihfibjabaaPka
import Derived.Lib.AppendZerosOnto
import Derived.Lib.AppendZeros
namespace Go.Proofs.Ytdlllihfibjabaa
open Go.RowKit Go.Shelf

/-- The bytes of the tail of a part. -/
def tlN (p : Pt) : Nat := if p.1 then 32 + flN p.2.2.length else 0
/-- The bytes of the first k tails. -/
def tlS (l : List Pt) (k : Nat) : Nat := ((l.take k).map tlN).sum
set_option maxRecDepth 100000 in
theorem tlS_next (l : List Pt) (k : Nat) (hk : k < l.length) : tlS l (k + 1) = tlS l k + tlN (l.getD k (false, 0, [])) := by
  unfold tlS
  rw [List.take_succ_eq_append_getElem hk, List.map_append, List.sum_append]
  simp [List.getD, hk]
/-- How many bytes parts have. -/
def szN (l : List Pt) : Nat := if errP l = 0 then 32 * l.length + tlS l l.length else 0
set_option maxRecDepth 100000 in
theorem errP_len (l : List Pt) (h : errP l = 0) : l.length ≤ 16 := by
  unfold errP at h
  split at h
  · omega
  · omega
set_option maxRecDepth 100000 in
theorem errP_all (l : List Pt) (h : errP l = 0) (k : Nat) (hk : k < l.length) : mayB (l.getD k (false, 0, [])) = true := by
  cases e : mayB (l.getD k (false, 0, [])) with
  | true => rfl
  | false =>
    have := errP_stop l k (by have := errP_len l h; omega) hk e
    rw [h] at this
    exact absurd this (by decide)
set_option maxRecDepth 100000 in
theorem mayB_data (p : Pt) (h : mayB p = true) : p.2.2.length ≤ 200 := by
  unfold mayB at h
  split at h
  · simp at h; exact h.2
  · simp at h; simp [h]
set_option maxRecDepth 100000 in
theorem tlN_le (p : Pt) (h : mayB p = true) : tlN p ≤ 256 := by
  have := mayB_data p h
  unfold tlN flN
  split <;> omega
set_option maxRecDepth 100000 in
theorem tlS_le (l : List Pt) (h : errP l = 0) (k : Nat) (hk : k ≤ l.length) : tlS l k ≤ 256 * k := by
  induction k with
  | zero => simp [tlS]
  | succ k ih =>
    rw [tlS_next l k (by omega)]
    have := tlN_le _ (errP_all l h k (by omega))
    have := ih (by omega)
    omega

/-- What lies there between the tails. -/
def SzJ (w : World) (g : Nat) (l : List Pt) (i : Nat) (W : World) : Prop := Cs W g 3 #[.int .i64 (32 * l.length + tlS l i : Nat)] ∧ Ext w W
set_option maxRecDepth 100000 in
set_option maxHeartbeats 1000000 in
theorem size_any (v : Value) (l : List Pt) (w : World) (hv : Pts w v l) : Calls Try.prog 22 #[v] w fun e w' => e = .returned (.int .i64 (szN l : Nat)) ∧ Ext w w' := by
  have HV := Lib.hid hv
  obtain ⟨A, c, rfl, h1, h2⟩ := hv.len
  unfold maxLen at h2
  clear hv
  go_enter Try.func22, Try.ntmps22
  go_wp2_with fail
  refine (check_any _ l _ HV.out).mono ?_
  rintro e w1 ⟨rfl, he⟩
  have HE := Lib.hid he
  clear he
  by_cases h0 : errP l = 0
  · have hl := errP_len l h0
    have HZ := Lib.hid (show szN l = 32 * l.length + tlS l l.length by unfold szN; rw [if_pos h0])
    have HT := Lib.hid (fun W2 (h2 : SzJ w1 w1.heap.size l 0 W2) => show Calls Try.prog 57 #[.func (.func 65) #[] (#[.pointer (some ⟨w1.heap.size, 0, none⟩)]), .slice A l.length c] W2 fun e w' => e = .returned (.tuple #[]) ∧ SzJ w1 w1.heap.size l l.length w' from
      tails_any 65 #[.pointer (some ⟨w1.heap.size, 0, none⟩)] (.slice A l.length c) l (SzJ w1 w1.heap.size l) _ (enters_of Try.func65 (by kernel_rfl) rfl) h2
        w1 (HV.out.ext HE.out) (fun i W h => h.2) (fun i W W' h he => ⟨Cs.ext h.1 he, h.2.trans he⟩)
        (fun i W hi hn h => ⟨by rw [tlS_next l i hi]; unfold tlN; rw [hn]; exact h.1, h.2⟩)
        (fun i u W hi hy h _ hu => (size1_any i (32 * l.length + tlS l i) w1.heap.size u _ W (by have := tlS_le l h0 i (by omega); omega) (by have := mayB_data _ (errP_all l h0 i hi); omega) hu h.1).mono fun e W' ⟨e1, e2⟩ => ⟨e1, by
          have e3 : tlN (l.getD i (false, 0, [])) = 32 + flN (l.getD i (false, 0, [])).2.2.length := by unfold tlN; rw [hy]; rfl
          rw [tlS_next l i hi, e3, ← Nat.add_assoc (32 * l.length)]
          exact e2.1, h.2.grown e2.2 (Nat.le_refl _)⟩))
    have HS0 : Hid (SzJ w1 w1.heap.size l 0 (w1.alloc (.cells #[.int .i64 (32 * l.length : Nat)] 3))) := Lib.hid
      ⟨by simp only [tlS, List.take_zero, List.map_nil, List.sum_nil, Nat.add_zero]; exact Cs.new w1 _ _ _ rfl, (Ext.refl w1).alloc _⟩
    have hq : IntKind.i64.wrap (32 * (l.length : Int)) = ((32 * l.length : Nat) : Int) := by rw [IntWalk.i64_in _ (by omega)]; omega
    generalize errP l = er at *
    subst h0
    generalize h32 : 32 * l.length = sz at *
    go_wp2_with fail
    refine (HT.out _ HS0.out).mono ?_
    rintro e w2 ⟨rfl, hj⟩
    have HJ := Lib.hid hj
    have hc := Cs.cell hj.1 0 _ rfl
    clear hj
    go_wp2_with fail
    go_ret
    exact ⟨by rw [HZ.out]; rfl, HE.out.trans HJ.out.2⟩
  · have HZ := Lib.hid (show szN l = 0 by unfold szN; rw [if_neg h0])
    have hd : (errP l == 0) = false := by simpa using h0
    generalize errP l = er at *
    go_wp2_with fail
    go_ret
    exact ⟨by rw [HZ.out]; rfl, HE.out⟩
end Go.Proofs.Ytdlllihfibjabaa
namespace Go.Proofs.Ytdlllihfibjabaa
open Go.RowKit Go.Shelf

set_option maxRecDepth 100000 in
theorem zeroCells_u8 (n : Nat) : (Builtin.zeroCells (Value.int .u8 0).cells n).toList = (List.replicate n (0 : UInt8)).map bv := by
  have hc : (Value.int .u8 0).cells = #[Value.int .u8 0] := rfl
  rw [hc]
  apply List.ext_getElem
  · simp [Builtin.zeroCells]
  · intro i h1 h2
    simp [Builtin.zeroCells, bv, Nat.mod_one]

set_option maxRecDepth 100000 in
theorem run_append_zeros {P : Program} {w : World} (t tn ty : TypeId) (base : Nat) (e : TypeId) (k : IntKind) (kn : IntKind) (ht : P.underlying t = some (.slice e)) (htn : P.underlying tn = some (.int kn))
    (hinfo : (P.info? e).map (fun i => (i.zero, i.size, i.bytes)) = some (some (.int .u8 0), 1, 1)) (v : Value) (l : List UInt8) (hown : Own w base e v l) (n : Nat) (hlen : l.length + n ≤ 1099511627776) (hbase : base ≤ w.heap.size) (hne : v ≠ .slice none 0 0) :
    ∃ v' w', (Builtin.append_ #[t, tn] ty #[v, .int k (n : Int)]).run P w = .ok v' w' ∧ Own w' base e v' (l ++ List.replicate n 0) ∧ w.grownBy w' v.ownBlock ∧ v' ≠ .slice none 0 0 ∧ (v'.ownBlock = v.ownBlock ∨ v'.ownBlock = some w.heap.size) := by
  obtain ⟨i0, hi, hz0, hz1, hz2⟩ := info_parts hinfo
  have hlen2 : (l ++ List.replicate n (0 : UInt8)).length = l.length + n := by simp
  have hml : l.length + n ≤ maxLen := by simp only [maxLen]; omega
  rcases hown.2 with ⟨rfl, hn⟩ | ⟨g, cap, cur, rfl, hbg, hg, hnc, hcm, hcs, htake⟩
  · exact absurd rfl hne
  · have hw : IntKind.i64.wrap (n : Int) = n := by rw [IntKind.wrap_i64]; omega
    have hneg : ¬ ((n : Int) < 0) := by omega
    have h48i : ¬ (281474976710656 < (n : Int) * (i0.bytes : Int)) := by rw [hz2]; omega
    rw [Nat.mul_one] at hcs
    by_cases hroom : l.length + n ≤ cap
    · have hnews : (((List.replicate n (0 : UInt8)).map bv)).length = n := by simp
      have hst := run_storeCells_at P g l.length e ((List.replicate n (0 : UInt8)).map bv) 0 cur w hg (by rw [hnews]; omega) (bv_all _)
      rw [hnews] at hst
      simp only [Nat.add_zero] at hst
      have hr : (Builtin.append_ #[t, tn] ty #[.slice (some ⟨g, 0, none⟩) l.length cap, .int k (n : Int)]).run P w =
          .ok (.slice (some ⟨g, 0, none⟩) (l.length + n) cap) (w.setRow g (cur.toList.take l.length ++ (List.replicate n (0 : UInt8)).map bv ++ cur.toList.drop (l.length + n)).toArray) := by
        by_cases h0 : n = 0
        · subst h0
          have hw0 : IntKind.i64.wrap 0 = 0 := by rw [IntKind.wrap_i64]; omega
          have hrow : w.setRow g (cur.toList.take l.length ++ (List.replicate 0 (0 : UInt8)).map bv ++ cur.toList.drop (l.length + 0)).toArray = w := by
            simp only [List.replicate_zero, List.map_nil, List.append_nil, Nat.add_zero, List.take_append_drop, Array.toArray_toList]
            exact setRow_self w g cur e (0, 0) hg
          rw [hrow]
          simp [Builtin.append_, run_underlying ht, run_underlying htn, sizeOf, typeInfo, hi, hz1, hz2, asInt, asIntOf, hw0, hnc]
          rfl
        · have hzc := zeroCells_u8 n
          have h48n : ¬ (281474976710656 < (n : Int)) := by omega
          have hzc2 : (Builtin.zeroCells (Value.int .u8 0).cells n) = ((List.replicate n (0 : UInt8)).map bv).toArray := by rw [← hzc]
          simp [Builtin.append_, run_underlying ht, run_underlying htn, sizeOf, typeInfo, zeroValue, hi, hz0, hz1, hz2, asInt, asIntOf, hw, hneg, h0, hroom, Addr.add_lit]
          rw [hzc2]
          simp at hst ⊢
          rw [if_neg h48n, hst]
          rfl
      refine ⟨_, _, hr, ⟨by simp, .inr ⟨g, cap, _, by rw [hlen2], hbg, setRow_heap w g cur _ e _ hg, by rw [hlen2]; exact hroom, hcm, ?_, ?_⟩⟩, ⟨rfl, rfl, rfl, by simp, fun k _ hk => setRow_other w g k _ (fun e => hk (by simp [Value.ownBlock, e]))⟩, by simp, .inl rfl⟩
      · simp only [List.size_toArray, List.length_append, List.length_take, List.length_drop, Array.length_toList, hnews]
        omega
      · rw [Nat.mul_one, List.map_append, hlen2]
        rw [Nat.mul_one] at htake
        have e1 : (l.map bv ++ (List.replicate n (0 : UInt8)).map bv).length = l.length + n := by simp
        simp only [htake]
        rw [← e1]
        exact List.take_left
    · have holds : ∀ j u, (l.map bv)[j]? = some u → w.cell? ((⟨g, 0, none⟩ : Addr).add j) = some u := hown.cells (g := g) rfl
      have hold := run_firstCells_some (P := P) w.drew i0.size l.length ⟨g, 0, none⟩ l.length cap (l.map bv) (by rw [hz1]; simp) (fun j u h => holds j u h)
      have hr := Lib.run_append_grow_zeros w t tn ty e i0 (.int .u8 0) k kn ht htn hi hz0 (some ⟨g, 0, none⟩) l.length cap (l.map bv) hold n (by omega) (by omega) (by omega) (by omega) (by rw [hz2]; omega) (growslice_fits (by omega) (by rw [hz2]; omega))
      have hge := grownCap_ge w (l.length + n) cap e
      have hcm2 := grownCap_le_maxLen w (l.length + n) cap e hml
      refine ⟨_, _, hr, ⟨by simp, .inr ⟨w.heap.size, _, _, by rw [hlen2], hbase, heap_alloc_new w.drew _, by rw [hlen2]; exact hge, hcm2, ?_, ?_⟩⟩, ⟨rfl, rfl, rfl, by simp, fun j hj _ => heap_alloc_old w.drew _ hj⟩, by simp, .inr rfl⟩
      · have hzs : (Value.int .u8 0).cells.size = 1 := rfl
        simp only [Array.size_append, List.size_toArray, size_zeroCells, hzs, List.length_map]
        omega
      · simp only [Array.toList_append, zeroCells_u8, List.append_assoc]
        rw [← List.append_assoc, ← List.map_append, Nat.mul_one, ← List.length_map (f := bv)]
        exact List.take_left
end Go.Proofs.Ytdlllihfibjabaa
namespace Go.Proofs.Ytdlllihfibjabaa
open Go.RowKit Go.Shelf

set_option maxRecDepth 100000 in
theorem lay_mid (R : List UInt8) (q : Nat) (x : List UInt8) (h : q + x.length ≤ R.length) : lay R q x = R.take q ++ x ++ R.drop (q + x.length) := by
  have hl : (R.take q).length = q := by simp; omega
  apply ext_getD
  · rw [lay_length]
    simp
    omega
  · intro i hi
    rw [lay_length] at hi
    rw [lay_getD _ _ _ _ hi, getD_append_if, getD_append_if, getD_drop, List.length_append, hl]
    by_cases h1 : i < q
    · rw [if_neg (by omega), if_pos (by omega), if_pos h1, getD_take _ _ _ h1]
    · by_cases h2 : i < q + x.length
      · rw [if_pos (by omega), if_pos h2, if_neg h1]
      · rw [if_neg (by omega), if_neg h2]
        congr 1
        omega
set_option maxRecDepth 100000 in
theorem wpList_copy_at {P : Program} {w : World} {ops : Array Oper} {rest : List Oper} {o : Oper} {a : Act} {Q : Exit → Act → World → Prop} (hgd : o.guard = none) (d s : Operand) (dT sT : TypeId)
    (ho : o.op = .call { callee := .builtin .copy, args := #[d, s], argTypes := #[dT, sT] }) (e : TypeId) (hu : P.underlying dT = some (.slice e)) (hsz : (P.info? e).map (·.size) = some 1)
    (base gg n cap q m c2 : Nat) (R : List UInt8) (hd : a.eval d = .slice (some ⟨gg, q, none⟩) m c2) (hown : Own w base e (.slice (some ⟨gg, 0, none⟩) n cap) R) (sv : Value) (x : List UInt8) (hs : a.eval s = sv) (hx : Bs w sv x) (h0 : 0 < x.length) (hxm : x.length ≤ m) (hq : q + x.length ≤ R.length)
    (hK : ∀ w', Own w' base e (.slice (some ⟨gg, 0, none⟩) n cap) (lay R q x) → w.grownBy w' (some gg) → wpList P ops Q rest (a.put o.dst (goInt x.length)) w') :
    wpList P ops Q (o :: rest) a w := by
  obtain ⟨A, c, rfl, hh⟩ := id hx
  have hmn : Nat.min x.length m = x.length := Nat.min_eq_left hxm
  obtain ⟨ad, rfl, hc⟩ := hx.src x.length (Nat.le_refl _) (by omega)
  rw [List.take_length] at hc
  rcases hown.2 with ⟨h', _⟩ | ⟨g, cap', cur, h', hb, hg, hnc, hcm, hcs, htake⟩
  · cases h'
  · simp only [Value.slice.injEq, Option.some.injEq, Addr.mk.injEq, and_true] at h'
    obtain ⟨rfl, rfl, rfl⟩ := h'
    rw [Nat.mul_one] at hcs htake
    have hcur : cur.toList = R.map bv ++ cur.toList.drop R.length := by rw [← htake, List.take_append_drop]
    have hxb : (x.map bv).length = x.length := by simp
    refine wpList_copy_own hgd d s dT sT ho e hu hsz gg q m c2 ad x.length c hd hs cur e hg (x.map bv) (by rw [hmn, hxb]) hc (by rw [hxb]; omega) (bv_all _) ?_
    rw [hxb]
    refine hK _ ⟨by simp, .inr ⟨gg, cap, _, by rw [lay_length], hb, setRow_heap w gg cur _ e (0, 0) hg, by rw [lay_length]; exact hnc, hcm, ?_, ?_⟩⟩ ⟨rfl, rfl, rfl, by simp [World.setRow], fun k _ hk => setRow_other w gg k _ (fun e => hk (by simp [e]))⟩
    · simp only [List.size_toArray, List.length_append, List.length_take, List.length_drop, Array.length_toList, hxb]
      omega
    · have hA : (R.map bv).length = R.length := by simp
      have e1 : cur.toList.take q = (R.map bv).take q := by rw [hcur, List.take_append_of_le_length (by omega)]
      have e2 : cur.toList.drop (q + x.length) = (R.map bv).drop (q + x.length) ++ cur.toList.drop R.length := by
        conv => lhs; rw [hcur]
        rw [List.drop_append_of_le_length (by omega)]
      rw [Nat.mul_one, lay_length, lay_mid R q x hq]
      simp only [e1, e2]
      rw [← List.append_assoc, List.map_append, List.map_append, List.map_take, List.map_drop]
      have e3 : ((R.map bv).take q ++ x.map bv ++ (R.map bv).drop (q + x.length)).length = R.length := by
        simp
        omega
      rw [← List.append_assoc]
      generalize cur.toList.drop R.length = T at *
      rw [← e3]
      exact List.take_left
end Go.Proofs.Ytdlllihfibjabaa
