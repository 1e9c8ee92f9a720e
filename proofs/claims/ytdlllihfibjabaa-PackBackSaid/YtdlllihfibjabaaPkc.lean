/- Package pack: append of bytes made of noughts. -/
import Derived.Test.YtdlllihfibjabaaPka
import Derived.Lib.AppendZerosOnto
import Derived.Lib.AppendZeros
namespace Go.Proofs.Ytdlllihfibjabaa
open Go.RowKit Go.Shelf

theorem zeroCells_u8 (n : Nat) : (Builtin.zeroCells (Value.int .u8 0).cells n).toList = (List.replicate n (0 : UInt8)).map bv := by
  have hc : (Value.int .u8 0).cells = #[Value.int .u8 0] := rfl
  rw [hc]
  apply List.ext_getElem
  · simp [Builtin.zeroCells]
  · intro i h1 h2
    simp [Builtin.zeroCells, bv, Nat.mod_one]

theorem run_append_zeros {P : Program} {w : World} (t tn ty : TypeId) (base : Nat) (e : TypeId) (k : IntKind) (kn : IntKind) (ht : P.underlying t = some (.slice e)) (htn : P.underlying tn = some (.int kn))
    (hinfo : (P.info? e).map (fun i => (i.zero, i.size, i.bytes)) = some (some (.int .u8 0), 1, 1)) (v : Value) (l : List UInt8) (hown : Own w base e v l) (n : Nat) (hlen : l.length + n ≤ 1099511627776) (hbase : base ≤ w.heap.size) (hne : v ≠ .slice none 0 0) :
    ∃ v' w', (Builtin.append_ #[t, tn] ty #[v, .int k (n : Int)]).run P w = .ok v' w' ∧ Own w' base e v' (l ++ List.replicate n 0) ∧ w.grownBy w' v.ownBlock ∧ v' ≠ .slice none 0 0 ∧ (v'.ownBlock = v.ownBlock ∨ v'.ownBlock = some w.heap.size) := by
  obtain ⟨i0, hi, hz0, hz1, hz2⟩ := info_parts hinfo
  have hlen2 : (l ++ List.replicate n (0 : UInt8)).length = l.length + n := by simp
  have hml : l.length + n ≤ maxLen := by simp only [maxLen]; omega
  rcases hown.2 with ⟨rfl, hn⟩ | ⟨g, cap, cur, rfl, hbg, hg, hnc, hcm, hcs, htake⟩
  · exact absurd rfl hne
  · have hw : IntKind.i64.wrap (n : Int) = n := by rw [IntKind.wrap_i64]; omega
    have hneg : ¬ ((n : Int) < 0) := by omega
    have h48i : ¬ (281474976710656 < (n : Int) * (i0.bytes : Int)) := by rw [hz2]; omega
    rw [Nat.mul_one] at hcs
    by_cases hroom : l.length + n ≤ cap
    · have hnews : (((List.replicate n (0 : UInt8)).map bv)).length = n := by simp
      have hst := run_storeCells_at P g l.length e ((List.replicate n (0 : UInt8)).map bv) 0 cur w hg (by rw [hnews]; omega) (bv_all _)
      rw [hnews] at hst
      simp only [Nat.add_zero] at hst
      have hr : (Builtin.append_ #[t, tn] ty #[.slice (some ⟨g, 0, none⟩) l.length cap, .int k (n : Int)]).run P w =
          .ok (.slice (some ⟨g, 0, none⟩) (l.length + n) cap) (w.setRow g (cur.toList.take l.length ++ (List.replicate n (0 : UInt8)).map bv ++ cur.toList.drop (l.length + n)).toArray) := by
        by_cases h0 : n = 0
        · subst h0
          have hw0 : IntKind.i64.wrap 0 = 0 := by rw [IntKind.wrap_i64]; omega
          have hrow : w.setRow g (cur.toList.take l.length ++ (List.replicate 0 (0 : UInt8)).map bv ++ cur.toList.drop (l.length + 0)).toArray = w := by
            simp only [List.replicate_zero, List.map_nil, List.append_nil, Nat.add_zero, List.take_append_drop, Array.toArray_toList]
            exact setRow_self w g cur e (0, 0) hg
          rw [hrow]
          simp [Builtin.append_, run_underlying ht, run_underlying htn, sizeOf, typeInfo, hi, hz1, hz2, asInt, asIntOf, hw0, hnc]
          rfl
        · have hzc := zeroCells_u8 n
          have h48n : ¬ (281474976710656 < (n : Int)) := by omega
          have hzc2 : (Builtin.zeroCells (Value.int .u8 0).cells n) = ((List.replicate n (0 : UInt8)).map bv).toArray := by rw [← hzc]
          simp [Builtin.append_, run_underlying ht, run_underlying htn, sizeOf, typeInfo, zeroValue, hi, hz0, hz1, hz2, asInt, asIntOf, hw, hneg, h0, hroom, Addr.add_lit]
          rw [hzc2]
          simp at hst ⊢
          rw [if_neg h48n, hst]
          rfl
      refine ⟨_, _, hr, ⟨by simp, .inr ⟨g, cap, _, by rw [hlen2], hbg, setRow_heap w g cur _ e _ hg, by rw [hlen2]; exact hroom, hcm, ?_, ?_⟩⟩, ⟨rfl, rfl, rfl, by simp, fun k _ hk => setRow_other w g k _ (fun e => hk (by simp [Value.ownBlock, e]))⟩, by simp, .inl rfl⟩
      · simp only [List.size_toArray, List.length_append, List.length_take, List.length_drop, Array.length_toList, hnews]
        omega
      · rw [Nat.mul_one, List.map_append, hlen2]
        rw [Nat.mul_one] at htake
        have e1 : (l.map bv ++ (List.replicate n (0 : UInt8)).map bv).length = l.length + n := by simp
        simp only [htake]
        rw [← e1]
        exact List.take_left
    · have holds : ∀ j u, (l.map bv)[j]? = some u → w.cell? ((⟨g, 0, none⟩ : Addr).add j) = some u := hown.cells (g := g) rfl
      have hold := run_firstCells_some (P := P) w.drew i0.size l.length ⟨g, 0, none⟩ l.length cap (l.map bv) (by rw [hz1]; simp) (fun j u h => holds j u h)
      have hr := Lib.run_append_grow_zeros w t tn ty e i0 (.int .u8 0) k kn ht htn hi hz0 (some ⟨g, 0, none⟩) l.length cap (l.map bv) hold n (by omega) (by omega) (by omega) (by omega) (by rw [hz2]; omega) (growslice_fits (by omega) (by rw [hz2]; omega))
      have hge := grownCap_ge w (l.length + n) cap e
      have hcm2 := grownCap_le_maxLen w (l.length + n) cap e hml
      refine ⟨_, _, hr, ⟨by simp, .inr ⟨w.heap.size, _, _, by rw [hlen2], hbase, heap_alloc_new w.drew _, by rw [hlen2]; exact hge, hcm2, ?_, ?_⟩⟩, ⟨rfl, rfl, rfl, by simp, fun j hj _ => heap_alloc_old w.drew _ hj⟩, by simp, .inr rfl⟩
      · have hzs : (Value.int .u8 0).cells.size = 1 := rfl
        simp only [Array.size_append, List.size_toArray, size_zeroCells, hzs, List.length_map]
        omega
      · simp only [Array.toList_append, zeroCells_u8, List.append_assoc]
        rw [← List.append_assoc, ← List.map_append, Nat.mul_one, ← List.length_map (f := bv)]
        exact List.take_left
end Go.Proofs.Ytdlllihfibjabaa
