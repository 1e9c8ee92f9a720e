/- Package pack: form of the statements; booleans in memory. -/
import Derived.Test.YtdlllihfibjabaaPkv
namespace Go.Proofs.Ytdlllihfibjabaa
open Go.RowKit Go.Shelf

set_option maxRecDepth 100000 in
theorem blinfo3 : (Try.prog.info? 4).map (fun i => (i.zero, i.size, i.bytes)) = some (some (.bool false), 1, 1) := by kernel_rfl
/-- Booleans as cells. -/
def bo (b : Bool) : Value := .bool b
set_option maxRecDepth 100000 in
theorem bls_of_rs {w : World} {v : Value} {l : List Bool} (h : Rs w 1 v l.length (l.map bo)) : Bls w v l := by
  obtain ⟨_, A, c, e, h1, h2, h3⟩ := h
  refine ⟨A, c, e, h1, h2, fun hp => ?_⟩
  obtain ⟨b, o, ha, hc⟩ := h3 hp
  refine ⟨b, o, ha, fun i x hx => ⟨[.bool x], rfl, rfl, fun j u hu => ?_⟩⟩
  have hj : j = 0 := by
    have := (List.getElem?_eq_some_iff.1 hu).1
    simp at this
    exact this
  subst hj
  simp at hu
  subst hu
  have := hc i (bo x) (by rw [List.getElem?_map, hx]; rfl)
  simpa [bo] using this
set_option maxRecDepth 100000 in
theorem bo_one (l : List Bool) : ∀ u ∈ l.map bo, u.oneCell' = true := by
  intro u hu
  obtain ⟨n, _, rfl⟩ := List.mem_map.1 hu
  rfl
/-- A slice of booleans is answered. -/
def RetBl (w : World) (l : List Bool) (e : Ending) (w' : World) : Prop := ∃ v, e = .returned v ∧ Bls w' v l ∧ Ext w w'
set_option maxRecDepth 100000 in
set_option maxHeartbeats 1000000 in
theorem packForm_any (v : Value) (l : List Pt) (w : World) (hv : Pts w v l) (hl : l.length ≤ 1000000) : Calls Try.prog 29 #[v] w (RetBl w (l.map (·.1))) := by
  have HV := Lib.hid hv
  obtain ⟨A0, c0, rfl, k1, k2⟩ := hv.len
  unfold maxLen at k2
  clear hv
  go_enter Try.func29, Try.ntmps29
  go_wp2_with fail
  go_loopw [3, 8] (fun v u wr => ∃ k : Nat, k ≤ l.length ∧ u = .int .i64 k ∧ Hid (wr.ownsRow w.heap.size 4 1 v k ((l.take k).map (fun p => bo p.1)) ∧ Ext w wr)) (fun _ u _ => l.length - (intOf u).toNat)
  case atStart => exact ⟨0, by omega, rfl, Lib.hid ⟨World.ownsRow_nil _ _ _ _, Ext.refl _⟩⟩
  case round =>
    obtain ⟨k, hk, rfl, HJ⟩ := hrel
    by_cases hlt : k < l.length
    · have hd : decide (k < l.length) = true := decide_eq_true hlt
      obtain ⟨bb, oo, u, rfl, hrg, hbu, hpw⟩ := (HV.out.ext HJ.out.2).at k hlt
      have HT := Lib.hid (show (l.take (k + 1)).map (fun p => bo p.1) = (l.take k).map (fun p => bo p.1) ++ [bo (l.getD k (false, 0, [])).1] by rw [List.take_succ_eq_append_getElem hlt, List.map_append]; simp [List.getD, hlt])
      generalize l.getD k (false, 0, []) = p at *
      have HR := Lib.hid hrg
      have HU1 := Lib.hid (bs_one hbu)
      clear hrg hpw hbu
      obtain ⟨pc, hpc⟩ : ∃ pc, ptc p u = pc := ⟨_, rfl⟩
      have HP := Lib.hid hpc
      clear hpc
      go_wp2_with (first
        | ((with_reducible refine wpList_load_part ?_ (.tmp 10) ?_ bb (oo + k * 6) p u ?_ ?_ ?_); (exact rfl); (exact rfl); (exact rfl); (exact HR.out); rw [HP.out])
        | ((with_reducible refine wpList_store_part ?_ ?_ (.tmp 5) (.tmp 11) ?_ wr.heap.size pz p u ?_ ?_ ?_ ?_ ?_ ?_); (exact rfl); (exact rfl); (exact rfl); (exact HU1.out); (exact rfl); (rw [HP.out]; exact rfl); (exact Cs.new _ _ _ _ rfl); (exact rfl); intro w2 k2 g2; have hc0 := Pb.long k2; have HE2 := Lib.hid (((Ext.refl wr).alloc (.cells pz 48)).grown g2 (Nat.le_refl _)); have HO2 := Lib.hid (own_ext HJ.out.1 HE2.out); have HX2 := Lib.hid (HJ.out.2.trans HE2.out); clear k2 g2)
        | (at_builtin; go_loud ((refine wpList_append_row rfl (.tmp 12) (.tmp 15) 37 rfl w.heap.size 4 Try.underlying37 (.bool false) 1 1 blinfo3 rfl (by decide) u3 k _ rfl (own_ext HO2.out ((Ext.refl _).alloc _)) _ 1 [bo p.1] rfl (Rs.new _ _ _ _ _ rfl (by decide)) (bo_one [p.1]) (by omega) (by decide) ((HX2.out.alloc _).size) ?_); intro v3 w3 ho3 hg3 _; have HJ3 := Lib.hid (show w3.ownsRow w.heap.size 4 1 v3 (k + 1) ((l.take (k + 1)).map (fun p => bo p.1)) ∧ Ext w w3 from ⟨by rw [HT.out]; exact ho3, (HX2.out.alloc _).appendR (own_ext HO2.out ((Ext.refl _).alloc _)) hg3⟩); clear ho3 hg3)))
      exact ⟨⟨k + 1, by omega, by go_num, HJ3⟩, by simp [intOf]; omega⟩
    · obtain rfl : k = l.length := by omega
      go_wp2_with fail
      go_ret
      exact ⟨_, rfl, by
        have h := Rs.of_own HJ.out.1
        rw [List.take_length] at h
        refine bls_of_rs ?_
        rw [List.length_map, List.map_map]
        exact h, HJ.out.2⟩
end Go.Proofs.Ytdlllihfibjabaa
