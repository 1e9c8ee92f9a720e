/- Package pack: few and form of the statements. Package pack: form of the statements; booleans in memory. Package pack: wakes of the statements. -/
import Derived.Test.YtdlllihfibjabaaPks
import Derived.Test.YtdlllihfibjabaaPku
import Derived.Test.YtdlllihfibjabaaLbe
namespace Go.Proofs.Ytdlllihfibjabaa
open Go.RowKit Go.Shelf

/-- A part with as many bytes as may be, and one. -/
def cutP (p : Pt) : Pt := (p.1, p.2.1, p.2.2.take 201)
/-- As many parts as may be, and one. -/
def fewP (l : List Pt) : List Pt := (l.take 17).map cutP
set_option maxRecDepth 100000 in
theorem fewP_take (l : List Pt) (k : Nat) (hk : k < l.length) (h : k ≤ 16) : fewP (l.take (k + 1)) = fewP (l.take k) ++ [cutP (l.getD k (false, 0, []))] := by
  unfold fewP
  rw [List.take_take, List.take_take, Nat.min_eq_right (by omega), Nat.min_eq_right (by omega), List.take_succ_eq_append_getElem hk, List.map_append]
  simp [List.getD, hk]
set_option maxRecDepth 100000 in
theorem fewP_same (l : List Pt) (k : Nat) (h : 16 < k) : fewP (l.take (k + 1)) = fewP (l.take k) := by
  unfold fewP
  rw [List.take_take, List.take_take, Nat.min_eq_left (by omega), Nat.min_eq_left (by omega)]
set_option maxRecDepth 100000 in
theorem fewP_len (l : List Pt) : (fewP l).length ≤ 17 := by simp [fewP]; omega
/-- A row of parts of the call's own is answered. -/
def RetPs (w : World) (l : List Pt) (e : Ending) (w' : World) : Prop := ∃ v, e = .returned v ∧ Far w.heap.size No w' (fun W => Pts W v l) ∧ Ext w w'
/-- What lies there between the rounds of few. -/
def FewJ (w : World) (l : List Pt) (v : Value) (W : World) : Prop := RowO 48 6 PtR No w.heap.size W v l ∧ Ext w W
set_option maxRecDepth 100000 in
theorem FewJ.new {w : World} {l : List Pt} {v : Value} {W W' : World} {o : Obj} (h : FewJ w l v W) (hg : (W.alloc o).grownBy W' (some W.heap.size)) : FewJ w l v W' :=
  have he : Ext W W' := ((Ext.refl W).alloc o).grown hg (Nat.le_refl _)
  ⟨h.1.ext he, h.2.trans he⟩
set_option maxRecDepth 100000 in
theorem FewJ.ext {w : World} {l : List Pt} {v : Value} {W W' : World} (h : FewJ w l v W) (he : Ext W W') : FewJ w l v W' := ⟨h.1.ext he, h.2.trans he⟩
set_option maxRecDepth 100000 in
theorem FewJ.row {w : World} {l : List Pt} {v : Value} {W : World} (h : FewJ w l v W) : RowO 48 6 PtR No w.heap.size W v l := h.1
set_option maxRecDepth 100000 in
theorem FewJ.toExt {w : World} {l : List Pt} {v : Value} {W : World} (h : FewJ w l v W) : Ext w W := h.2
set_option maxRecDepth 100000 in
theorem Own.setOld {w : World} {m g i : Nat} {e : TypeId} {v u : Value} {d : List UInt8} (ho : Own w m e v d) (hg : g < m) : Own (w.setCell ⟨g, i, none⟩ u) m e v d :=
  World.ownsRow.kept ho (grown_set w g i u) (by
    cases hv : v.ownBlock with
    | none => exact .inl rfl
    | some k => exact .inr (fun e => by have := (ho.lt k hv).1; injection e with e; omega))
set_option maxRecDepth 100000 in
theorem FewJ.more {w : World} {l l' : List Pt} {v v' : Value} {W W' : World} (h : FewJ w l v W) (hr : RowO 48 6 PtR No w.heap.size W' v' l') (hg : W.grownBy W' v.ownBlock) : FewJ w l' v' W' :=
  ⟨hr, Below.grown h.2 hg h.2.size (fun j hj => (h.1.lt j hj).1)⟩
set_option maxRecDepth 100000 in
set_option maxHeartbeats 1000000 in
theorem packFew_any (v : Value) (l : List Pt) (w : World) (hv : Pts w v l) : Calls Try.prog 16 #[v] w (RetPs w (fewP l)) := by
  have HV := Lib.hid hv
  obtain ⟨A0, c0, rfl, k1, k2⟩ := hv.len
  unfold maxLen at k2
  clear hv
  go_enter Try.func16, Try.ntmps16
  go_wp2_with fail
  go_loopw [3, 8] (fun v u wr => ∃ k : Nat, k ≤ l.length ∧ u = .int .i64 k ∧ Hid (FewJ w (fewP (l.take k)) v wr)) (fun _ u _ => l.length - (intOf u).toNat)
  case atStart => exact ⟨0, by omega, rfl, Lib.hid ⟨by simpa [fewP] using RowO.nil _ _ _ _ _ _, Ext.refl _⟩⟩
  case round =>
    obtain ⟨k, hk, rfl, HJ⟩ := hrel
    by_cases hlt : k < l.length
    · have hd : decide (k < l.length) = true := decide_eq_true hlt
      have HT := Lib.hid (fewP_take l k hlt)
      have HS := Lib.hid (fewP_same l k)
      have HL := Lib.hid (fewP_len (l.take k))
      obtain ⟨bb, oo, u, rfl, hrg, hbu, hpw⟩ := (HV.out.ext HJ.out.2).at k hlt
      generalize l.getD k (false, 0, []) = p at *
      have HR := Lib.hid hrg
      have HBU := Lib.hid hbu
      have HPW := Lib.hid hpw
      have HU1 := Lib.hid (bs_one hbu)
      have HP1 := Lib.hid (ptc_one p u HU1.out)
      have HLO := Lib.hid (show w.heap.size ≤ wr.heap.size from HJ.out.2.size)
      obtain ⟨A1, c1, rfl, q1, q2, q3⟩ := hbu
      unfold maxLen at q2
      clear hrg hpw q3
      obtain ⟨pc, hpc⟩ : ∃ pc, ptc p (.slice A1 p.2.2.length c1) = pc := ⟨_, rfl⟩
      have HP := Lib.hid hpc
      clear hpc
      by_cases h16 : k ≤ 16
      · have hd6 : decide ((k : Int) ≤ 16) = true := decide_eq_true (by omega)
        have hd7 : decide (k ≤ 16) = true := decide_eq_true (by omega)
        have HT2 := Lib.hid (HT.out h16)
        obtain ⟨d, hdd⟩ : ∃ d, p.2.2.take 201 = d := ⟨_, rfl⟩
        have HD := Lib.hid hdd
        have HDL := Lib.hid (show d.length ≤ 201 by rw [← hdd]; simp; omega)
        have HCP := Lib.hid (show cutP p = (p.1, p.2.1, d) by rw [← hdd]; rfl)
        clear hdd
        clear HT HS
        go_wp2_with (first
          | ((with_reducible refine wpList_load_part ?_ (.tmp 11) ?_ bb (oo + k * 6) p (.slice A1 p.2.2.length c1) ?_ ?_ ?_); (exact rfl); (exact rfl); (exact rfl); (exact HR.out); rw [HP.out])
          | ((with_reducible refine wpList_store_part ?_ ?_ (.tmp 5) (.tmp 12) ?_ wr.heap.size pz p (.slice A1 p.2.2.length c1) ?_ ?_ ?_ ?_ ?_ ?_); (exact rfl); (exact rfl); (exact rfl); (exact HU1.out); (exact rfl); (rw [HP.out]; exact rfl); (exact Cs.new _ _ _ _ rfl); (exact rfl); intro w2 k2 g2; have K2 := Lib.hid k2; have HJ2 := Lib.hid (HJ.out.new g2); have hc5 := Pb.data k2; have hf5 := Cs.frozen k2 5; have HB2 := Lib.hid (HBU.out.ext (((Ext.refl wr).alloc _).grown g2 (Nat.le_refl _))); have HB3 := Lib.hid (show Bs w2 (.slice A1 (min (p.2.2.length : Int) 201).toNat c1) d from by rw [← HD.out]; exact HB2.out.takeMin 201 _ (by omega)); have HE2 := Lib.hid (((Ext.refl wr).alloc (.cells pz 48)).grown g2 (Nat.le_refl _)); clear k2 g2)
          | ((with_reducible refine wpList_load_part ?_ (.tmp 5) ?_ wr.heap.size 0 (p.1, p.2.1, d) (.slice A3 d.length c3) ?_ ?_ ?_); (exact rfl); (exact rfl); (exact rfl); (exact K4.out.range); have HP4 := Lib.hid (ptc_one (p.1, p.2.1, d) (.slice A3 d.length c3) rfl); have HS4 := Lib.hid (show (ptc (p.1, p.2.1, d) (.slice A3 d.length c3)).size = 6 from rfl); have HQ4 := Lib.hid (show ∃ x, ptc (p.1, p.2.1, d) (.slice A3 d.length c3) = x from ⟨_, rfl⟩); obtain ⟨p4, hp4⟩ := HQ4.out; rw [hp4] at HP4 HS4; rw [hp4]; have HE5 := Lib.hid hp4; clear hp4 HQ4)
          | ((with_reducible refine wpList_build_one ?_ (.tmp 25) 24 48 ?_ Try.underlying24 (.agg pz) 6 64 pinfo3 (by decide) (by decide) p4 HS4.out ?_ ?_); (exact rfl); (exact rfl); (exact rfl))
          | (at_builtin; go_loud (first
            | (refine wpList_append_bytes rfl (.const (.slice none 0 0)) (.tmp 21) _ rfl w2.heap.size 5 Try.underlying28 u8info (.slice none 0 0) [] rfl (World.ownsRow_nil _ _ _ _) _ d rfl HB3.out (by have := HDL.out; simp; omega) (Nat.le_refl _) ?_; intro v3 w3 ho3 hg3 _; rw [List.nil_append] at ho3; have HO3 := Lib.hid ho3; obtain ⟨A3, c3, rfl, r1, r2, r3⟩ := ho3.bs; have hE3 := ext_of_grown hg3; have hc53 := Ext.cell hE3 (Pb.data K2.out); have hf53 := Cs.frozen (Cs.ext K2.out hE3) 5; have HE3 := Lib.hid hE3; have HVB := Lib.hid (show ∀ g, u3.ownBlock = some g → g < w2.heap.size from fun g hg => Nat.lt_of_lt_of_le (HJ.out.1.lt g hg).2 HE2.out.size); have HLO2 := Lib.hid (Nat.le_trans HLO.out HE2.out.size); have HO4 := Lib.hid (HO3.out.setOld (i := 5) (u := .slice A3 d.length c3) (show wr.heap.size < w2.heap.size from Cs.lt K2.out)); have K4 : Hid (Pb (w3.setCell ⟨wr.heap.size, 5, none⟩ (.slice A3 d.length c3)) wr.heap.size (p.1, p.2.1, d) (.slice A3 d.length c3)) := Lib.hid (by simpa [Pb, ptc] using Cs.set (Cs.ext K2.out hE3) 5 (.slice A3 d.length c3)); have HE4 := Lib.hid ((HE2.out.trans hE3).grown (grown_set w3 wr.heap.size 5 (.slice A3 d.length c3)) (Nat.le_refl _)); clear ho3 hg3 hE3 hc5 hf5 r3 HJ2)
            | ((with_reducible refine wpList_append_one ?_ (.tmp 24) (.tmp 26) 24 ?_ w.heap.size 48 Try.underlying24 (.agg pz) 6 64 pinfo3 rfl (by decide) PtR No u3 (fewP (l.take k)) ?_ ((HJ.out.ext HE4.out).row.ext ((Ext.refl _).alloc (.cells p4 48))) (w3.setCell ⟨wr.heap.size, 5, none⟩ (.slice A3 d.length c3)).heap.size p4.toList (p.1, p.2.1, d) ?_ ?_ ?_ ?_ ?_ ?_ (by decide) ?_ ?_); (exact rfl); (exact rfl); (exact rfl); (exact rfl); (simpa using HS4.out); (simpa using heap_alloc_new (w3.setCell ⟨wr.heap.size, 5, none⟩ (.slice A3 d.length c3)) (.cells p4 48)); (intro x hx; exact Array.all_eq_true_iff_forall_mem.1 HP4.out x (by simpa using hx)); (rw [← HE5.out]; exact (part_far (p := (p.1, p.2.1, d)) HO4.out HLO2.out HPW.out HVB.out).ext ((Ext.refl _).alloc _)); (have := HL.out; omega); (exact ((HJ.out.ext HE4.out).toExt.alloc _).size); intro v9 w9 h9 g9' _; have HJ9 := Lib.hid (((HJ.out.ext HE4.out).ext ((Ext.refl _).alloc _)).more h9 g9'); clear h9 g9'))))
        exact ⟨⟨k + 1, by omega, by go_num, Lib.hid (by rw [HT2.out, HCP.out]; exact HJ9.out)⟩, by simp [intOf]; omega⟩
      · have hd6 : decide ((k : Int) ≤ 16) = false := decide_eq_false (by omega)
        have hd7 : decide (k ≤ 16) = false := decide_eq_false (by omega)
        have HT2 := Lib.hid (HS.out (by omega))
        clear HT HS
        go_wp2_with (first
          | ((with_reducible refine wpList_load_part ?_ (.tmp 11) ?_ bb (oo + k * 6) p (.slice A1 p.2.2.length c1) ?_ ?_ ?_); (exact rfl); (exact rfl); (exact rfl); (exact HR.out); rw [HP.out])
          | ((with_reducible refine wpList_store_part ?_ ?_ (.tmp 5) (.tmp 12) ?_ wr.heap.size pz p (.slice A1 p.2.2.length c1) ?_ ?_ ?_ ?_ ?_ ?_); (exact rfl); (exact rfl); (exact rfl); (exact HU1.out); (exact rfl); (rw [HP.out]; exact rfl); (exact Cs.new _ _ _ _ rfl); (exact rfl); intro w2 k2 g2; have HJ2 := Lib.hid (HJ.out.new g2); clear k2 g2))
        exact ⟨⟨k + 1, by omega, by go_num, Lib.hid (by rw [HT2.out]; exact HJ2.out)⟩, by simp [intOf]; omega⟩
    · obtain rfl : k = l.length := by omega
      go_wp2_with fail
      go_ret
      exact ⟨_, rfl, by have := HJ.out.1.farNo; rwa [List.take_length] at this, HJ.out.2⟩
end Go.Proofs.Ytdlllihfibjabaa
namespace Go.Proofs.Ytdlllihfibjabaa
open Go.RowKit Go.Shelf

set_option maxRecDepth 100000 in
theorem blinfo3 : (Try.prog.info? 4).map (fun i => (i.zero, i.size, i.bytes)) = some (some (.bool false), 1, 1) := by kernel_rfl
/-- Booleans as cells. -/
def bo (b : Bool) : Value := .bool b
set_option maxRecDepth 100000 in
theorem bls_of_rs {w : World} {v : Value} {l : List Bool} (h : Rs w 1 v l.length (l.map bo)) : Bls w v l := by
  obtain ⟨_, A, c, e, h1, h2, h3⟩ := h
  refine ⟨A, c, e, h1, h2, fun hp => ?_⟩
  obtain ⟨b, o, ha, hc⟩ := h3 hp
  refine ⟨b, o, ha, fun i x hx => ⟨[.bool x], rfl, rfl, fun j u hu => ?_⟩⟩
  have hj : j = 0 := by
    have := (List.getElem?_eq_some_iff.1 hu).1
    simp at this
    exact this
  subst hj
  simp at hu
  subst hu
  have := hc i (bo x) (by rw [List.getElem?_map, hx]; rfl)
  simpa [bo] using this
set_option maxRecDepth 100000 in
theorem bo_one (l : List Bool) : ∀ u ∈ l.map bo, u.oneCell' = true := by
  intro u hu
  obtain ⟨n, _, rfl⟩ := List.mem_map.1 hu
  rfl
/-- A slice of booleans is answered. -/
def RetBl (w : World) (l : List Bool) (e : Ending) (w' : World) : Prop := ∃ v, e = .returned v ∧ Bls w' v l ∧ Ext w w'
set_option maxRecDepth 100000 in
set_option maxHeartbeats 1000000 in
theorem packForm_any (v : Value) (l : List Pt) (w : World) (hv : Pts w v l) (hl : l.length ≤ 1000000) : Calls Try.prog 29 #[v] w (RetBl w (l.map (·.1))) := by
  have HV := Lib.hid hv
  obtain ⟨A0, c0, rfl, k1, k2⟩ := hv.len
  unfold maxLen at k2
  clear hv
  go_enter Try.func29, Try.ntmps29
  go_wp2_with fail
  go_loopw [3, 8] (fun v u wr => ∃ k : Nat, k ≤ l.length ∧ u = .int .i64 k ∧ Hid (wr.ownsRow w.heap.size 4 1 v k ((l.take k).map (fun p => bo p.1)) ∧ Ext w wr)) (fun _ u _ => l.length - (intOf u).toNat)
  case atStart => exact ⟨0, by omega, rfl, Lib.hid ⟨World.ownsRow_nil _ _ _ _, Ext.refl _⟩⟩
  case round =>
    obtain ⟨k, hk, rfl, HJ⟩ := hrel
    by_cases hlt : k < l.length
    · have hd : decide (k < l.length) = true := decide_eq_true hlt
      obtain ⟨bb, oo, u, rfl, hrg, hbu, hpw⟩ := (HV.out.ext HJ.out.2).at k hlt
      have HT := Lib.hid (show (l.take (k + 1)).map (fun p => bo p.1) = (l.take k).map (fun p => bo p.1) ++ [bo (l.getD k (false, 0, [])).1] by rw [List.take_succ_eq_append_getElem hlt, List.map_append]; simp [List.getD, hlt])
      generalize l.getD k (false, 0, []) = p at *
      have HR := Lib.hid hrg
      have HU1 := Lib.hid (bs_one hbu)
      clear hrg hpw hbu
      obtain ⟨pc, hpc⟩ : ∃ pc, ptc p u = pc := ⟨_, rfl⟩
      have HP := Lib.hid hpc
      clear hpc
      go_wp2_with (first
        | ((with_reducible refine wpList_load_part ?_ (.tmp 10) ?_ bb (oo + k * 6) p u ?_ ?_ ?_); (exact rfl); (exact rfl); (exact rfl); (exact HR.out); rw [HP.out])
        | ((with_reducible refine wpList_store_part ?_ ?_ (.tmp 5) (.tmp 11) ?_ wr.heap.size pz p u ?_ ?_ ?_ ?_ ?_ ?_); (exact rfl); (exact rfl); (exact rfl); (exact HU1.out); (exact rfl); (rw [HP.out]; exact rfl); (exact Cs.new _ _ _ _ rfl); (exact rfl); intro w2 k2 g2; have hc0 := Pb.long k2; have HE2 := Lib.hid (((Ext.refl wr).alloc (.cells pz 48)).grown g2 (Nat.le_refl _)); have HO2 := Lib.hid (own_ext HJ.out.1 HE2.out); have HX2 := Lib.hid (HJ.out.2.trans HE2.out); clear k2 g2)
        | (at_builtin; go_loud ((refine wpList_append_row rfl (.tmp 12) (.tmp 15) 37 rfl w.heap.size 4 Try.underlying37 (.bool false) 1 1 blinfo3 rfl (by decide) u3 k _ rfl (own_ext HO2.out ((Ext.refl _).alloc _)) _ 1 [bo p.1] rfl (Rs.new _ _ _ _ _ rfl (by decide)) (bo_one [p.1]) (by omega) (by decide) ((HX2.out.alloc _).size) ?_); intro v3 w3 ho3 hg3 _; have HJ3 := Lib.hid (show w3.ownsRow w.heap.size 4 1 v3 (k + 1) ((l.take (k + 1)).map (fun p => bo p.1)) ∧ Ext w w3 from ⟨by rw [HT.out]; exact ho3, (HX2.out.alloc _).appendR (own_ext HO2.out ((Ext.refl _).alloc _)) hg3⟩); clear ho3 hg3)))
      exact ⟨⟨k + 1, by omega, by go_num, HJ3⟩, by simp [intOf]; omega⟩
    · obtain rfl : k = l.length := by omega
      go_wp2_with fail
      go_ret
      exact ⟨_, rfl, by
        have h := Rs.of_own HJ.out.1
        rw [List.take_length] at h
        refine bls_of_rs ?_
        rw [List.length_map, List.map_map]
        exact h, HJ.out.2⟩
end Go.Proofs.Ytdlllihfibjabaa
namespace Go.Proofs.Ytdlllihfibjabaa
open Go.RowKit Go.Shelf

set_option maxRecDepth 100000 in
theorem ext_drewN {a w : World} (h : Ext a w) (n : Nat) : Ext a (w.drewN n) := ⟨h.os, h.tape, h.output, h.size, fun i hi => Below.block h i hi⟩
set_option maxRecDepth 100000 in
theorem bs_lit (w : World) (g : Nat) (t : TypeId) (l : List UInt8) (cs : Array Value) (n : Nat) (hg : w.heap[g]? = some (.cells cs t (0, 0))) (hcs : cs = (l.map bv).toArray) (hn : n = l.length) (hl : l.length ≤ maxLen) :
    Bs w (.slice (some ⟨g, 0, none⟩) n n) l := by
  subst hn
  subst hcs
  exact (Row.own (base := 0) (show Row w g t l from hg) (Nat.zero_le _) hl).bs
set_option maxRecDepth 100000 in
/-- A slice of one boolean that is written out. -/
theorem bls_lit (w : World) (g : Nat) (t : TypeId) (b : Bool) (hg : w.heap[g]? = some (.cells #[.bool b] t (0, 0))) : Bls w (.slice (some ⟨g, 0, none⟩) 1 1) [b] :=
  bls_of_rs (l := [b]) ⟨rfl, _, _, rfl, Nat.le_refl _, by simp [maxLen], fun _ => ⟨g, 0, rfl, fun i u hu => by
    rw [Nat.zero_add]
    exact Cs.cell (show Cs w g t #[.bool b] from hg) i u (by simpa [bo] using hu)⟩⟩
set_option maxRecDepth 100000 in
/-- A slice of one part. -/
theorem pts_lit (w : World) (g : Nat) (t : TypeId) (p : Pt) (u : Value) (hg : w.heap[g]? = some (.cells (ptc p u) t (0, 0))) (hp : p.2.1 < M256) (hb : Bs w u p.2.2) : Pts w (.slice (some ⟨g, 0, none⟩) 1 1) [p] :=
  ⟨_, _, rfl, Nat.le_refl _, by simp [maxLen], fun _ => ⟨g, 0, rfl, fun i z hz => by
    have hi : i = 0 := by
      have := (List.getElem?_eq_some_iff.1 hz).1
      simp at this
      exact this
    subst hi
    simp at hz
    subst hz
    exact ⟨(ptc p u).toList, rfl, ⟨hp, u, rfl, hb⟩, fun j v hv => by
      have := Cs.cell (show Cs w g t (ptc p u) from hg) j v (by rwa [Array.getElem?_toList] at hv)
      simpa using this⟩⟩⟩
def wk1 : Pt := (true, 0, [1, 2, 3])
set_option maxRecDepth 100000 in
theorem wk1_err : errP [wk1] = 0 := by decide
set_option maxRecDepth 100000 in
theorem wk1_lay : (layL [wk1]).length = 96 ∧ (layL [wk1]).getD 31 0 = 32 ∧ (layL [wk1]).getD 63 0 = 3 := by decide +kernel
set_option maxRecDepth 100000 in
theorem wk1_read : rdE (layL [wk1]) [true] = some [wk1] := rdE_of [wk1] wk1_err (by intro p hp; simp at hp; rw [hp]; decide)
set_option maxRecDepth 100000 in
theorem wk1_not : rdE (layL [wk1]) [false] = none := by decide +kernel
set_option maxRecDepth 100000 in
set_option maxHeartbeats 1000000 in
theorem packWakes_any (w : World) : Calls Try.prog 15 #[] w (RetT w) := by
  go_enter Try.func15, Try.ntmps15
  go_wp2_with fail
  refine (packBytes_any _ [1, 2, 3] _ (bs_lit _ _ _ [1, 2, 3] _ _ (heap_alloc_new _ _) rfl rfl (by simp [maxLen])) (by simp)).mono ?_
  rintro e w1 ⟨u, rfl, ho1, he1⟩
  have HE1 := Lib.hid (((Ext.refl w).alloc _).trans he1)
  have HB1 := Lib.hid ho1.bs
  have HU1 := Lib.hid (bs_one ho1.bs)
  have HP1 := Lib.hid (ptc_one wk1 u HU1.out)
  have HPS := Lib.hid (show (ptc wk1 u).size = 6 from rfl)
  clear ho1 he1
  obtain ⟨pc, hpc⟩ : ∃ pc, ptc wk1 u = pc := ⟨_, rfl⟩
  rw [show ptc (true, 0, [1, 2, 3]) u = pc from hpc]
  rw [hpc] at HP1 HPS
  have HP := Lib.hid hpc
  clear hpc
  go_wp2_with ((with_reducible refine wpList_build_one ?_ (.tmp 9) 24 48 ?_ Try.underlying24 (.agg pz) 6 64 pinfo3 (by decide) (by decide) pc HPS.out ?_ ?_); (exact rfl); (exact rfl); (exact rfl))
  refine (lay_any _ [wk1] _ (pts_lit _ _ 48 wk1 u (by rw [HP.out]; exact heap_alloc_new _ _) (by decide) (HB1.out.ext ((Ext.refl _).alloc _)))).mono ?_
  rintro e w2 ⟨v2, rfl, ho2, he2⟩
  rw [wk1_err]
  have HE2 := Lib.hid ((HE1.out.alloc _).trans he2)
  have HB2 := Lib.hid ho2.bs
  have HLN := Lib.hid wk1_lay.1
  have HRY := Lib.hid wk1_read
  have HRN := Lib.hid wk1_not
  have HG1 := Lib.hid wk1_lay.2.1
  have HG2 := Lib.hid wk1_lay.2.2
  generalize layL [wk1] = b at *
  clear ho2 he2 HE1 HB1 HU1 HP1 HPS HP
  go_wp2_with fail
  refine (packRead_any _ _ b [true] _ (HB2.out.ext ((Ext.refl _).alloc _)) (bls_lit _ _ 4 true (heap_alloc_new _ _)) (by rw [HLN.out]; omega)).mono ?_
  rintro e w3 ⟨v3, rfl, hf3, he3⟩
  rw [show rdErr b [true] = 0 by unfold rdErr; rw [HRY.out]; rfl]
  rw [show rdL b [true] = [wk1] by unfold rdL; rw [HRY.out]; rfl] at hf3
  have HX3 := Lib.hid (((Ext.refl w2).alloc _).trans he3)
  have HE3 := Lib.hid (HE2.out.trans HX3.out)
  have HB3 := Lib.hid (HB2.out.ext HX3.out)
  have HF3 := Lib.hid hf3.here
  clear hf3 he3 HX3 HE2 HB2
  go_wp2_with fail
  refine (packRead_any _ _ b [false] _ (HB3.out.ext ((Ext.refl _).alloc _)) (bls_lit _ _ 4 false (heap_alloc_new _ _)) (by rw [HLN.out]; omega)).mono ?_
  rintro e w4 ⟨v4, rfl, _, he4⟩
  rw [show rdErr b [false] = 141 by unfold rdErr; rw [HRN.out]; rfl]
  have HX4 := Lib.hid (((Ext.refl w3).alloc _).trans he4)
  have HE4 := Lib.hid (HE3.out.trans HX4.out)
  have HB4 := Lib.hid (HB3.out.ext HX4.out)
  have HF4 := Lib.hid (HF3.out.ext HX4.out)
  clear he4 HX4 HE3 HB3 HF3
  obtain ⟨A3, c3, rfl, q3, q4⟩ := HF4.out.len
  obtain ⟨bb, oo, u0, rfl, hrg, hbu, _⟩ := HF4.out.at 0 (by simp)
  obtain ⟨A5, c5, rfl, _, _, q8⟩ := hbu
  clear q8
  have hdl : w4.cell? ⟨bb, oo + 5, none⟩ = some (.slice A5 3 c5) := by simpa [wk1] using rng5 hrg
  clear hrg
  obtain ⟨A4, c4, rfl, q5, q6, q7⟩ := HB4.out
  obtain ⟨b4, o4, rfl, hcl⟩ := q7 (by rw [HLN.out]; decide)
  have hc31 := hcl 31 (by rw [HLN.out]; decide)
  have hc63 := hcl 63 (by rw [HLN.out]; decide)
  rw [HG1.out] at hc31
  rw [HG2.out] at hc63
  clear hcl q7
  rw [HLN.out] at *
  unfold bv at hc31 hc63
  go_wp2_with fail
  go_ret
  exact ⟨rfl, HE4.out⟩
end Go.Proofs.Ytdlllihfibjabaa
