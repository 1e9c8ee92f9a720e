/- JournalBack: taken back to a mark it is as it was, kept it is as it is, whatever was done behind it. -/
import Derived.Test.YtnjpdchmdimaaaaGreatQJoc
import Derived.Test.YtnjpdchmdimaaaaGreatQJog
import Derived.Test.YtnjpdchmdimaaaaGreatQJod
namespace Go.Proofs.YtnjpdchmdimaaaaGreat
open Go.ChangeShapes Go.WideShapes Go.ChangeAt Go.RowKit Go.Shelf

theorem JcB.rg {W : World} {g : Nat} {a b c d e f m : Value} {j : Jn} (h : JcB W g a b c d e f m j) : W.rangeAt g 0 [a, b, c, d, e, f, m] := Cs.rg h.1
end Go.Proofs.YtnjpdchmdimaaaaGreat
namespace Go.Proofs.YtnjpdchmdimaaaaGreat
open Go.ChangeShapes Go.WideShapes Go.ChangeAt Go.RowKit Go.Shelf

theorem cutA_cutA (a : Ac) : cutA (cutA a) = cutA a := by
 unfold cutA
 simp only [List.take_take, Nat.min_self]
theorem map_cut2 {α : Type} {f : α → α} (hf : ∀ x, f (f x) = f x) (l : List α) (k : Nat) : (((l.take k).map f).take k).map f = (l.take k).map f := by
 rw [← List.map_take, List.take_take, Nat.min_self, List.map_map]
 exact List.map_congr_left fun x _ => hf x
theorem cutO_cutO (o : Wo) : cutO (cutO o) = cutO o := by
 unfold cutO
 simp only [map_cut2 cutA_cutA, List.take_take, Nat.min_self]
theorem cutP_cutP (p : Po) : cutP (cutP p) = cutP p := by
 unfold cutP cutX
 simp only [cutO_cutO, List.take_take, Nat.min_self]
theorem cutJ_cutJ (j : Jn) : cutJ (cutJ j) = cutJ j := by
 unfold cutJ
 simp only [map_cut2 cutP_cutP, cutP_cutP]
theorem cutJ_len (j : Jn) : (cutJ j).m.length ≤ 18 := by
 unfold cutJ
 simp only [List.length_map, List.length_take]
 omega
theorem abv_le {s : Sp} {m : Int} (h : abvB s m = true) (hk : kdS s = 1 ∨ kdS s = 2) : m ≤ s.n := by
 unfold abvB at h
 rw [if_pos hk] at h
 exact of_decide_eq_true h
theorem gnS_abv {m0 : List Po} {k : Jn} {s : Sp} (h : Abv m0 k) : Abv m0 (gnS (m0.length : Int) k s) := by
 unfold gnS
 split
 ·rename_i hab
  split
  ·rename_i he
   unfold doJ at he ⊢
   split at he
   ·rename_i hk
    rw [if_pos hk]
    unfold markJ at he ⊢
    split at he
    ·rename_i h0
     rw [if_pos h0]
     exact h.mark h0
    ·rename_i h0
     exact absurd he h0
   ·rename_i hk
    rw [if_neg hk]
    split at he
    ·rename_i hk
     rw [if_pos hk]
     exact h.back (abv_le hab (.inl hk)) he
    ·rename_i hk
     rw [if_neg hk]
     split at he
     ·rename_i hk
      rw [if_pos hk]
      exact h.keep (abv_le hab (.inr hk)) he
     ·rename_i hk
      rw [if_neg hk]
      split at he
      ·rename_i hk
       rw [if_pos hk]
       exact h.lay he
      ·rename_i hk
       rw [if_neg hk]
       exact h.tch he
  ·exact h
 ·exact h
theorem gon_abv {m0 : List Po} : ∀ (l : List Sp) {k : Jn}, Abv m0 k → Abv m0 (l.foldl (gnS (m0.length : Int)) k)
 | [], _, h => h
 | s :: l, _, h => gon_abv l (gnS_abv (s := s) h)
theorem gone_done {j : Jn} (l : List Sp) (h : (mkR j).2 = 0) : ∃ k, gonJ ((j.m.length + 1 : Nat) : Int) ⟨j.p, j.m ++ [j.p]⟩ l = k ∧ rightJn k = true ∧ backJ k (j.m.length : Nat) = (j, 0) ∧ keepJ k (j.m.length : Nat) = (⟨k.p, j.m⟩, 0) ∧ rightJn ⟨k.p, j.m⟩ = true := by
 obtain ⟨hr, hl, _⟩ := mkR_zero h
 have h0 : Abv (j.m ++ [j.p]) ⟨j.p, j.m ++ [j.p]⟩ := ⟨right_mark hr hl, List.take_length, Nat.le_refl _⟩
 have h1 := gon_abv (l.take 20) h0
 rw [List.length_append, List.length_singleton] at h1
 refine ⟨_, rfl, h1.1, (back_done h1).1, (back_done h1).2, ?_⟩
 obtain ⟨g1, g2, g3⟩ := rightJn_to hr
 exact rightJn_of g1 (rightJn_to h1.1).2.1 g3
theorem mark_err {j : Jn} (h : (mkR j).2 ≠ 0) : (mkR j).2 = 6 ∨ chkJn j = (mkR j).2 := by
 obtain ⟨_, h2⟩ := jchg_err (show (jchg j (mkE j) ⟨j.p, j.m ++ [j.p]⟩).2 ≠ 0 from h)
 rcases h2 with h2 | ⟨_, h2⟩
 ·exact .inr h2.symm
 ·refine .inl ?_
  have h3 : (mkR j).2 = mkE j := h2
  rw [h3] at h ⊢
  unfold mkE at h ⊢
  split
  ·rfl
  ·rename_i h4
   rw [if_neg h4] at h
   exact absurd rfl h
set_option maxRecDepth 100000 in
theorem built_jpm (a b c d e f : Value) (A : Option Addr) (n k : Nat) : Tryz.prog.built 40 [(0, .agg #[a, b, c, d, e, f]), (1, .slice A n k)] = some #[a, b, c, d, e, f, .slice A n k] := by kernel_rfl
set_option maxRecDepth 100000 in
theorem wpList_build_jpm {ops : Array Oper} {rest : List Oper} {o : Oper} {a0 : Act} {w : World} {Q : Exit → Act → World → Prop} (hg : o.guard = none) (x y : Operand) (ho : o.op = .build 40 #[(0, x), (1, y)]) (a b c d e f : Value) (A : Option Addr) (n k : Nat) (hx : a0.eval x = .agg #[a, b, c, d, e, f]) (hy : a0.eval y = .slice A n k)
  (h : wpList Tryz.prog ops Q rest (a0.put o.dst (.agg #[a, b, c, d, e, f, .slice A n k])) w) : wpList Tryz.prog ops Q (o :: rest) a0 w := by
 refine wpList_build hg 40 #[(0, x), (1, y)] ho ?_ ?_
 ·simp only [List.map_toArray, List.map_cons, List.map_nil, hx, hy, built_jpm]; rfl
 ·simp only [List.map_toArray, List.map_cons, List.map_nil, hx, hy, built_jpm, Option.getD_some]; exact h
theorem SpR.ext {W W' : World} {cs : List Value} {s : Sp} (h : SpR W cs s) (he : Ext W W') : SpR W' cs s := by
 obtain ⟨h1, h2, u, v, z, a, q, r, e, h3, h4⟩ := h
 exact ⟨h1, h2, u, v, z, a, q, r, e, h3.ext he, h4.ext he⟩
theorem Sps.ext {W W' : World} {v : Value} {l : List Sp} (h : Sps W v l) (he : Ext W W') : Sps W' v l := Sl.mono h (fun _ _ hc => he.cell hc) fun _ _ h => h.ext he
theorem JcB.one {W : World} {g : Nat} {a b c d e f m : Value} {j : Jn} (h : JcB W g a b c d e f m j) : (#[a, b, c, d, e, f, m] : Array Value).all (·.oneCell') = true := by
 obtain ⟨_, h1, h2, h3⟩ := h
 obtain ⟨y1, y2, y3⟩ := axr_one h2
 simp [acs_one h1.1, hds_one h1.2.1, nns_one h1.2.2, y1, y2, y3, pos_one h3]
theorem JcB.rgP {W : World} {g : Nat} {a b c d e f m : Value} {j : Jn} (h : JcB W g a b c d e f m j) : W.rangeAt g 0 [a, b, c, d, e, f] := rg_part (cs := [a, b, c, d, e, f, m]) (ds := [a, b, c, d, e, f]) 0 (Cs.rg h.1) (fun j y hy => by rcases j with _ | _ | _ | _ | _ | _ | j; all_goals first | exact hy | (simp at hy))
set_option maxRecDepth 100000 in
set_option maxHeartbeats 8000000 in
theorem journalBack_any (xu xv xz xa xs xq xm sl : Value) (j : Jn) (l : List Sp) (w : World) (hx : WoR w xu xv xz j.p.w ∧ AxR w xa xs xq j.p.x ∧ Pos w xm j.m) (hl : Sps w sl l) :
  Calls Tryz.prog 5 #[.agg #[xu, xv, xz, xa, xs, xq, xm], sl] w (RetT w) := by
 have HX := Lib.hid hx
 have HL := Lib.hid hl
 have ho1 : (#[xu, xv, xz, xa, xs, xq, xm] : Array Value).all (·.oneCell') = true := by
  obtain ⟨y1, y2, y3⟩ := axr_one hx.2.1
  simp [acs_one hx.1.1, hds_one hx.1.2.1, nns_one hx.1.2.2, y1, y2, y3, pos_one hx.2.2]
 obtain ⟨w0, hw0⟩ : ∃ w0, w.alloc (.cells #[xu, xv, xz, xa, xs, xq, xm] 40) = w0 := ⟨_, rfl⟩
 have KC : Hid (Cs w0 w.heap.size 40 #[xu, xv, xz, xa, xs, xq, xm]) := Lib.hid (by rw [← hw0]; exact Cs.new _ _ _ _ rfl)
 have HE0 : Hid (Ext w w0) := Lib.hid (by rw [← hw0]; exact (Ext.refl w).alloc _)
 have HW0 := Lib.hid hw0
 clear hx hl hw0
 go_enter Tryz.func5, Tryz.ntmps5
 go_wp2_with fail
 rw [HW0.out]
 clear HW0 ho1
 refine (wakesJ_any _).mono ?_
 rintro e w1 ⟨rfl, he⟩
 have KC := Lib.hid (Cs.ext KC.out he)
 have HE1 := Lib.hid (HE0.out.trans he)
 have R0 : Hid (w1.rangeAt w.heap.size 0 [xu, xv, xz, xa, xs, xq, xm]) := Lib.hid (Cs.rg KC.out)
 clear he
 go_wp2_with ((with_reducible refine wpList_loadJn ?_ (.tmp 2) ?_ w.heap.size 0 xu xv xz xa xs xq xm ?_ ?_ ?_); (exact rfl); (exact rfl); (exact rfl); (exact R0.out))
 refine (few_any _ _ _ _ _ _ _ j _ ⟨HX.out.1.ext HE1.out, HX.out.2.1.ext HE1.out, HX.out.2.2.ext HE1.out⟩).mono ?_
 rintro e w2 ⟨v2, rfl, hr, he⟩
 obtain ⟨ja, jb, jc, jd, je, jf, jm, rfl, hr⟩ := retJn_shp hr
 have HLJ := Lib.hid (cutJ_len j)
 have HCC := Lib.hid (cutJ_cutJ j)
 have HSZ := Lib.hid (cutJ_sz j)
 generalize cutJ j = J at *
 obtain ⟨AJ, nJ, rfl, _, _⟩ := hr.parts.2.2.len
 have HR2 := Lib.hid hr
 have KC2 := Lib.hid (Cs.ext KC.out he)
 have HE2 := Lib.hid (HE1.out.trans he)
 have HG2 := Lib.hid KC.out.lt
 clear hr he R0
 go_wp2_with (first
  | ((with_reducible refine wpList_storeJn ?_ ?_ (.tmp 2) (.tmp 18) ?_ w.heap.size xu xv xz xa xs xq xm ja jb jc jd je jf (.slice AJ J.m.length nJ) ?_ ?_ HR2.out.one KC2.out ?_); (exact rfl); (exact rfl); (exact rfl); (exact rfl); (exact rfl); intro w3 k3 g3; have HEW := Lib.hid (HE2.out.grown g3 (Nat.le_refl _)); have KJ : Hid (JcB w3 w.heap.size ja jb jc jd je jf (.slice AJ J.m.length nJ) J) := Lib.hid ⟨k3, (HR2.out.old g3 HG2.out).parts.1, (HR2.out.old g3 HG2.out).parts.2.1, (HR2.out.old g3 HG2.out).parts.2.2⟩; clear k3 g3)
  | ((with_reducible refine wpList_loadJn ?_ (.tmp 2) ?_ w.heap.size 0 ja jb jc jd je jf (.slice AJ J.m.length nJ) ?_ ?_ ?_); (exact rfl); (exact rfl); (exact rfl); (exact KJ.out.rg)))
 refine (few_any _ _ _ _ _ _ _ J _ KJ.out.2).mono ?_
 rintro e w10 ⟨v10, rfl, hr, he⟩
 rw [HCC.out] at hr
 obtain ⟨a10, b10, c10, d10, x10, y10, m10, rfl, hr⟩ := retJn_shp hr
 obtain ⟨A10, n10, rfl, _, _⟩ := hr.parts.2.2.len
 have R10 := Lib.hid hr
 have E10 := Lib.hid he
 have KJ := Lib.hid (KJ.out.ext E10.out); have HEW := Lib.hid (HEW.out.trans E10.out)
 clear hr he
 go_wp2_with (first
  | ((with_reducible refine wpList_storeJn ?_ ?_ (.tmp 5) (.tmp 20) ?_ w10.heap.size (.slice none 0 0) (.slice none 0 0) (.slice none 0 0) (.slice none 0 0) (.slice none 0 0) (.slice none 0 0) (.slice none 0 0) a10 b10 c10 d10 x10 y10 (.slice A10 J.m.length n10) ?_ ?_ R10.out.one ?_ ?_); (exact rfl); (exact rfl); (exact rfl); (exact rfl); (exact rfl); (exact (Cs.new _ _ _ _ rfl)); intro u10 k10 g10; have EU10 := Lib.hid (((Ext.refl w10).alloc (.cells #[.slice none 0 0, .slice none 0 0, .slice none 0 0, .slice none 0 0, .slice none 0 0, .slice none 0 0, .slice none 0 0] 40)).grown g10 (Nat.le_refl _)); have KJ := Lib.hid (KJ.out.ext EU10.out); have HEW := Lib.hid (HEW.out.trans EU10.out); have KW : Hid (JcB u10 w10.heap.size a10 b10 c10 d10 x10 y10 (.slice A10 J.m.length n10) J) := Lib.hid ⟨k10, (R10.out.ext EU10.out).parts.1, (R10.out.ext EU10.out).parts.2.1, (R10.out.ext EU10.out).parts.2.2⟩; clear k10 g10)
  | ((with_reducible refine wpList_loadJn ?_ (.tmp 2) ?_ w.heap.size 0 ja jb jc jd je jf (.slice AJ J.m.length nJ) ?_ ?_ ?_); (exact rfl); (exact rfl); (exact rfl); (exact KJ.out.rg)))
 by_cases h0 : (mkR J).2 = 0
 ·obtain ⟨hm1, hm2, hm3⟩ := mkR_zero h0
  have HMK := Lib.hid (show markJ J = (⟨J.p, J.m ++ [J.p]⟩, (J.m.length : Int), 0) from by unfold markJ; rw [hm3]; rfl)
  have HGN := Lib.hid (gone_done l h0)
  have HRJ := Lib.hid hm1
  clear h0 hm1 hm2 hm3
  obtain ⟨M, hM⟩ : ∃ M : Jn, (⟨J.p, J.m ++ [J.p]⟩ : Jn) = M := ⟨_, rfl⟩
  have HSM : Hid (SzJ M) := Lib.hid (by rw [← hM]; exact ⟨HSZ.out.1, fun q hq => by rcases List.mem_append.1 hq with hq | hq; exact HSZ.out.2 q hq; rw [List.mem_singleton.1 hq]; exact HSZ.out.1⟩)
  rw [hM] at HMK HGN
  clear hM
  refine (markJ_any _ _ _ _ _ _ AJ nJ J _ KJ.out.2 HSZ.out).mono ?_
  rintro e w12 ⟨v12, rfl, hr, he⟩
  rw [HMK.out] at hr ⊢
  obtain ⟨a12, b12, c12, d12, x12, y12, m12, rfl, hr⟩ := retJn_shp hr
  obtain ⟨A12, n12, rfl, _, _⟩ := hr.parts.2.2.len
  have R12 := Lib.hid hr
  have E12 := Lib.hid he
  have KJ := Lib.hid (KJ.out.ext E12.out); have KW := Lib.hid (KW.out.ext E12.out); have HEW := Lib.hid (HEW.out.trans E12.out)
  clear hr he
  have hl18 := HLJ.out
  go_wp2_with (first
   | ((with_reducible refine wpList_storeJn ?_ ?_ (.tmp 6) (.tmp 24) ?_ w12.heap.size (.slice none 0 0) (.slice none 0 0) (.slice none 0 0) (.slice none 0 0) (.slice none 0 0) (.slice none 0 0) (.slice none 0 0) a12 b12 c12 d12 x12 y12 (.slice A12 M.m.length n12) ?_ ?_ R12.out.one ?_ ?_); (exact rfl); (exact rfl); (exact rfl); (exact rfl); (exact rfl); (exact (Cs.new _ _ _ _ rfl)); intro u12 k12 g12; have EU12 := Lib.hid (((Ext.refl w12).alloc (.cells #[.slice none 0 0, .slice none 0 0, .slice none 0 0, .slice none 0 0, .slice none 0 0, .slice none 0 0, .slice none 0 0] 40)).grown g12 (Nat.le_refl _)); have KJ := Lib.hid (KJ.out.ext EU12.out); have KW := Lib.hid (KW.out.ext EU12.out); have HEW := Lib.hid (HEW.out.trans EU12.out); have KM : Hid (JcB u12 w12.heap.size a12 b12 c12 d12 x12 y12 (.slice A12 M.m.length n12) M) := Lib.hid ⟨k12, (R12.out.ext EU12.out).parts.1, (R12.out.ext EU12.out).parts.2.1, (R12.out.ext EU12.out).parts.2.2⟩; clear k12 g12)
   | ((with_reducible refine wpList_loadJn ?_ (.tmp 6) ?_ w12.heap.size 0 a12 b12 c12 d12 x12 y12 (.slice A12 M.m.length n12) ?_ ?_ ?_); (exact rfl); (exact rfl); (exact rfl); (exact KM.out.rg)))
  obtain ⟨K, hK, k1, k2, k3, k4⟩ := HGN.out
  have HKB := Lib.hid k2
  have HKK := Lib.hid k3
  have HKR := Lib.hid k1
  have HKP := Lib.hid k4
  have HSK := Lib.hid (show SzJ K from by rw [← hK]; exact gon_sz _ HSM.out)
  have HKQ := Lib.hid hK
  clear hK k1 k2 k3 k4 hl18
  refine (gone_any _ _ _ _ _ _ _ sl M l ((J.m.length + 1 : Nat) : Int) _ KM.out.2 HSM.out (HL.out.ext HEW.out)).mono ?_
  rintro e w30 ⟨ka, kb, kc, kd, ke, kf, km, rfl, hr, he⟩
  rw [HKQ.out] at hr
  obtain ⟨AK, nK, rfl, _, _⟩ := hr.2.2.len
  have HR30 := Lib.hid hr
  have E30 := Lib.hid he
  have KJ := Lib.hid (KJ.out.ext E30.out); have KW := Lib.hid (KW.out.ext E30.out); have KM := Lib.hid (KM.out.ext E30.out); have HEW := Lib.hid (HEW.out.trans E30.out)
  clear hr he
  have HO30 := Lib.hid (show (#[ka, kb, kc, kd, ke, kf, .slice AK K.m.length nK] : Array Value).all (·.oneCell') = true by obtain ⟨h1, h2, h3⟩ := HR30.out; obtain ⟨y1, y2, y3⟩ := axr_one h2; have y4 := pos_one h3; simp [acs_one h1.1, hds_one h1.2.1, nns_one h1.2.2, y1, y2, y3]; exact y4)
  go_wp2_with (first
   | ((with_reducible refine wpList_storeJn ?_ ?_ (.tmp 9) (.tmp 51) ?_ w30.heap.size (.slice none 0 0) (.slice none 0 0) (.slice none 0 0) (.slice none 0 0) (.slice none 0 0) (.slice none 0 0) (.slice none 0 0) ka kb kc kd ke kf (.slice AK K.m.length nK) ?_ ?_ HO30.out ?_ ?_); (exact rfl); (exact rfl); (exact rfl); (exact rfl); (exact rfl); (exact (Cs.new _ _ _ _ rfl)); intro u30 k30 g30; have EU30 := Lib.hid (((Ext.refl w30).alloc (.cells #[.slice none 0 0, .slice none 0 0, .slice none 0 0, .slice none 0 0, .slice none 0 0, .slice none 0 0, .slice none 0 0] 40)).grown g30 (Nat.le_refl _)); have KJ := Lib.hid (KJ.out.ext EU30.out); have KW := Lib.hid (KW.out.ext EU30.out); have KM := Lib.hid (KM.out.ext EU30.out); have HEW := Lib.hid (HEW.out.trans EU30.out); have KK : Hid (JcB u30 w30.heap.size ka kb kc kd ke kf (.slice AK K.m.length nK) K) := Lib.hid ⟨k30, HR30.out.1.ext EU30.out, HR30.out.2.1.ext EU30.out, HR30.out.2.2.ext EU30.out⟩; clear k30 g30)
   | ((with_reducible refine wpList_loadJn ?_ (.tmp 9) ?_ w30.heap.size 0 ka kb kc kd ke kf (.slice AK K.m.length nK) ?_ ?_ ?_); (exact rfl); (exact rfl); (exact rfl); (exact KK.out.rg)))
  refine (backJ_any _ _ _ _ _ _ AK nK K (J.m.length : Nat) _ KK.out.2 HSK.out).mono ?_
  rintro e w13 ⟨v13, rfl, hr, he⟩
  rw [HKB.out] at hr ⊢
  obtain ⟨a13, b13, c13, d13, x13, y13, m13, rfl, hr⟩ := retJn_shp hr
  obtain ⟨A13, n13, rfl, _, _⟩ := hr.parts.2.2.len
  have R13 := Lib.hid hr
  have E13 := Lib.hid he
  have KJ := Lib.hid (KJ.out.ext E13.out); have KW := Lib.hid (KW.out.ext E13.out); have KM := Lib.hid (KM.out.ext E13.out); have KK := Lib.hid (KK.out.ext E13.out); have HEW := Lib.hid (HEW.out.trans E13.out)
  clear hr he
  go_wp2_with (first
   | ((with_reducible refine wpList_storeJn ?_ ?_ (.tmp 10) (.tmp 56) ?_ w13.heap.size (.slice none 0 0) (.slice none 0 0) (.slice none 0 0) (.slice none 0 0) (.slice none 0 0) (.slice none 0 0) (.slice none 0 0) a13 b13 c13 d13 x13 y13 (.slice A13 J.m.length n13) ?_ ?_ R13.out.one ?_ ?_); (exact rfl); (exact rfl); (exact rfl); (exact rfl); (exact rfl); (exact (Cs.new _ _ _ _ rfl)); intro u13 k13 g13; have EU13 := Lib.hid (((Ext.refl w13).alloc (.cells #[.slice none 0 0, .slice none 0 0, .slice none 0 0, .slice none 0 0, .slice none 0 0, .slice none 0 0, .slice none 0 0] 40)).grown g13 (Nat.le_refl _)); have KJ := Lib.hid (KJ.out.ext EU13.out); have KW := Lib.hid (KW.out.ext EU13.out); have KM := Lib.hid (KM.out.ext EU13.out); have KK := Lib.hid (KK.out.ext EU13.out); have HEW := Lib.hid (HEW.out.trans EU13.out); have KB : Hid (JcB u13 w13.heap.size a13 b13 c13 d13 x13 y13 (.slice A13 J.m.length n13) J) := Lib.hid ⟨k13, (R13.out.ext EU13.out).parts.1, (R13.out.ext EU13.out).parts.2.1, (R13.out.ext EU13.out).parts.2.2⟩; clear k13 g13)
   | ((with_reducible refine wpList_loadJn ?_ (.tmp 9) ?_ w30.heap.size 0 ka kb kc kd ke kf (.slice AK K.m.length nK) ?_ ?_ ?_); (exact rfl); (exact rfl); (exact rfl); (exact KK.out.rg)))
  refine (keepJ_any _ _ _ _ _ _ AK nK K (J.m.length : Nat) _ KK.out.2 HSK.out).mono ?_
  rintro e w14 ⟨v14, rfl, hr, he⟩
  rw [HKK.out] at hr ⊢
  obtain ⟨a14, b14, c14, d14, x14, y14, m14, rfl, hr⟩ := retJn_shp hr
  obtain ⟨A14, n14, rfl, _, _⟩ := hr.parts.2.2.len
  have R14 := Lib.hid hr
  have E14 := Lib.hid he
  have KJ := Lib.hid (KJ.out.ext E14.out); have KW := Lib.hid (KW.out.ext E14.out); have KM := Lib.hid (KM.out.ext E14.out); have KK := Lib.hid (KK.out.ext E14.out); have KB := Lib.hid (KB.out.ext E14.out); have HEW := Lib.hid (HEW.out.trans E14.out)
  clear hr he
  go_wp2_with (first
   | ((with_reducible refine wpList_storeJn ?_ ?_ (.tmp 12) (.tmp 62) ?_ w14.heap.size (.slice none 0 0) (.slice none 0 0) (.slice none 0 0) (.slice none 0 0) (.slice none 0 0) (.slice none 0 0) (.slice none 0 0) a14 b14 c14 d14 x14 y14 (.slice A14 (⟨K.p, J.m⟩ : Jn).m.length n14) ?_ ?_ R14.out.one ?_ ?_); (exact rfl); (exact rfl); (exact rfl); (exact rfl); (exact rfl); (exact (Cs.new _ _ _ _ rfl)); intro u14 k14 g14; have EU14 := Lib.hid (((Ext.refl w14).alloc (.cells #[.slice none 0 0, .slice none 0 0, .slice none 0 0, .slice none 0 0, .slice none 0 0, .slice none 0 0, .slice none 0 0] 40)).grown g14 (Nat.le_refl _)); have KJ := Lib.hid (KJ.out.ext EU14.out); have KW := Lib.hid (KW.out.ext EU14.out); have KM := Lib.hid (KM.out.ext EU14.out); have KK := Lib.hid (KK.out.ext EU14.out); have KB := Lib.hid (KB.out.ext EU14.out); have HEW := Lib.hid (HEW.out.trans EU14.out); have KP : Hid (JcB u14 w14.heap.size a14 b14 c14 d14 x14 y14 (.slice A14 (⟨K.p, J.m⟩ : Jn).m.length n14) (⟨K.p, J.m⟩ : Jn)) := Lib.hid ⟨k14, (R14.out.ext EU14.out).parts.1, (R14.out.ext EU14.out).parts.2.1, (R14.out.ext EU14.out).parts.2.2⟩; clear k14 g14)
   | ((with_reducible refine wpList_loadJn ?_ (.tmp 9) ?_ w30.heap.size 0 ka kb kc kd ke kf (.slice AK K.m.length nK) ?_ ?_ ?_); (exact rfl); (exact rfl); (exact rfl); (exact KK.out.rg)))
  refine (checkJ_any _ _ _ _ _ _ _ K _ KK.out.2.1 KK.out.2.2.1 KK.out.2.2.2 HSK.out).mono ?_
  rintro e w15 ⟨rfl, he⟩
  rw [chkJn_zero.2 HKR.out]
  have E15 := Lib.hid he
  have KJ := Lib.hid (KJ.out.ext E15.out); have KW := Lib.hid (KW.out.ext E15.out); have KM := Lib.hid (KM.out.ext E15.out); have KK := Lib.hid (KK.out.ext E15.out); have KB := Lib.hid (KB.out.ext E15.out); have KP := Lib.hid (KP.out.ext E15.out); have HEW := Lib.hid (HEW.out.trans E15.out)
  clear he
  go_wp2_with ((with_reducible refine wpList_loadJn ?_ (.tmp 12) ?_ w14.heap.size 0 a14 b14 c14 d14 x14 y14 (.slice A14 (⟨K.p, J.m⟩ : Jn).m.length n14) ?_ ?_ ?_); (exact rfl); (exact rfl); (exact rfl); (exact KP.out.rg))
  refine (checkJ_any _ _ _ _ _ _ _ ⟨K.p, J.m⟩ _ KP.out.2.1 KP.out.2.2.1 KP.out.2.2.2 ⟨HSK.out.1, HSZ.out.2⟩).mono ?_
  rintro e w16 ⟨rfl, he⟩
  rw [chkJn_zero.2 HKP.out]
  have E16 := Lib.hid he
  have KJ := Lib.hid (KJ.out.ext E16.out); have KW := Lib.hid (KW.out.ext E16.out); have KM := Lib.hid (KM.out.ext E16.out); have KK := Lib.hid (KK.out.ext E16.out); have KB := Lib.hid (KB.out.ext E16.out); have KP := Lib.hid (KP.out.ext E16.out); have HEW := Lib.hid (HEW.out.trans E16.out)
  clear he
  go_wp2_with (first
   | ((with_reducible refine wpList_loadJn ?_ (.tmp 10) ?_ w13.heap.size 0 a13 b13 c13 d13 x13 y13 (.slice A13 J.m.length n13) ?_ ?_ ?_); (exact rfl); (exact rfl); (exact rfl); (exact KB.out.rg))
   | ((with_reducible refine wpList_loadJn ?_ (.tmp 5) ?_ w10.heap.size 0 a10 b10 c10 d10 x10 y10 (.slice A10 J.m.length n10) ?_ ?_ ?_); (exact rfl); (exact rfl); (exact rfl); (exact KW.out.rg)))
  refine (sameJ_any _ _ _ _ _ _ _ _ _ _ _ _ _ _ J J _ KB.out.2.1 KB.out.2.2.1 KB.out.2.2.2 KW.out.2.1 KW.out.2.2.1 KW.out.2.2.2).mono ?_
  rintro e w17 ⟨rfl, he⟩
  rw [sameJn_iff.2 rfl]
  have E17 := Lib.hid he
  have KJ := Lib.hid (KJ.out.ext E17.out); have KW := Lib.hid (KW.out.ext E17.out); have KM := Lib.hid (KM.out.ext E17.out); have KK := Lib.hid (KK.out.ext E17.out); have KB := Lib.hid (KB.out.ext E17.out); have KP := Lib.hid (KP.out.ext E17.out); have HEW := Lib.hid (HEW.out.trans E17.out)
  clear he
  go_wp2_with (first
   | ((with_reducible refine wpList_loadJn ?_ (.tmp 2) ?_ w.heap.size 0 ja jb jc jd je jf (.slice AJ J.m.length nJ) ?_ ?_ ?_); (exact rfl); (exact rfl); (exact rfl); (exact KJ.out.rg))
   | ((with_reducible refine wpList_loadJn ?_ (.tmp 5) ?_ w10.heap.size 0 a10 b10 c10 d10 x10 y10 (.slice A10 J.m.length n10) ?_ ?_ ?_); (exact rfl); (exact rfl); (exact rfl); (exact KW.out.rg)))
  refine (sameJ_any _ _ _ _ _ _ _ _ _ _ _ _ _ _ J J _ KJ.out.2.1 KJ.out.2.2.1 KJ.out.2.2.2 KW.out.2.1 KW.out.2.2.1 KW.out.2.2.2).mono ?_
  rintro e w18 ⟨rfl, he⟩
  rw [sameJn_iff.2 rfl]
  have E18 := Lib.hid he
  have KJ := Lib.hid (KJ.out.ext E18.out); have KW := Lib.hid (KW.out.ext E18.out); have KM := Lib.hid (KM.out.ext E18.out); have KK := Lib.hid (KK.out.ext E18.out); have KB := Lib.hid (KB.out.ext E18.out); have KP := Lib.hid (KP.out.ext E18.out); have HEW := Lib.hid (HEW.out.trans E18.out)
  clear he
  have qP6 := KP.out.1.cell 6 _ rfl
  have qW6 := KW.out.1.cell 6 _ rfl
  have hne : ((J.m.length : Int) != (J.m.length : Int)) = false := bne_self_eq_false _
  have HO40 := Lib.hid (show (#[ka, kb, kc, kd, ke, kf, (.slice A10 J.m.length n10)] : Array Value).all (·.oneCell') = true by have h1 := KK.out.one; simp only [List.all_toArray, List.all_cons, List.all_nil, Bool.and_true, Bool.and_eq_true] at h1 ⊢; exact ⟨h1.1, h1.2.1, h1.2.2.1, h1.2.2.2.1, h1.2.2.2.2.1, h1.2.2.2.2.2.1, rfl⟩)
  go_wp2_with (first
   | ((with_reducible refine wpList_loadPo ?_ (.tmp 97) ?_ w30.heap.size 0 ka kb kc kd ke kf ?_ ?_ ?_); (exact rfl); (exact rfl); (exact rfl); (exact KK.out.rgP))
   | ((with_reducible refine wpList_build_jpm ?_ (.tmp 98) (.tmp 100) ?_ ka kb kc kd ke kf A10 J.m.length n10 ?_ ?_ ?_); (exact rfl); (exact rfl); (exact rfl); (exact rfl))
   | ((with_reducible refine wpList_storeJn ?_ ?_ (.tmp 14) (.tmp 101) ?_ w18.heap.size (.slice none 0 0) (.slice none 0 0) (.slice none 0 0) (.slice none 0 0) (.slice none 0 0) (.slice none 0 0) (.slice none 0 0) ka kb kc kd ke kf (.slice A10 J.m.length n10) ?_ ?_ HO40.out ?_ ?_); (exact rfl); (exact rfl); (exact rfl); (exact rfl); (exact rfl); (exact (Cs.new _ _ _ _ rfl)); intro u40 k40 g40; have EU40 := Lib.hid (((Ext.refl w18).alloc (.cells #[.slice none 0 0, .slice none 0 0, .slice none 0 0, .slice none 0 0, .slice none 0 0, .slice none 0 0, .slice none 0 0] 40)).grown g40 (Nat.le_refl _)); have KJ := Lib.hid (KJ.out.ext EU40.out); have KW := Lib.hid (KW.out.ext EU40.out); have KM := Lib.hid (KM.out.ext EU40.out); have KK := Lib.hid (KK.out.ext EU40.out); have KB := Lib.hid (KB.out.ext EU40.out); have KP := Lib.hid (KP.out.ext EU40.out); have HEW := Lib.hid (HEW.out.trans EU40.out); have KN : Hid (JcB u40 w18.heap.size ka kb kc kd ke kf (.slice A10 J.m.length n10) ⟨K.p, J.m⟩) := Lib.hid ⟨k40, KK.out.2.1, KK.out.2.2.1, KW.out.2.2.2⟩; clear k40 g40)
   | ((with_reducible refine wpList_loadJn ?_ (.tmp 12) ?_ w14.heap.size 0 a14 b14 c14 d14 x14 y14 (.slice A14 (⟨K.p, J.m⟩ : Jn).m.length n14) ?_ ?_ ?_); (exact rfl); (exact rfl); (exact rfl); (exact KP.out.rg))
   | ((with_reducible refine wpList_loadJn ?_ (.tmp 14) ?_ w18.heap.size 0 ka kb kc kd ke kf (.slice A10 J.m.length n10) ?_ ?_ ?_); (exact rfl); (exact rfl); (exact rfl); (exact KN.out.rg)))
  refine (sameJ_any _ _ _ _ _ _ _ _ _ _ _ _ _ _ ⟨K.p, J.m⟩ ⟨K.p, J.m⟩ _ KP.out.2.1 KP.out.2.2.1 KP.out.2.2.2 KN.out.2.1 KN.out.2.2.1 KN.out.2.2.2).mono ?_
  rintro e w19 ⟨rfl, he⟩
  rw [sameJn_iff.2 rfl]
  have E19 := Lib.hid he
  have KJ := Lib.hid (KJ.out.ext E19.out); have KW := Lib.hid (KW.out.ext E19.out); have KM := Lib.hid (KM.out.ext E19.out); have KK := Lib.hid (KK.out.ext E19.out); have KB := Lib.hid (KB.out.ext E19.out); have KP := Lib.hid (KP.out.ext E19.out); have KN := Lib.hid (KN.out.ext E19.out); have HEW := Lib.hid (HEW.out.trans E19.out)
  clear he
  go_wp2_with fail
  refine bodyPost_ret (results_tmp rfl _ _ _) rfl ?_
  exact ⟨rfl, HEW.out⟩
 ·have HMK := Lib.hid (show markJ J = (jn0, 0, (mkR J).2) from by unfold markJ; rw [if_neg h0])
  have f1 : ((mkR J).2 != 0) = true := by rw [bne_iff_ne]; exact h0
  have HME := Lib.hid (mark_err h0)
  clear h0
  refine (markJ_any _ _ _ _ _ _ AJ nJ J _ KJ.out.2 HSZ.out).mono ?_
  rintro e w12 ⟨v12, rfl, hr, he⟩
  rw [HMK.out] at hr ⊢
  obtain ⟨a12, b12, c12, d12, x12, y12, m12, rfl, hr⟩ := retJn_shp hr
  obtain ⟨A12, n12, rfl, _, _⟩ := hr.parts.2.2.len
  have R12 := Lib.hid hr
  have E12 := Lib.hid he
  have KJ := Lib.hid (KJ.out.ext E12.out); have KW := Lib.hid (KW.out.ext E12.out); have HEW := Lib.hid (HEW.out.trans E12.out)
  clear hr he
  by_cases h6 : (mkR J).2 = 6
  ·have f6 : ((mkR J).2 == 6) = true := by rw [beq_iff_eq]; exact h6
   clear h6
   go_wp2_with ((with_reducible refine wpList_storeJn ?_ ?_ (.tmp 6) (.tmp 24) ?_ w12.heap.size (.slice none 0 0) (.slice none 0 0) (.slice none 0 0) (.slice none 0 0) (.slice none 0 0) (.slice none 0 0) (.slice none 0 0) a12 b12 c12 d12 x12 y12 (.slice A12 jn0.m.length n12) ?_ ?_ R12.out.one ?_ ?_); (exact rfl); (exact rfl); (exact rfl); (exact rfl); (exact rfl); (exact (Cs.new _ _ _ _ rfl)); intro u12 k12 g12; have EU12 := Lib.hid (((Ext.refl w12).alloc (.cells #[.slice none 0 0, .slice none 0 0, .slice none 0 0, .slice none 0 0, .slice none 0 0, .slice none 0 0, .slice none 0 0] 40)).grown g12 (Nat.le_refl _)); have KJ := Lib.hid (KJ.out.ext EU12.out); have KW := Lib.hid (KW.out.ext EU12.out); have HEW := Lib.hid (HEW.out.trans EU12.out); have KM : Hid (JcB u12 w12.heap.size a12 b12 c12 d12 x12 y12 (.slice A12 jn0.m.length n12) jn0) := Lib.hid ⟨k12, (R12.out.ext EU12.out).parts.1, (R12.out.ext EU12.out).parts.2.1, (R12.out.ext EU12.out).parts.2.2⟩; clear k12 g12; have q6 := KM.out.1.cell 6 _ rfl; have hl : (jn0.m.length : Int) = 0 := rfl)
   refine bodyPost_ret (results_tmp rfl _ _ _) rfl ?_
   exact ⟨rfl, HEW.out⟩
  ·have f6 : ((mkR J).2 == 6) = false := by rw [beq_eq_false_iff_ne]; exact h6
   have HCK := Lib.hid (HME.out.resolve_left h6)
   clear h6
   go_wp2_with (first
    | ((with_reducible refine wpList_storeJn ?_ ?_ (.tmp 6) (.tmp 24) ?_ w12.heap.size (.slice none 0 0) (.slice none 0 0) (.slice none 0 0) (.slice none 0 0) (.slice none 0 0) (.slice none 0 0) (.slice none 0 0) a12 b12 c12 d12 x12 y12 (.slice A12 jn0.m.length n12) ?_ ?_ R12.out.one ?_ ?_); (exact rfl); (exact rfl); (exact rfl); (exact rfl); (exact rfl); (exact (Cs.new _ _ _ _ rfl)); intro u12 k12 g12; have EU12 := Lib.hid (((Ext.refl w12).alloc (.cells #[.slice none 0 0, .slice none 0 0, .slice none 0 0, .slice none 0 0, .slice none 0 0, .slice none 0 0, .slice none 0 0] 40)).grown g12 (Nat.le_refl _)); have KJ := Lib.hid (KJ.out.ext EU12.out); have KW := Lib.hid (KW.out.ext EU12.out); have HEW := Lib.hid (HEW.out.trans EU12.out); have KM : Hid (JcB u12 w12.heap.size a12 b12 c12 d12 x12 y12 (.slice A12 jn0.m.length n12) jn0) := Lib.hid ⟨k12, (R12.out.ext EU12.out).parts.1, (R12.out.ext EU12.out).parts.2.1, (R12.out.ext EU12.out).parts.2.2⟩; clear k12 g12; have q6 := KM.out.1.cell 6 _ rfl; have hl : (jn0.m.length : Int) = 0 := rfl)
    | ((with_reducible refine wpList_loadJn ?_ (.tmp 2) ?_ w.heap.size 0 ja jb jc jd je jf (.slice AJ J.m.length nJ) ?_ ?_ ?_); (exact rfl); (exact rfl); (exact rfl); (exact KJ.out.rg)))
   refine (checkJ_any _ _ _ _ _ _ _ J _ KJ.out.2.1 KJ.out.2.2.1 KJ.out.2.2.2 HSZ.out).mono ?_
   rintro e w13 ⟨rfl, he⟩
   have E13 := Lib.hid he
   have KJ := Lib.hid (KJ.out.ext E13.out); have KW := Lib.hid (KW.out.ext E13.out); have KM := Lib.hid (KM.out.ext E13.out); have HEW := Lib.hid (HEW.out.trans E13.out)
   clear he
   have fb : (chkJn J == (mkR J).2) = true := by rw [beq_iff_eq]; exact HCK.out
   go_wp2_with fail
   refine bodyPost_ret (results_tmp rfl _ _ _) rfl ?_
   exact ⟨rfl, HEW.out⟩
end Go.Proofs.YtnjpdchmdimaaaaGreat
namespace Go.Proofs.YtnjpdchmdimaaaaGreat
open Go.ChangeShapes Go.WideShapes Go.ChangeAt Go.RowKit Go.Shelf

set_option maxRecDepth 100000 in
theorem journalBack_told (W : World) (args : Array Value) (h : Told Tryz.f5 W args) : Calls Tryz.prog 5 args W (RetT W) := by
 obtain ⟨H, enc, base, ds, p, hval, hA⟩ := h
 rw [Tryz.params5] at hA hval
 obtain ⟨v0, v1, d0, d1, p0, p1, rfl, rfl, rfl, h0, h1⟩ := trodAll_two hA
 obtain ⟨xu, xv, xz, xa, xs, xq, xm, j, rfl, hj⟩ := journal_came (hval 0 _ v0 rfl rfl) h0
 obtain ⟨l, hl⟩ := steps_came (hval 1 _ v1 rfl rfl) h1
 exact journalBack_any xu xv xz xa xs xq xm v1 j l W hj hl

set_option maxRecDepth 100000 in
theorem journalBack_spec (H : Type) : ∀ ds : List (DataW H), ds.length = Tryz.f5.params.toList.length → Rows.journalBackSpec.fn H ds = { results := [.lit (.bool true)], args := ds }
 | [_, _], _ => rfl
 | [], h | [_], h | _ :: _ :: _ :: _, h => by rw [Tryz.params5] at h; simp at h

set_option maxRecDepth 100000 in
theorem journalBack_holds : Rows.JournalBackSaid :=
 OpenClaim.holds_of_wide 5 Tryz.f5 rfl rfl rfl rfl rfl rfl rfl ⟨rfl, rfl, rfl, rfl, rfl⟩ rfl rfl rfl rfl rfl (by kernel_rfl) Tryz.func5 (by kernel_rfl)
  (of_decide_eq_true (by kernel_rfl)) (by unfold Func.isWrapper; first | (rw [if_pos (by decide +kernel)]; kernel_rfl) | (rw [if_neg (by decide +kernel)]; exact ⟨rfl, rfl⟩))
  (fun os started H enc _ => law_lifted started (by kernel_rfl) Tryz.func5 rfl rfl (journalBack_spec H) (of_decide_eq_true (by kernel_rfl))
   (ChangeSpec.witness6 (enc := enc) (C := Tryz.checked) false ⟨#[], #[.agg #[.slice none 0 0, .slice none 0 0, .slice none 0 0, .slice none 0 0, .slice none 0 0, .slice none 0 0, .slice none 0 0], .slice none 0 0], []⟩ 8 (by kernel_rfl) (by kernel_rfl) (by kernel_rfl) (by kernel_rfl)) journalBack_told)
end Go.Proofs.YtnjpdchmdimaaaaGreat
