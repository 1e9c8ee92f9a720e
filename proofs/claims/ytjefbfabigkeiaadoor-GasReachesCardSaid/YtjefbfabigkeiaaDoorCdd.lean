/- Package code: Of. -/
import Derived.Test.YtjefbfabigkeiaaDoorCdc
namespace Go.Proofs.YtjefbfabigkeiaaDoor
open Go.ChangeShapes Go.WideShapes Go.ChangeAt Go.RowKit Go.Shelf

/-- The byte belongs to the family. -/
def Fm.hasC (f : Fm) (c : Nat) : Bool := decide (f.first ≤ c) && decide (c ≤ f.last)
/-- The operation with that byte. -/
def ofF (c : Nat) : Option Opv := match famL.find? (fun f => f.hasC c) with
  | some f => some (f.op (c - f.first))
  | none => if decide (posC c < 50) && decide ((rowsL.getD (posC c) rwz).code = c) then some (rowsL.getD (posC c) rwz).op else none
def ofV (c : Nat) : Opv := (ofF c).getD opz
def ofE (c : Nat) : Nat := if (ofF c).isSome then 0 else 4
def famA : Array Value := (famL.flatMap fmc).toArray
set_option maxRecDepth 100000 in
theorem famA_at (i : Nat) (hi : i < 3) (u : World) : (Instr.index 81 (.agg famA) (.int .i64 (i : Nat))).run Tryd.prog u = .ok (.agg (fmc (famL.getD i fmz)).toArray) u := by
  match i, hi with
  | 0, _ => rfl
  | 1, _ => rfl
  | 2, _ => rfl
set_option maxRecDepth 100000 in
theorem fam_ok (i : Nat) (hi : i < 3) : (famL.getD i fmz).ok := by
  refine famL_ok _ ?_
  have e : famL.getD i fmz = famL[i]'(by rw [famL_len]; exact hi) := by simp [List.getD, List.getElem?_eq_getElem (show i < famL.length by rw [famL_len]; exact hi)]
  rw [e]
  exact List.getElem_mem _
set_option maxRecDepth 100000 in
theorem fam_span (i : Nat) (hi : i < 3) : (famL.getD i fmz).last < (famL.getD i fmz).first + 32 := by
  match i, hi with
  | 0, _ => decide
  | 1, _ => decide
  | 2, _ => decide
set_option maxRecDepth 100000 in
/-- The first family that has it. -/
theorem of_fam (c i : Nat) (hi : i < 3) (hn : ∀ j, j < i → (famL.getD j fmz).hasC c = false) (h : (famL.getD i fmz).hasC c = true) : ofF c = some ((famL.getD i fmz).op (c - (famL.getD i fmz).first)) := by
  have e : famL.find? (fun f => f.hasC c) = some (famL.getD i fmz) := by
    match i, hi with
    | 0, _ =>
      simp [famL, List.getD] at h
      simp [famL, List.getD, h]
    | 1, _ =>
      have h0 := hn 0 (by decide)
      simp [famL, List.getD] at h h0
      simp [famL, List.find?, List.getD, h, h0]
    | 2, _ =>
      have h0 := hn 0 (by decide)
      have h1 := hn 1 (by decide)
      simp [famL, List.getD] at h h0 h1
      simp [famL, List.find?, List.getD, h, h0, h1]
  rw [ofF, e]
set_option maxRecDepth 100000 in
theorem of_row (c : Nat) (hn : ∀ j, j < 3 → (famL.getD j fmz).hasC c = false) : ofF c = if decide (posC c < 50) && decide ((rowsL.getD (posC c) rwz).code = c) then some (rowsL.getD (posC c) rwz).op else none := by
  have e : famL.find? (fun f => f.hasC c) = none := by
    have h0 := hn 0 (by decide)
    have h1 := hn 1 (by decide)
    have h2 := hn 2 (by decide)
    simp [famL, List.getD] at h0 h1 h2
    simp [famL, List.find?, h0, h1, h2]
  rw [ofF, e]
set_option maxRecDepth 100000 in
theorem oz0_size : oz0.size = 5 := rfl
set_option maxRecDepth 100000 in
theorem faminfo : (Tryd.prog.info? 81).map (·.size) = some 21 := by kernel_rfl
set_option maxRecDepth 100000 in
theorem fminfo : (Tryd.prog.info? 80).map (·.size) = some 7 := by kernel_rfl
set_option maxRecDepth 100000 in
theorem fmc_one (f : Fm) : (fmc f).toArray.all (·.oneCell') = true := by simp [fmc, st, Value.oneCell']
set_option maxRecDepth 100000 in
/-- The families are loaded. -/
theorem wpList_loadFams {ops : Array Oper} {rest : List Oper} {o : Oper} {a : Act} {w : World} {Q : Exit → Act → World → Prop} (hgd : Region.wanted o (yielded ops a.tmps) = true) (x : Operand) (ho : o.op = .load 81 x)
    (hx : a.eval x = .pointer (some ⟨0, 0, none⟩)) (hT : Tb w) (h : wpList Tryd.prog ops Q rest (a.put o.dst (.agg famA)) w) : wpList Tryd.prog ops Q (o :: rest) a w := by
  refine wpList_step fun K hK => ?_
  rw [if_pos hgd]
  refine wp_load_mid 81 x ho 0 0 hx (famL.flatMap fmc) _ ?_ Tryd.underlying81 rfl faminfo ?_
  · intro j v hv
    rw [Nat.zero_add]
    exact hT.1.cell j v (by rw [List.getElem?_toArray]; exact hv)
  · exact hK _ _ h
/-- A block that holds a family. -/
def Fb (W : World) (g : Nat) (f : Fm) : Prop := Cs W g 80 (fmc f).toArray
set_option maxRecDepth 100000 in
theorem wpList_loadFm {ops : Array Oper} {rest : List Oper} {o : Oper} {a : Act} {w : World} {Q : Exit → Act → World → Prop} (hgd : Region.wanted o (yielded ops a.tmps) = true) (x : Operand) (ho : o.op = .load 80 x)
    (g : Nat) (p : Fm) (hx : a.eval x = .pointer (some ⟨g, 0, none⟩)) (hg : Fb w g p) (h : wpList Tryd.prog ops Q rest (a.put o.dst (.agg (fmc p).toArray)) w) : wpList Tryd.prog ops Q (o :: rest) a w := by
  refine wpList_step fun K hK => ?_
  rw [if_pos hgd]
  exact wp_load_row 80 x ho g hx 80 (fmc p).toArray (0, 0) _ hg Tryd.underlying80 rfl fminfo (hK _ _ h)
set_option maxRecDepth 100000 in
theorem wpList_storeFm {ops : Array Oper} {rest : List Oper} {o : Oper} {a : Act} {w : World} {Q : Exit → Act → World → Prop} (hgd : o.guard = none) (hd : o.dst = none) (x y : Operand) (ho : o.op = .store 80 x y)
    (g : Nat) (old : Array Value) (p : Fm) (hx : a.eval x = .pointer (some ⟨g, 0, none⟩)) (hy : a.eval y = .agg (fmc p).toArray) (hg : Cs w g 80 old) (hold : old.size = 7)
    (h : ∀ w', Fb w' g p → w.grownBy w' (some g) → wpList Tryd.prog ops Q rest a w') : wpList Tryd.prog ops Q (o :: rest) a w := by
  have h' : ∀ w', Fb w' g p → w.grownBy w' (some g) → wpList Tryd.prog ops Q rest (a.put o.dst undef) w' := by rw [hd]; exact h
  refine wpList_store_row hgd 80 x y ho g (fmc p).toArray hx hy 80 old hg fminfo hold (fmc_one p) (h' _ ?_ ?_)
  · exact setRow_heap w g _ _ 80 (0, 0) hg
  · exact ⟨rfl, rfl, rfl, by simp [World.setRow], fun k _ hk => setRow_other w g k _ (fun e => hk (by simp [e]))⟩
set_option maxRecDepth 100000 in
theorem results_opT {fn : Func} {q r : Tmp} (h : fn.results = #[.cell q 64, .tmp r]) (tmps : Array Value) (w : World) (g : Nat) (p : Opv) (hp : tmps.getD q undef = .pointer (some ⟨g, 0, none⟩)) (hg : Ob w g p) : (results fn tmps).run Tryd.prog w = .ok (.tuple #[opv p, tmps.getD r undef]) w := by
  have hp' : tmps[q]?.getD undef = .pointer (some ⟨g, 0, none⟩) := by simpa using hp
  have e : (opc p).toArray.size = 5 := rfl
  simp [results, h, hp', asAddr, run_loadVar_row w g 64 64 (opc p).toArray (0, 0) _ hg Tryd.underlying64 rfl (opinfo.trans (congrArg some e.symm)), opv]
/-- What lies there in Of. -/
def OfS (w : World) (g1 g2 c : Nat) (W : World) : Prop := Cs W g1 5 #[.int .u8 (c : Nat)] ∧ Cs W g2 64 oz0 ∧ Ext w W
set_option maxRecDepth 100000 in
theorem OfS.ext {w : World} {g1 g2 c : Nat} {W W' : World} (h : OfS w g1 g2 c W) (he : Ext W W') : OfS w g1 g2 c W' := ⟨Cs.ext h.1 he, Cs.ext h.2.1 he, h.2.2.trans he⟩
set_option maxRecDepth 100000 in
set_option maxHeartbeats 4000000 in
theorem ofC_any (c : Nat) (w : World) (hT : Tb w) (hc : c < 256) :
    Calls Tryd.prog 41 #[.int .u8 (c : Nat)] w fun e w' => e = .returned (.tuple #[opv (ofV c), .int .i64 (ofE c : Nat)]) ∧ Ext w w' := by
  have HT := Lib.hid hT
  have HF := Lib.hid (fun i hi hn h => of_fam c i hi hn h)
  have HR := Lib.hid (of_row c)
  have HV := Lib.hid (show ofV c = (ofF c).getD opz from rfl)
  have HE' := Lib.hid (show ofE c = if (ofF c).isSome then 0 else 4 from rfl)
  obtain ⟨w1, hw1⟩ : ∃ w1, (w.alloc (.cells #[.int .u8 (c : Nat)] 5)).alloc (.cells oz0 64) = w1 := ⟨_, rfl⟩
  have HJ : Hid (OfS w w.heap.size (w.heap.size + 1) c w1) := Lib.hid (by
    rw [← hw1]
    exact ⟨Cs.alloc (Cs.new _ _ _ _ rfl) _, Cs.new _ _ _ _ (by rw [World.size_alloc]), ((Ext.refl w).alloc _).alloc _⟩)
  unfold oz0 at hw1
  have HW1 := Lib.hid hw1
  have HGG := Lib.hid (Nat.le_succ w.heap.size)
  have HCC := Lib.hid hc
  clear hw1 hT
  go_enter Tryd.func41, Tryd.ntmps41
  go_upto_region 1 with fail
  rw [HW1.out]
  clear HW1
  obtain ⟨g2, hg2⟩ : ∃ g, w.heap.size + 1 = g := ⟨_, rfl⟩
  rw [Nat.succ_eq_add_one, hg2] at HGG
  rw [hg2] at HJ ⊢
  obtain ⟨g1, hg1⟩ : ∃ g, w.heap.size = g := ⟨_, rfl⟩
  have HG1 := Lib.hid hg1
  rw [hg1] at HJ ⊢
  clear hg1 hg2
  have HT1 := Lib.hid (HT.out.ext HJ.out.2.2)
  go_wp2_with ((with_reducible refine wpList_loadFams ?_ (.global 0) ?_ ?_ HT1.out ?_); (exact rfl); (exact rfl); (exact rfl))
  go_loopw [8] (fun iv wr => ∃ i : Nat, i ≤ 3 ∧ iv = .int .i64 i ∧ Hid ((∀ j, j < i → (famL.getD j fmz).hasC c = false) ∧ OfS w g1 g2 c wr)) (fun iv _ => 3 - (intOf iv).toNat)
  case atStart => exact ⟨0, Nat.zero_le _, rfl, Lib.hid ⟨fun j hj => absurd hj (Nat.not_lt_zero j), HJ.out⟩⟩
  case round =>
    obtain ⟨i, hi, rfl, HL⟩ := hrel
    by_cases hlt : i < 3
    · have hd : decide (i < 3) = true := decide_eq_true hlt
      have hd2 : decide ((i : Int) < 3) = true := decide_eq_true (by omega)
      have hix := famA_at i hlt
      have HIX := Lib.hid (And.intro (fam_ok i hlt) (fam_span i hlt))
      have HNX := Lib.hid (HF.out i hlt HL.out.1)
      have HHX := Lib.hid (show ∀ j, j < i + 1 → (famL.getD i fmz).hasC c = false → (famL.getD j fmz).hasC c = false from fun j hj h => by
        rcases Nat.lt_or_ge j i with hl | hl
        · exact HL.out.1 j hl
        · obtain rfl : j = i := by omega
          exact h)
      have HSX := Lib.hid (show (famL.getD i fmz).hasC c = (decide ((famL.getD i fmz).first ≤ c) && decide (c ≤ (famL.getD i fmz).last)) from rfl)
      obtain ⟨f, hf⟩ : ∃ f, famL.getD i fmz = f := ⟨_, rfl⟩
      rw [hf] at hix HIX HNX HHX HSX
      clear hf
      have HFz : Hid (Cs (wr.alloc (.cells #[.int .u8 0, .int .u8 0, .string { data := #[] }, .int .i64 0, .int .i64 0, .int .i64 0, .int .i64 0] 80)) wr.heap.size 80 #[.int .u8 0, .int .u8 0, .string { data := #[] }, .int .i64 0, .int .i64 0, .int .i64 0, .int .i64 0]) := Lib.hid (Cs.new _ _ _ _ rfl)
      go_upto_region 4 with ((with_reducible refine wpList_storeFm ?_ ?_ (.tmp 5) (.tmp 10) ?_ wr.heap.size _ f ?_ ?_ HFz.out rfl ?_); (exact rfl); (exact rfl); (exact rfl); (exact rfl); (exact rfl); intro w3 k3 b3)
      have HE3 : Hid (Ext wr w3) := Lib.hid (Ext.grown ((Ext.refl wr).alloc _) b3 (Nat.le_refl _))
      have HS3 := Lib.hid (HL.out.2.ext HE3.out)
      have HB3 := Lib.hid k3
      clear k3 b3 HFz hix
      obtain ⟨gk, hgk⟩ : ∃ g, wr.heap.size = g := ⟨_, rfl⟩
      rw [hgk] at HB3 ⊢
      clear hgk
      have q1 : w3.cell? ⟨g1, 0, none⟩ = some (.int .u8 (c : Nat)) := HS3.out.1.cell 0 _ rfl
      have q2 : w3.cell? ⟨gk, 0, none⟩ = some (.int .u8 (f.first : Nat)) := HB3.out.cell 0 _ rfl
      have q3 : w3.cell? ⟨gk, 1, none⟩ = some (.int .u8 (f.last : Nat)) := HB3.out.cell 1 _ rfl
      by_cases h1 : f.first ≤ c
      · have d1 : decide ((f.first : Int) ≤ (c : Int)) = true := decide_eq_true (by omega)
        by_cases h2 : c ≤ f.last
        · have d2 : decide ((c : Int) ≤ (f.last : Int)) = true := decide_eq_true (by omega)
          obtain ⟨m, hm⟩ : ∃ m, c - f.first = m := ⟨_, rfl⟩
          have HM := Lib.hid (show (c : Int) - (f.first : Int) = (m : Int) by omega)
          have HM2 := Lib.hid (show m < 32 by have := HIX.out.2; omega)
          have HAN := Lib.hid (HNX.out (by rw [HSX.out]; simp [h1, h2]))
          rw [hm] at HAN
          have hb := HIX.out.1.1
          clear hm
          go_wp2_with ((with_reducible refine wpList_loadFm ?_ (.tmp 5) ?_ gk f ?_ HB3.out ?_); (exact rfl); (exact rfl); (exact rfl))
          rw [HM.out]
          refine (famOp_any f m _ HIX.out.1 HM2.out).mono ?_
          rintro e w4 ⟨rfl, he⟩
          have HS4 := Lib.hid (HS3.out.ext he)
          clear he q1 q2 q3
          have hz := HS4.out.2.1
          go_wp2_with ((with_reducible refine wpList_storeOp ?_ ?_ (.tmp 2) (.tmp 28) ?_ g2 _ (f.op m) ?_ ?_ hz oz0_size ?_); (exact rfl); (exact rfl); (exact rfl); (exact rfl); (exact rfl); intro w5 k5 b5)
          refine bodyPost_ret (results_opT rfl _ _ g2 _ rfl k5) rfl ?_
          exact ⟨by rw [HV.out, HE'.out, HAN.out]; rfl, HS4.out.2.2.grown b5 HGG.out⟩
        · have d2 : decide ((c : Int) ≤ (f.last : Int)) = false := decide_eq_false (by omega)
          have HAN := Lib.hid (show f.hasC c = false by rw [HSX.out]; simp [h2])
          go_wp2_with fail
          exact ⟨⟨i + 1, by omega, by go_num, Lib.hid ⟨fun j hj => HHX.out j hj HAN.out, HS3.out⟩⟩, by simp [intOf]; omega⟩
      · have d1 : decide ((f.first : Int) ≤ (c : Int)) = false := decide_eq_false (by omega)
        have HAN := Lib.hid (show f.hasC c = false by rw [HSX.out]; simp [h1])
        go_wp2_with fail
        exact ⟨⟨i + 1, by omega, by go_num, Lib.hid ⟨fun j hj => HHX.out j hj HAN.out, HS3.out⟩⟩, by simp [intOf]; omega⟩
    · obtain rfl : i = 3 := by omega
      have HTr := Lib.hid (HT.out.ext HL.out.2.2.2)
      have HRR := Lib.hid (HR.out HL.out.1)
      have HS := Lib.hid HL.out.2
      clear HL
      have hd : decide ((3 : Int) < 3) = false := by decide
      go_wp2_with fail
      refine (searchC_any g1 c _ HTr.out (HS.out.1.cell 0 _ rfl) HCC.out).mono ?_
      rintro e w2 ⟨rfl, he⟩
      have HT2 := Lib.hid (HTr.out.ext he)
      have HS2 := Lib.hid (HS.out.ext he)
      have HPO := Lib.hid (posC_le c)
      clear he
      obtain ⟨p, hp⟩ : ∃ p, posC c = p := ⟨_, rfl⟩
      rw [hp] at HRR HPO ⊢
      clear hp
      have q1 : w2.cell? ⟨g1, 0, none⟩ = some (.int .u8 (c : Nat)) := HS2.out.1.cell 0 _ rfl
      go_upto_region 8 with fail
      by_cases hlp : p < 50
      · have e0 : ((p : Int) == 50) = false := by rw [beq_eq_false_iff_ne]; omega
        have e1 : (p == 50) = false := by rw [beq_eq_false_iff_ne]; omega
        have hd3 : decide (p < 50) = true := decide_eq_true hlp
        have HRW := Lib.hid (HT2.out.row p hlp)
        have q4 := HT2.out.code p hlp
        obtain ⟨r, hr⟩ : ∃ r, rowsL.getD p rwz = r := ⟨_, rfl⟩
        rw [hr] at HRW HRR q4
        clear hr
        by_cases hcc : r.code = c
        · have f0 : ((r.code : Int) != (c : Int)) = false := by rw [hcc]; simp
          have HAN : Hid (ofF c = some r.op) := Lib.hid (by rw [HRR.out, if_pos (by simp [hlp, hcc])])
          go_quiet (fail)
          have HS3 := Lib.hid (HS2.out.ext (Ext.drewC (Ext.refl _) nq))
          have HRW3 : Hid ((w2.drewN nq).rangeAt 1 (p * 4) (rwc r)) := Lib.hid HRW.out
          clear q1 q4
          go_wp2_with ((with_reducible refine wpList_load_rowC ?_ (.tmp 44) ?_ 1 (p * 4) r ?_ HRW3.out ?_); (exact rfl); (exact rfl); (exact rfl))
          refine (rowOp_any r _).mono ?_
          rintro e w4 ⟨rfl, he⟩
          have HS4 := Lib.hid (HS3.out.ext he)
          clear he
          have hz := HS4.out.2.1
          go_wp2_with ((with_reducible refine wpList_storeOp ?_ ?_ (.tmp 2) (.tmp 46) ?_ g2 _ r.op ?_ ?_ hz oz0_size ?_); (exact rfl); (exact rfl); (exact rfl); (exact rfl); (exact rfl); intro w5 k5 b5)
          refine bodyPost_ret (results_opT rfl _ _ g2 _ rfl k5) rfl ?_
          exact ⟨by rw [HV.out, HE'.out, HAN.out]; rfl, HS4.out.2.2.grown b5 HGG.out⟩
        · have f0 : ((r.code : Int) != (c : Int)) = true := by rw [bne_iff_ne]; omega
          have HAN : Hid (ofF c = none) := Lib.hid (by rw [HRR.out, if_neg (by simp [hcc])])
          go_quiet (fail)
          have HS3 := Lib.hid (HS2.out.ext (Ext.drewC (Ext.refl _) nq))
          clear q1 q4
          have hz := HS3.out.2.1
          go_wp2_with ((with_reducible refine wpList_storeOp ?_ ?_ (.tmp 2) (.tmp 42) ?_ g2 _ opz ?_ ?_ hz oz0_size ?_); (exact rfl); (exact rfl); (exact rfl); (exact rfl); (exact rfl); intro w5 k5 b5)
          refine bodyPost_ret (results_opT rfl _ _ g2 _ rfl k5) rfl ?_
          exact ⟨by rw [HV.out, HE'.out, HAN.out]; rfl, HS3.out.2.2.grown b5 HGG.out⟩
      · obtain rfl : p = 50 := by have := HPO.out; omega
        have HAN : Hid (ofF c = none) := Lib.hid (by rw [HRR.out, if_neg (by simp)])
        go_quiet (fail)
        have HS3 := Lib.hid (HS2.out.ext (Ext.drewC (Ext.refl _) nq))
        clear q1
        have hz := HS3.out.2.1
        go_wp2_with ((with_reducible refine wpList_storeOp ?_ ?_ (.tmp 2) (.tmp 42) ?_ g2 _ opz ?_ ?_ hz oz0_size ?_); (exact rfl); (exact rfl); (exact rfl); (exact rfl); (exact rfl); intro w5 k5 b5)
        refine bodyPost_ret (results_opT rfl _ _ g2 _ rfl k5) rfl ?_
        exact ⟨by rw [HV.out, HE'.out, HAN.out]; rfl, HS3.out.2.2.grown b5 HGG.out⟩
end Go.Proofs.YtjefbfabigkeiaaDoor
