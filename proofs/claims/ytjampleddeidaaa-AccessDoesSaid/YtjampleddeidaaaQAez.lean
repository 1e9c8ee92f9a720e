/- Package access: the document's Keep. -/
import Derived.Test.YtjampleddeidaaaQAew
import Derived.Test.YtjampleddeidaaaQAeg
import Derived.Test.YtjampleddeidaaaQAey
namespace Go.Proofs.Ytjampleddeidaaa
open Go.ChangeShapes Go.WideShapes Go.ChangeAt Go.RowKit Go.Shelf

def KhJ (w0 : World) (g2 g3 g4 g5 lo : Nat) (cs : Array Value) (q : Pe) (nv : Nat) (v : Value) (ls : List Pe) (W : World) : Prop := Cs W g2 26 cs ∧ BS W g3 q ∧ Ext w0 W ∧ OwnP W lo v ls ∧ Cs W g4 26 #[.slice none 0 0, .slice none 0 0, .slice none 0 0] ∧ Cs W g5 30 (wc nv)
set_option maxRecDepth 100000 in
theorem KhJ.ext {w0 : World} {g2 g3 g4 g5 lo : Nat} {cs : Array Value} {q : Pe} {nv : Nat} {v : Value} {ls : List Pe} {W W' : World} (h : KhJ w0 g2 g3 g4 g5 lo cs q nv v ls W) (he : Ext W W') : KhJ w0 g2 g3 g4 g5 lo cs q nv v ls W' := ⟨Cs.ext h.1 he, h.2.1.ext he, h.2.2.1.trans he, h.2.2.2.1.ext he, Cs.ext h.2.2.2.2.1 he, Cs.ext h.2.2.2.2.2 he⟩
set_option maxRecDepth 100000 in
theorem KhJ.app {w0 : World} {g2 g3 g4 g5 lo : Nat} {cs : Array Value} {q : Pe} {nv : Nat} {v v' : Value} {ls ls' : List Pe} {W W' : World} (h : KhJ w0 g2 g3 g4 g5 lo cs q nv v ls W) (hb : g2 < lo ∧ g3 < lo ∧ g4 < lo ∧ g5 < lo ∧ lo = w0.heap.size) (hg : W.grownBy W' v.ownBlock) (ho : OwnP W' lo v' ls') : KhJ w0 g2 g3 g4 g5 lo cs q nv v' ls' W' :=
  ⟨Cs.kept h.1 hg (fun e => by have := (h.2.2.2.1.lt g2 (by first | exact e | exact e.symm)).1; omega), Cs.kept h.2.1 hg (fun e => by have := (h.2.2.2.1.lt g3 (by first | exact e | exact e.symm)).1; omega), Ext.appendR h.2.2.1 (by rw [← hb.2.2.2.2]; exact h.2.2.2.1.1) hg, ho, Cs.kept h.2.2.2.2.1 hg (fun e => by have := (h.2.2.2.1.lt g4 (by first | exact e | exact e.symm)).1; omega), Cs.kept h.2.2.2.2.2 hg (fun e => by have := (h.2.2.2.1.lt g5 (by first | exact e | exact e.symm)).1; omega)⟩
set_option maxRecDepth 100000 in
theorem built_pas2 (q : Pe) (n : Nat) : Try.prog.built 69 [(0, .agg (cS q)), (1, wv n)] = some (cP ⟨q.addr, q.key, n⟩) := by kernel_rfl
set_option maxRecDepth 100000 in
theorem wpList_build_pas2 {ops : Array Oper} {rest : List Oper} {o : Oper} {a : Act} {w : World} {Q : Exit → Act → World → Prop} (hg : o.guard = none) (x y : Operand) (ho : o.op = .build 69 #[(0, x), (1, y)]) (q : Pe) (n : Nat) (hx : a.eval x = .agg (cS q)) (hy : a.eval y = wv n)
    (h : wpList Try.prog ops Q rest (a.put o.dst (.agg (cP ⟨q.addr, q.key, n⟩))) w) : wpList Try.prog ops Q (o :: rest) a w := by
  refine wpList_build hg 69 #[(0, x), (1, y)] ho ?_ ?_
  · simp only [List.map_toArray, List.map_cons, List.map_nil, hx, hy, built_pas2]; rfl
  · simp only [List.map_toArray, List.map_cons, List.map_nil, hx, hy, built_pas2, Option.getD_some]; exact h
def RfK (W : World) (va vs vp : Value) (x y : Ax) (ok : Bool) (e : Ending) (w' : World) : Prop := ∃ ua us up, e = .returned (.tuple #[.agg #[ua, us, up], .bool ok]) ∧ KpX W.heap.size w' va vs vp x ua us up y ∧ Ext W w'
set_option maxRecDepth 100000 in
theorem OwnP.add {lo : Nat} {v' : Value} {ls : List Pe} {p : Pe} {W' : World} (h2 : ∀ x ∈ ls, okP x) (hx : okP p) (h : W'.ownsRow lo 69 9 v' (ls.length + 1) (fP ls ++ (cP p).toList)) : OwnP W' lo v' (ls ++ [p]) := by
  refine ⟨by rw [List.length_append, fP_app2, fP_single]; exact h, fun y hy => ?_⟩
  rcases List.mem_append.1 hy with hy | hy
  · exact h2 y hy
  · rw [List.mem_singleton.1 hy]; exact hx
set_option maxRecDepth 100000 in
theorem kp_room {l : List Pe} (hr : rsB l = true) (q : Pe) (nv : Nat) {z : Bool} (hz : (nv == 0) = z) : (if z = true then dlX l q.cod else plX l (⟨q.addr, q.key, nv⟩ : Pe)).length ≤ 400 ↔ kpE l q nv = 0 := by
  unfold kpE
  cases z with
  | true => rw [if_pos rfl, if_pos (by simpa using hz)]; exact ⟨fun _ => rfl, fun _ => Nat.le_trans (dlX_length l q.cod) (rs_iff.1 hr).1⟩
  | false => rw [if_neg Bool.false_ne_true, if_neg (by simpa using hz)]; exact pt_room hr _
set_option maxRecDepth 100000 in
theorem kp_ok {l : List Pe} {q : Pe} {nv : Nat} {z : Bool} (hz : (nv == 0) = z) (h : kpE l q nv = 0) : kpL l q nv = (if z = true then dlX l q.cod else plX l (⟨q.addr, q.key, nv⟩ : Pe)) := by
  unfold kpE at h
  unfold kpL
  cases z with
  | true => rw [if_pos rfl, if_pos (by simpa using hz)]
  | false =>
    rw [if_neg (by simpa using hz)] at h
    rw [if_neg Bool.false_ne_true, if_neg (by simpa using hz)]
    exact (pt_ok h).1
set_option maxRecDepth 100000 in
set_option maxHeartbeats 8000000 in
theorem refKeepX_any (va vs vp : Value) (x : Ax) (q : Pe) (nv : Nat) (w : World) (hx : AxR w va vs vp x) (hq : okS q) (hnv : nv < M256) (hr : rsB x.p = true) :
    Calls Try.prog 50 #[.agg #[va, vs, vp], .agg (cS q), wv nv] w (RfK w va vs vp x (if kpE x.p q nv = 0 then { x with p := kpL x.p q nv } else ax0) (decide (kpE x.p q nv = 0))) := by
  have HX := Lib.hid hx
  have HQ := Lib.hid hq
  have HQK := Lib.hid (show q.key < M256 from hq.2.1)
  have HL4 : Hid (x.p.length ≤ 400) := Lib.hid (rs_iff.1 hr).1
  have HRS := Lib.hid (rs_iff.1 hr).2
  have HNV := Lib.hid hnv
  have HPO := Lib.hid (show okP (⟨q.addr, q.key, nv⟩ : Pe) from ⟨hq.1, hq.2.1, hnv⟩)
  obtain ⟨z, hz⟩ : ∃ b, (nv == 0) = b := ⟨_, rfl⟩
  have HZB := Lib.hid hz
  have HRM := Lib.hid (kp_room hr q nv hz)
  have HPL := Lib.hid (fun (h : kpE x.p q nv = 0) => kp_ok hz h)
  obtain ⟨A1, c1, rfl, hc1, hm1⟩ := hx.1.len
  obtain ⟨A2, c2, rfl, hc2, hm2⟩ := hx.2.1.len
  obtain ⟨A3, c3, rfl, hc3, hm3⟩ := hx.2.2.len
  unfold maxLen at hm1 hm2 hm3
  obtain ⟨w0, hw0⟩ : ∃ w0, (((w.alloc (.cells #[.slice A1 x.a.length c1, .slice A2 x.s.length c2, .slice A3 x.p.length c3] 26)).alloc (.cells (cS q) 32)).alloc (.cells (wc nv) 30)).alloc (.cells #[.slice none 0 0, .slice none 0 0, .slice none 0 0] 26) = w0 := ⟨_, rfl⟩
  have HC0 : Hid (Cs w0 w.heap.size 26 #[.slice A1 x.a.length c1, .slice A2 x.s.length c2, .slice A3 x.p.length c3]) := Lib.hid (by rw [← hw0]; exact Cs.alloc (Cs.alloc (Cs.alloc (Cs.new _ _ _ _ rfl) _) _) _)
  have HQ0 : Hid (BS w0 (w.heap.size + 1) q) := Lib.hid (by rw [← hw0]; exact Cs.alloc (Cs.alloc (Cs.new _ _ _ _ (by simp)) _) _)
  have HV0 : Hid (Cs w0 (w.heap.size + 1 + 1) 30 (wc nv)) := Lib.hid (by rw [← hw0]; exact Cs.alloc (Cs.new _ _ _ _ (by simp)) _)
  have HR0 : Hid (Cs w0 (w.heap.size + 1 + 1 + 1) 26 #[.slice none 0 0, .slice none 0 0, .slice none 0 0]) := Lib.hid (by rw [← hw0]; exact Cs.new _ _ _ _ (by simp))
  have HE0 : Hid (Ext w w0) := Lib.hid (by rw [← hw0]; exact ((((Ext.refl w).alloc _).alloc _).alloc _).alloc _)
  obtain ⟨ry, hry⟩ : ∃ y, (if kpE x.p q nv = 0 then { x with p := kpL x.p q nv } else ax0 : Ax) = y := ⟨_, rfl⟩
  obtain ⟨rb, hrb⟩ : ∃ b, decide (kpE x.p q nv = 0) = b := ⟨_, rfl⟩
  have HRY := Lib.hid hry
  have HRB := Lib.hid hrb
  rw [hry, hrb]
  obtain ⟨qc, hqc⟩ : ∃ qc, cS q = qc := ⟨_, rfl⟩
  rw [show wv nv = .agg (wc nv) from rfl]
  obtain ⟨vc, hvc⟩ : ∃ vc, wc nv = vc := ⟨_, rfl⟩
  rw [hqc, hvc] at hw0 ⊢
  have HW0 := Lib.hid hw0
  clear hx hq hr hw0 hqc hry hrb hvc hz hnv
  go_enter Try.func50, Try.ntmps50
  go_upto_region 1 with fail
  rw [HW0.out]
  clear HW0
  obtain ⟨g4, hg4⟩ : ∃ g, w.heap.size + 1 + 1 + 1 = g := ⟨_, rfl⟩
  obtain ⟨g5, hg5⟩ : ∃ g, w.heap.size + 1 + 1 = g := ⟨_, rfl⟩
  obtain ⟨g3, hg3⟩ : ∃ g, w.heap.size + 1 = g := ⟨_, rfl⟩
  obtain ⟨g2, hg2⟩ : ∃ g, w.heap.size = g := ⟨_, rfl⟩
  obtain ⟨lo, hlo⟩ : ∃ lo, lo = w0.heap.size := ⟨_, rfl⟩
  have HLO := Lib.hid hlo
  have HGL : Hid (w.heap.size ≤ g2 ∧ w.heap.size ≤ g4) := Lib.hid (by omega)
  have HGN : Hid (g2 ≠ g3 ∧ g4 ≠ g2) := Lib.hid (by omega)
  have HG : Hid (g2 < lo ∧ g3 < lo ∧ g4 < lo ∧ g5 < lo ∧ lo = w0.heap.size) := Lib.hid (by have := HR0.out.lt; omega)
  rw [hg4] at HR0 ⊢
  rw [hg5] at HV0 ⊢
  rw [hg3] at HQ0 ⊢
  rw [hg2] at HC0 ⊢
  clear hg2 hg3 hg4 hg5 hlo
  have HVR := Lib.hid (Cs.rg HV0.out)
  have HJ0 : Hid (KhJ w0 g2 g3 g4 g5 lo #[.slice A1 x.a.length c1, .slice A2 x.s.length c2, .slice A3 x.p.length c3] q nv (.slice none 0 0) [] w0) := Lib.hid ⟨HC0.out, HQ0.out, Ext.refl _, OwnP.nil _ _, HR0.out, HV0.out⟩
  have HZ0 := Lib.hid (outR_zero z x.p (⟨q.addr, q.key, nv⟩ : Pe))
  clear HC0 HQ0 HR0 HV0
  go_wp2_with (first
    | ((with_reducible refine wpList_load_wordIn ?_ (.tmp 5) ?_ g5 0 nv ?_ ?_ ?_); (exact rfl); (exact rfl); (exact rfl); (exact HVR.out))
    | ((with_reducible refine wpList_eql_word ?_ (.tmp 11) (.tmp 12) ?_ nv 0 HNV.out (by decide) ?_ ?_ ?_); (exact rfl); (exact rfl); (exact rfl); (exact rfl); rw [HZB.out]))
  clear HVR
  go_loopw [8, 9, 10] (fun ov bv iv wr => ∃ k : Nat, k ≤ x.p.length ∧ iv = .int .i64 (k : Nat) ∧ bv = .bool (laidR z x.p q.cod k) ∧ Hid (KhJ w0 g2 g3 g4 g5 lo #[.slice A1 x.a.length c1, .slice A2 x.s.length c2, .slice A3 x.p.length c3] q nv ov (outR z x.p (⟨q.addr, q.key, nv⟩ : Pe) k) wr)) (fun _ _ iv _ => x.p.length - (intOf iv).toNat)
  case atStart => exact ⟨0, by omega, rfl, by rw [show laidR z x.p q.cod 0 = z from HZ0.out.2.1], Lib.hid (by rw [HZ0.out.1]; exact HJ0.out)⟩
  case round =>
    clear HJ0 HZ0
    obtain ⟨k, hk, rfl, rfl, HJ⟩ := hrel
    by_cases hlt : k < x.p.length
    · have hd : decide (k < x.p.length) = true := decide_eq_true hlt
      have hd2 : decide ((k : Int) < (x.p.length : Int)) = true := decide_eq_true (by omega)
      obtain ⟨bb, oo, rfl, hp1, hp2⟩ := HX.out.2.2.at k hlt
      have HP := Lib.hid hp1
      have HMO := Lib.hid hp2
      have HMK := Lib.hid (show (x.p.getD k pz0).key < M256 from hp2.2.1)
      have HLT := Lib.hid (fun (h : (x.p.getD k pz0).cod < q.cod) => show laidR z x.p q.cod k = z ∧ outR z x.p (⟨q.addr, q.key, nv⟩ : Pe) (k + 1) = outR z x.p (⟨q.addr, q.key, nv⟩ : Pe) k ++ [(x.p.getD k pz0)] ∧ laidR z x.p q.cod (k + 1) = z ∧ coldR x.p q.cod (k + 1) = coldR x.p q.cod k from outR_lt (z := z) HRS.out (p := (⟨q.addr, q.key, nv⟩ : Pe)) hlt h)
      have HEQ := Lib.hid (fun (h : (x.p.getD k pz0).cod = q.cod) => show laidR z x.p q.cod k = z ∧ outR z x.p (⟨q.addr, q.key, nv⟩ : Pe) (k + 1) = (if z then outR z x.p (⟨q.addr, q.key, nv⟩ : Pe) k else outR z x.p (⟨q.addr, q.key, nv⟩ : Pe) k ++ [(⟨q.addr, q.key, nv⟩ : Pe)]) ∧ laidR z x.p q.cod (k + 1) = true ∧ coldR x.p q.cod (k + 1) = false from outR_eq (z := z) HRS.out (p := (⟨q.addr, q.key, nv⟩ : Pe)) hlt h)
      have HGT := Lib.hid (fun (h : q.cod < (x.p.getD k pz0).cod) => show outR z x.p (⟨q.addr, q.key, nv⟩ : Pe) (k + 1) = (if laidR z x.p q.cod k then outR z x.p (⟨q.addr, q.key, nv⟩ : Pe) k else outR z x.p (⟨q.addr, q.key, nv⟩ : Pe) k ++ [(⟨q.addr, q.key, nv⟩ : Pe)]) ++ [(x.p.getD k pz0)] ∧ laidR z x.p q.cod (k + 1) = true ∧ coldR x.p q.cod (k + 1) = coldR x.p q.cod k from outR_gt (z := z) (p := (⟨q.addr, q.key, nv⟩ : Pe)) hlt h)
      have HNC := Lib.hid (fun (h : laidR z x.p q.cod k = false) => coldR_not h)
      have HLN := Lib.hid (show (outR z x.p (⟨q.addr, q.key, nv⟩ : Pe) k).length + 1 ≤ 1099511627776 by have := outR_len z x.p (⟨q.addr, q.key, nv⟩ : Pe) k; have := HL4.out; omega)
      have HLN2 := Lib.hid (show (outR z x.p (⟨q.addr, q.key, nv⟩ : Pe) k ++ [(⟨q.addr, q.key, nv⟩ : Pe)]).length + 1 ≤ 1099511627776 by have := outR_len z x.p (⟨q.addr, q.key, nv⟩ : Pe) k; have := HL4.out; rw [List.length_append, List.length_singleton]; omega)
      clear hp1 hp2
      generalize x.p.getD k pz0 = m at *
      obtain ⟨eb, heb⟩ : ∃ b, m.eqS q = b := ⟨_, rfl⟩
      have HEB := Lib.hid heb
      have HEC := Lib.hid (eqS_codS HMK.out HQK.out)
      obtain ⟨nb, hnb⟩ : ∃ b, decide (m.cod < q.cod) = b := ⟨_, rfl⟩
      have HNB := Lib.hid hnb
      have HBE := Lib.hid (fun W => show Calls Try.prog 21 #[.agg (cS m), .agg (cS q)] W (fun e w' => e = .returned (.bool nb) ∧ Ext W w') from hnb ▸ refBefore_any ⟨m.addr, m.key, 0⟩ q W ⟨HMO.out.1, HMO.out.2.1, rfl⟩ HQ.out)
      clear heb hnb
      obtain ⟨A5, c5, e5, _, _⟩ := HJ.out.2.2.2.1.sl
      subst e5
      generalize hls : outR z x.p (⟨q.addr, q.key, nv⟩ : Pe) k = ls at *
      generalize hlb : laidR z x.p q.cod k = lb at *
      clear hls hlb
      have q2 := HJ.out.1.cell 2 _ rfl
      cases lb with
      | true =>
        go_upto_region 6 with fail
        refine wp_named fun a0 ha0 => ?_
        obtain ⟨fr, hfr⟩ : ∃ fr : (Nat → Value) → Act, ∀ V, fr V = (((((((((((((a0.put (some 21) (V 0)).put (some 22) (V 1)).put (some 23) (V 2)).put (some 24) (V 3)).put (some 25) (V 4)).put (some 26) (V 5)).put (some 27) (V 6)).put (some 28) (V 7)).put (some 29) (V 8)).put (some 30) (V 9)).put (some 31) (V 10)).put (some 32) (V 11)).put (some 33) (V 12)) := ⟨fun V => (((((((((((((a0.put (some 21) (V 0)).put (some 22) (V 1)).put (some 23) (V 2)).put (some 24) (V 3)).put (some 25) (V 4)).put (some 26) (V 5)).put (some 27) (V 6)).put (some 28) (V 7)).put (some 29) (V 8)).put (some 30) (V 9)).put (some 31) (V 10)).put (some 32) (V 11)).put (some 33) (V 12)), fun _ => rfl⟩
        rw [ha0] at hfr
        simp only [Act.put, List.setIfInBounds_toArray, List.set_cons_zero, List.set_cons_succ] at hfr
        have HFR := Lib.hid hfr
        clear hfr
        refine wp_region_inv (by kernel_rfl) (by kernel_rfl) (fun L A W => ∃ V : Nat → Value, A = fr V ∧ Vals (fun j => ([some (.bool true), some (.bool false), some (.bool false), some (undef), some (undef), some (undef), some (undef), some (undef), some (undef), some (undef), some (undef), some (undef), some (.bool false)] : List (Option Value)).getD j none) L V ∧ (KhJ w0 g2 g3 g4 g5 lo #[.slice A1 x.a.length c1, .slice A2 x.s.length c2, .slice (some ⟨bb, oo, none⟩) x.p.length c3] q nv (.slice A5 ls.length c5) (ls) W)) ?_ ⟨?_, ?_, ?_, ?_, ?_, ?_, ?_, ?_, ?_, ?_, ?_, ?_, ?_, trivial⟩ ?_
        · refine ⟨fun j => a0.tmps.getD (([21, 22, 23, 24, 25, 26, 27, 28, 29, 30, 31, 32, 33] : List Nat).getD j 0) undef, ?_, Vals.no _ _ _ (far_none _ _ rfl), HJ.out.ext (Ext.refl _).drew⟩
          rw [HFR.out, ha0]
          rfl
        all_goals clear ha0
        · rintro L A W K hL hC hW ⟨V, rfl, HV, s0⟩ hK
          have H := Lib.hid (show ∀ W', Ext W W' → K (fr (upd V 0 (.bool true))) W' from fun W' he => hK _ _ ⟨upd V 0 (.bool true), rfl, HV.up 0 _ (fun x hx => Option.some.inj hx), KhJ.ext s0 he⟩)
          clear hK hC hW hL HV s0
          rw [HFR.out]
          go_wp2_with fail
          show K _ _
          have := H.out _ (Ext.refl _)
          rw [HFR.out] at this
          exact this
        · rintro L A W K hL hC hW ⟨V, rfl, HV, s0⟩ hK
          have e0 : V 0 = .bool true := HV 0 _ rfl (hW 0 rfl)
          have H := Lib.hid (show ∀ W', Ext W W' → K (fr (upd V 1 (.bool false))) W' from fun W' he => hK _ _ ⟨upd V 1 (.bool false), rfl, HV.up 1 _ (fun x hx => Option.some.inj hx), KhJ.ext s0 he⟩)
          have HU := Lib.hid (show (upd V 1 (.bool false)) 0 = .bool true from e0)
          clear hK hC hW hL HV s0
          rw [HFR.out]
          rw [e0]
          clear e0
          go_wp2_with fail
          show K _ _
          have := H.out _ (Ext.refl _)
          rw [HFR.out] at this
          obtain u0 := HU.out
          rw [u0] at this
          exact this
        · rintro L A W K hL hC hW ⟨V, rfl, HV, s0⟩ hK
          have e1 : V 1 = .bool false := HV 1 _ rfl (hW 1 rfl)
          have H := Lib.hid (show ∀ W', Ext W W' → K (fr (upd V 2 (.bool false))) W' from fun W' he => hK _ _ ⟨upd V 2 (.bool false), rfl, HV.up 2 _ (fun x hx => Option.some.inj hx), KhJ.ext s0 he⟩)
          have HU := Lib.hid (show (upd V 2 (.bool false)) 1 = .bool false from e1)
          clear hK hC hW hL HV s0
          rw [HFR.out]
          rw [e1]
          clear e1
          go_wp2_with fail
          show K _ _
          have := H.out _ (Ext.refl _)
          rw [HFR.out] at this
          obtain u1 := HU.out
          rw [u1] at this
          exact this
        · rintro L A W K hL hC hW ⟨V, rfl, HV, s0⟩ hK
          have e2 : V 2 = .bool false := HV 2 _ rfl (hW 2 rfl)
          have H := Lib.hid (show ∀ W', Ext W W' → K (fr (upd V 3 (undef))) W' from fun W' he => hK _ _ ⟨upd V 3 (undef), rfl, HV.up 3 _ (fun x hx => Option.some.inj hx), KhJ.ext s0 he⟩)
          have HU := Lib.hid (show (upd V 3 (undef)) 2 = .bool false from e2)
          clear hK hC hW hL HV s0
          rw [HFR.out]
          rw [e2]
          clear e2
          go_wp2_with fail
          show K _ _
          have := H.out _ (Ext.refl _)
          rw [HFR.out] at this
          obtain u2 := HU.out
          rw [u2] at this
          exact this
        · rintro L A W K hL hC hW ⟨V, rfl, HV, s0⟩ hK
          have e2 : V 2 = .bool false := HV 2 _ rfl (hW 2 rfl)
          have e3 : V 3 = undef := HV 3 _ rfl (hW 3 rfl)
          have H := Lib.hid (show ∀ W', Ext W W' → K (fr (upd V 4 (undef))) W' from fun W' he => hK _ _ ⟨upd V 4 (undef), rfl, HV.up 4 _ (fun x hx => Option.some.inj hx), KhJ.ext s0 he⟩)
          have HU := Lib.hid (show (upd V 4 (undef)) 2 = .bool false ∧ (upd V 4 (undef)) 3 = undef from ⟨e2, e3⟩)
          clear hK hC hW hL HV s0
          rw [HFR.out]
          rw [e2, e3]
          clear e2 e3
          go_wp2_with fail
          show K _ _
          have := H.out _ (Ext.refl _)
          rw [HFR.out] at this
          obtain ⟨u2, u3⟩ := HU.out
          rw [u2, u3] at this
          exact this
        · rintro L A W K hL hC hW ⟨V, rfl, HV, s0⟩ hK
          have e2 : V 2 = .bool false := HV 2 _ rfl (hW 2 rfl)
          have H := Lib.hid (show ∀ W', Ext W W' → K (fr (upd V 5 (undef))) W' from fun W' he => hK _ _ ⟨upd V 5 (undef), rfl, HV.up 5 _ (fun x hx => Option.some.inj hx), KhJ.ext s0 he⟩)
          have HU := Lib.hid (show (upd V 5 (undef)) 2 = .bool false from e2)
          clear hK hC hW hL HV s0
          rw [HFR.out]
          rw [e2]
          clear e2
          go_wp2_with fail
          show K _ _
          have := H.out _ (Ext.refl _)
          rw [HFR.out] at this
          obtain u2 := HU.out
          rw [u2] at this
          exact this
        · rintro L A W K hL hC hW ⟨V, rfl, HV, s0⟩ hK
          have e2 : V 2 = .bool false := HV 2 _ rfl (hW 2 rfl)
          have e4 : V 4 = undef := HV 4 _ rfl (hW 4 rfl)
          have e5 : V 5 = undef := HV 5 _ rfl (hW 5 rfl)
          have H := Lib.hid (show ∀ W', Ext W W' → K (fr (upd V 6 (undef))) W' from fun W' he => hK _ _ ⟨upd V 6 (undef), rfl, HV.up 6 _ (fun x hx => Option.some.inj hx), KhJ.ext s0 he⟩)
          have HU := Lib.hid (show (upd V 6 (undef)) 2 = .bool false ∧ (upd V 6 (undef)) 4 = undef ∧ (upd V 6 (undef)) 5 = undef from ⟨e2, e4, e5⟩)
          clear hK hC hW hL HV s0
          rw [HFR.out]
          rw [e2, e4, e5]
          clear e2 e4 e5
          go_wp2_with fail
          show K _ _
          have := H.out _ (Ext.refl _)
          rw [HFR.out] at this
          obtain ⟨u2, u4, u5⟩ := HU.out
          rw [u2, u4, u5] at this
          exact this
        · rintro L A W K hL hC hW ⟨V, rfl, HV, s0⟩ hK
          have e2 : V 2 = .bool false := HV 2 _ rfl (hW 2 rfl)
          have e6 : V 6 = undef := HV 6 _ rfl (hW 6 rfl)
          have H := Lib.hid (show ∀ W', Ext W W' → K (fr (upd V 7 (undef))) W' from fun W' he => hK _ _ ⟨upd V 7 (undef), rfl, HV.up 7 _ (fun x hx => Option.some.inj hx), KhJ.ext s0 he⟩)
          have HU := Lib.hid (show (upd V 7 (undef)) 2 = .bool false ∧ (upd V 7 (undef)) 6 = undef from ⟨e2, e6⟩)
          clear hK hC hW hL HV s0
          rw [HFR.out]
          rw [e2, e6]
          clear e2 e6
          go_wp2_with fail
          show K _ _
          have := H.out _ (Ext.refl _)
          rw [HFR.out] at this
          obtain ⟨u2, u6⟩ := HU.out
          rw [u2, u6] at this
          exact this
        · rintro L A W K hL hC hW ⟨V, rfl, HV, s0⟩ hK
          have e2 : V 2 = .bool false := HV 2 _ rfl (hW 2 rfl)
          have e7 : V 7 = undef := HV 7 _ rfl (hW 7 rfl)
          have H := Lib.hid (show ∀ W', Ext W W' → K (fr (upd V 8 (undef))) W' from fun W' he => hK _ _ ⟨upd V 8 (undef), rfl, HV.up 8 _ (fun x hx => Option.some.inj hx), KhJ.ext s0 he⟩)
          have HU := Lib.hid (show (upd V 8 (undef)) 2 = .bool false ∧ (upd V 8 (undef)) 7 = undef from ⟨e2, e7⟩)
          clear hK hC hW hL HV s0
          rw [HFR.out]
          rw [e2, e7]
          clear e2 e7
          go_wp2_with fail
          show K _ _
          have := H.out _ (Ext.refl _)
          rw [HFR.out] at this
          obtain ⟨u2, u7⟩ := HU.out
          rw [u2, u7] at this
          exact this
        · rintro L A W K hL hC hW ⟨V, rfl, HV, s0⟩ hK
          have e2 : V 2 = .bool false := HV 2 _ rfl (hW 2 rfl)
          have H := Lib.hid (show ∀ W', Ext W W' → K (fr (upd V 9 (undef))) W' from fun W' he => hK _ _ ⟨upd V 9 (undef), rfl, HV.up 9 _ (fun x hx => Option.some.inj hx), KhJ.ext s0 he⟩)
          have HU := Lib.hid (show (upd V 9 (undef)) 2 = .bool false from e2)
          clear hK hC hW hL HV s0
          rw [HFR.out]
          rw [e2]
          clear e2
          go_wp2_with fail
          show K _ _
          have := H.out _ (Ext.refl _)
          rw [HFR.out] at this
          obtain u2 := HU.out
          rw [u2] at this
          exact this
        · rintro L A W K hL hC hW ⟨V, rfl, HV, s0⟩ hK
          have e2 : V 2 = .bool false := HV 2 _ rfl (hW 2 rfl)
          have e8 : V 8 = undef := HV 8 _ rfl (hW 8 rfl)
          have e9 : V 9 = undef := HV 9 _ rfl (hW 9 rfl)
          have H := Lib.hid (show ∀ W', Ext W W' → K (fr (upd V 10 (undef))) W' from fun W' he => hK _ _ ⟨upd V 10 (undef), rfl, HV.up 10 _ (fun x hx => Option.some.inj hx), KhJ.ext s0 he⟩)
          have HU := Lib.hid (show (upd V 10 (undef)) 2 = .bool false ∧ (upd V 10 (undef)) 8 = undef ∧ (upd V 10 (undef)) 9 = undef from ⟨e2, e8, e9⟩)
          clear hK hC hW hL HV s0
          rw [HFR.out]
          rw [e2, e8, e9]
          clear e2 e8 e9
          go_wp2_with fail
          show K _ _
          have := H.out _ (Ext.refl _)
          rw [HFR.out] at this
          obtain ⟨u2, u8, u9⟩ := HU.out
          rw [u2, u8, u9] at this
          exact this
        · rintro L A W K hL hC hW ⟨V, rfl, HV, s0⟩ hK
          have e2 : V 2 = .bool false := HV 2 _ rfl (hW 2 rfl)
          have e10 : V 10 = undef := HV 10 _ rfl (hW 10 rfl)
          have H := Lib.hid (show ∀ W', Ext W W' → K (fr (upd V 11 (undef))) W' from fun W' he => hK _ _ ⟨upd V 11 (undef), rfl, HV.up 11 _ (fun x hx => Option.some.inj hx), KhJ.ext s0 he⟩)
          have HU := Lib.hid (show (upd V 11 (undef)) 2 = .bool false ∧ (upd V 11 (undef)) 10 = undef from ⟨e2, e10⟩)
          clear hK hC hW hL HV s0
          rw [HFR.out]
          rw [e2, e10]
          clear e2 e10
          go_wp2_with fail
          show K _ _
          have := H.out _ (Ext.refl _)
          rw [HFR.out] at this
          obtain ⟨u2, u10⟩ := HU.out
          rw [u2, u10] at this
          exact this
        · rintro L A W K hL hC hW ⟨V, rfl, HV, s0⟩ hK
          have e2 : V 2 = .bool false := HV 2 _ rfl (hW 2 rfl)
          have e11 : V 11 = undef := HV 11 _ rfl (hW 11 rfl)
          have H := Lib.hid (show ∀ W', Ext W W' → K (fr (upd V 12 (.bool false))) W' from fun W' he => hK _ _ ⟨upd V 12 (.bool false), rfl, HV.up 12 _ (fun x hx => Option.some.inj hx), KhJ.ext s0 he⟩)
          have HU := Lib.hid (show (upd V 12 (.bool false)) 2 = .bool false ∧ (upd V 12 (.bool false)) 11 = undef from ⟨e2, e11⟩)
          clear hK hC hW hL HV s0
          rw [HFR.out]
          rw [e2, e11]
          clear e2 e11
          go_wp2_with fail
          show K _ _
          have := H.out _ (Ext.refl _)
          rw [HFR.out] at this
          obtain ⟨u2, u11⟩ := HU.out
          rw [u2, u11] at this
          exact this
        · rintro L A W hL ⟨V, rfl, HV, s0⟩
          have e0 : V 0 = .bool true := HV 0 _ rfl (hL 0 (by simp))
          have e1 : V 1 = .bool false := HV 1 _ rfl (hL 1 (by simp))
          have e2 : V 2 = .bool false := HV 2 _ rfl (hL 2 (by simp))
          have e3 : V 3 = undef := HV 3 _ rfl (hL 3 (by simp))
          have e4 : V 4 = undef := HV 4 _ rfl (hL 4 (by simp))
          have e5 : V 5 = undef := HV 5 _ rfl (hL 5 (by simp))
          have e6 : V 6 = undef := HV 6 _ rfl (hL 6 (by simp))
          have e7 : V 7 = undef := HV 7 _ rfl (hL 7 (by simp))
          have e8 : V 8 = undef := HV 8 _ rfl (hL 8 (by simp))
          have e9 : V 9 = undef := HV 9 _ rfl (hL 9 (by simp))
          have e10 : V 10 = undef := HV 10 _ rfl (hL 10 (by simp))
          have e11 : V 11 = undef := HV 11 _ rfl (hL 11 (by simp))
          have e12 : V 12 = .bool false := HV 12 _ rfl (hL 12 (by simp))
          have hA := s0
          rw [HFR.out]
          rw [e0, e1, e2, e3, e4, e5, e6, e7, e8, e9, e10, e11, e12]
          clear hL HV HFR e0 e1 e2 e3 e4 e5 e6 e7 e8 e9 e10 e11 e12 s0
          have HJ1 := Lib.hid hA
          clear hA
          go_upto_region 9 with fail
          refine wp_named fun a0 ha0 => ?_
          obtain ⟨fr, hfr⟩ : ∃ fr : (Nat → Value) → Act, ∀ V, fr V = ((((((((a0.put (some 40) (V 0)).put (some 41) (V 1)).put (some 42) (V 2)).put (some 43) (V 3)).put (some 44) (V 4)).put (some 45) (V 5)).put (some 46) (V 6)).put (some 47) (V 7)) := ⟨fun V => ((((((((a0.put (some 40) (V 0)).put (some 41) (V 1)).put (some 42) (V 2)).put (some 43) (V 3)).put (some 44) (V 4)).put (some 45) (V 5)).put (some 46) (V 6)).put (some 47) (V 7)), fun _ => rfl⟩
          rw [ha0] at hfr
          simp only [Act.put, List.setIfInBounds_toArray, List.set_cons_zero, List.set_cons_succ] at hfr
          have HFR := Lib.hid hfr
          clear hfr
          refine wp_region_inv (by kernel_rfl) (by kernel_rfl) (fun L A W => ∃ V : Nat → Value, A = fr V ∧ Vals (fun j => ([some (.pointer (some ⟨g2, 2, none⟩)), some (.slice (some ⟨bb, oo, none⟩) x.p.length c3), some (.int .i64 (k : Nat)), some (.pointer (some ⟨bb, oo + k * 9, none⟩)), some (.pointer (some ⟨bb, oo + k * 9, none⟩)), some (.agg (cS m)), some (.agg (cS q)), some (.bool (!eb))] : List (Option Value)).getD j none) L V ∧ (KhJ w0 g2 g3 g4 g5 lo #[.slice A1 x.a.length c1, .slice A2 x.s.length c2, .slice (some ⟨bb, oo, none⟩) x.p.length c3] q nv (.slice A5 ls.length c5) (ls) W)) ?_ ⟨?_, ?_, ?_, ?_, ?_, ?_, ?_, ?_, trivial⟩ ?_
          · refine ⟨fun j => a0.tmps.getD (([40, 41, 42, 43, 44, 45, 46, 47] : List Nat).getD j 0) undef, ?_, Vals.no _ _ _ (far_none _ _ rfl), HJ1.out.ext (Ext.refl _).drew⟩
            rw [HFR.out, ha0]
            rfl
          all_goals clear ha0
          · rintro L A W K hL hC hW ⟨V, rfl, HV, s0⟩ hK
            have H := Lib.hid (show ∀ W', Ext W W' → K (fr (upd V 0 (.pointer (some ⟨g2, 2, none⟩)))) W' from fun W' he => hK _ _ ⟨upd V 0 (.pointer (some ⟨g2, 2, none⟩)), rfl, HV.up 0 _ (fun x hx => Option.some.inj hx), KhJ.ext s0 he⟩)
            clear hK hC hW hL HV s0
            rw [HFR.out]
            go_wp2_with fail
            show K _ _
            have := H.out _ (Ext.refl _)
            rw [HFR.out] at this
            exact this
          · rintro L A W K hL hC hW ⟨V, rfl, HV, s0⟩ hK
            have e0 : V 0 = .pointer (some ⟨g2, 2, none⟩) := HV 0 _ rfl (hW 0 rfl)
            have hB := s0
            have H := Lib.hid (show ∀ W', Ext W W' → K (fr (upd V 1 (.slice (some ⟨bb, oo, none⟩) x.p.length c3))) W' from fun W' he => hK _ _ ⟨upd V 1 (.slice (some ⟨bb, oo, none⟩) x.p.length c3), rfl, HV.up 1 _ (fun x hx => Option.some.inj hx), KhJ.ext s0 he⟩)
            have HU := Lib.hid (show (upd V 1 (.slice (some ⟨bb, oo, none⟩) x.p.length c3)) 0 = .pointer (some ⟨g2, 2, none⟩) from e0)
            clear hK hC hW hL HV s0
            rw [HFR.out]
            rw [e0]
            clear e0
            have qq := hB.1.cell 2 _ rfl
            clear hB
            go_wp2_with fail
            show K _ _
            have := H.out _ (Ext.refl _)
            rw [HFR.out] at this
            obtain u0 := HU.out
            rw [u0] at this
            exact this
          · rintro L A W K hL hC hW ⟨V, rfl, HV, s0⟩ hK
            have H := Lib.hid (show ∀ W', Ext W W' → K (fr (upd V 2 (.int .i64 (k : Nat)))) W' from fun W' he => hK _ _ ⟨upd V 2 (.int .i64 (k : Nat)), rfl, HV.up 2 _ (fun x hx => Option.some.inj hx), KhJ.ext s0 he⟩)
            clear hK hC hW hL HV s0
            rw [HFR.out]
            go_wp2_with fail
            show K _ _
            have := H.out _ (Ext.refl _)
            rw [HFR.out] at this
            exact this
          · rintro L A W K hL hC hW ⟨V, rfl, HV, s0⟩ hK
            have e1 : V 1 = .slice (some ⟨bb, oo, none⟩) x.p.length c3 := HV 1 _ rfl (hW 1 rfl)
            have e2 : V 2 = .int .i64 (k : Nat) := HV 2 _ rfl (hW 2 rfl)
            have hB := s0
            have H := Lib.hid (show ∀ W', Ext W W' → K (fr (upd V 3 (.pointer (some ⟨bb, oo + k * 9, none⟩)))) W' from fun W' he => hK _ _ ⟨upd V 3 (.pointer (some ⟨bb, oo + k * 9, none⟩)), rfl, HV.up 3 _ (fun x hx => Option.some.inj hx), KhJ.ext s0 he⟩)
            have HU := Lib.hid (show (upd V 3 (.pointer (some ⟨bb, oo + k * 9, none⟩))) 1 = .slice (some ⟨bb, oo, none⟩) x.p.length c3 ∧ (upd V 3 (.pointer (some ⟨bb, oo + k * 9, none⟩))) 2 = .int .i64 (k : Nat) from ⟨e1, e2⟩)
            clear hK hC hW hL HV s0
            rw [HFR.out]
            rw [e1, e2]
            clear e1 e2
            clear hB
            go_wp2_with fail
            show K _ _
            have := H.out _ (Ext.refl _)
            rw [HFR.out] at this
            obtain ⟨u1, u2⟩ := HU.out
            rw [u1, u2] at this
            exact this
          · rintro L A W K hL hC hW ⟨V, rfl, HV, s0⟩ hK
            have e3 : V 3 = .pointer (some ⟨bb, oo + k * 9, none⟩) := HV 3 _ rfl (hW 3 rfl)
            have H := Lib.hid (show ∀ W', Ext W W' → K (fr (upd V 4 (.pointer (some ⟨bb, oo + k * 9, none⟩)))) W' from fun W' he => hK _ _ ⟨upd V 4 (.pointer (some ⟨bb, oo + k * 9, none⟩)), rfl, HV.up 4 _ (fun x hx => Option.some.inj hx), KhJ.ext s0 he⟩)
            have HU := Lib.hid (show (upd V 4 (.pointer (some ⟨bb, oo + k * 9, none⟩))) 3 = .pointer (some ⟨bb, oo + k * 9, none⟩) from e3)
            clear hK hC hW hL HV s0
            rw [HFR.out]
            rw [e3]
            clear e3
            go_wp2_with fail
            show K _ _
            have := H.out _ (Ext.refl _)
            rw [HFR.out] at this
            obtain u3 := HU.out
            rw [u3] at this
            exact this
          · rintro L A W K hL hC hW ⟨V, rfl, HV, s0⟩ hK
            have e4 : V 4 = .pointer (some ⟨bb, oo + k * 9, none⟩) := HV 4 _ rfl (hW 4 rfl)
            have hB := s0
            have H := Lib.hid (show ∀ W', Ext W W' → K (fr (upd V 5 (.agg (cS m)))) W' from fun W' he => hK _ _ ⟨upd V 5 (.agg (cS m)), rfl, HV.up 5 _ (fun x hx => Option.some.inj hx), KhJ.ext s0 he⟩)
            have HU := Lib.hid (show (upd V 5 (.agg (cS m))) 4 = .pointer (some ⟨bb, oo + k * 9, none⟩) from e4)
            clear hK hC hW hL HV s0
            rw [HFR.out]
            rw [e4]
            clear e4
            have HWD := Lib.hid (cP_spot (rangeK_ext HP.out (HE0.out.trans hB.2.2.1)))
            clear hB
            refine wpList_loadS rfl (.tmp 44) rfl bb (oo + k * 9) m rfl HWD.out ?_
            show K _ _
            have := H.out _ (Ext.refl _)
            rw [HFR.out] at this
            obtain u4 := HU.out
            rw [u4] at this
            exact this
          · rintro L A W K hL hC hW ⟨V, rfl, HV, s0⟩ hK
            have hB := s0
            have H := Lib.hid (show ∀ W', Ext W W' → K (fr (upd V 6 (.agg (cS q)))) W' from fun W' he => hK _ _ ⟨upd V 6 (.agg (cS q)), rfl, HV.up 6 _ (fun x hx => Option.some.inj hx), KhJ.ext s0 he⟩)
            clear hK hC hW hL HV s0
            rw [HFR.out]
            have HWD := Lib.hid (Cs.rg hB.2.1)
            clear hB
            refine wpList_loadS rfl (.tmp 4) rfl g3 0 q rfl HWD.out ?_
            show K _ _
            have := H.out _ (Ext.refl _)
            rw [HFR.out] at this
            exact this
          · rintro L A W K hL hC hW ⟨V, rfl, HV, s0⟩ hK
            have e5 : V 5 = .agg (cS m) := HV 5 _ rfl (hW 5 rfl)
            have e6 : V 6 = .agg (cS q) := HV 6 _ rfl (hW 6 rfl)
            have hB := s0
            have H := Lib.hid (show ∀ W', Ext W W' → K (fr (upd V 7 (.bool (!eb)))) W' from fun W' he => hK _ _ ⟨upd V 7 (.bool (!eb)), rfl, HV.up 7 _ (fun x hx => Option.some.inj hx), KhJ.ext s0 he⟩)
            have HU := Lib.hid (show (upd V 7 (.bool (!eb))) 5 = .agg (cS m) ∧ (upd V 7 (.bool (!eb))) 6 = .agg (cS q) from ⟨e5, e6⟩)
            clear hK hC hW hL HV s0
            rw [HFR.out]
            rw [e5, e6]
            clear e5 e6
            refine wpList_neqS rfl (.tmp 45) (.tmp 46) rfl m q HMK.out HQK.out rfl rfl ?_
            rw [HEB.out]
            show K _ _
            have := H.out _ (Ext.refl _)
            rw [HFR.out] at this
            obtain ⟨u5, u6⟩ := HU.out
            rw [u5, u6] at this
            exact this
          · rintro L A W hL ⟨V, rfl, HV, s0⟩
            have e0 : V 0 = .pointer (some ⟨g2, 2, none⟩) := HV 0 _ rfl (hL 0 (by simp))
            have e1 : V 1 = .slice (some ⟨bb, oo, none⟩) x.p.length c3 := HV 1 _ rfl (hL 1 (by simp))
            have e2 : V 2 = .int .i64 (k : Nat) := HV 2 _ rfl (hL 2 (by simp))
            have e3 : V 3 = .pointer (some ⟨bb, oo + k * 9, none⟩) := HV 3 _ rfl (hL 3 (by simp))
            have e4 : V 4 = .pointer (some ⟨bb, oo + k * 9, none⟩) := HV 4 _ rfl (hL 4 (by simp))
            have e5 : V 5 = .agg (cS m) := HV 5 _ rfl (hL 5 (by simp))
            have e6 : V 6 = .agg (cS q) := HV 6 _ rfl (hL 6 (by simp))
            have e7 : V 7 = .bool (!eb) := HV 7 _ rfl (hL 7 (by simp))
            have hA := s0
            rw [HFR.out]
            rw [e0, e1, e2, e3, e4, e5, e6, e7]
            clear hL HV HFR e0 e1 e2 e3 e4 e5 e6 e7 s0
            have HJ2 := Lib.hid hA
            clear hA
            cases eb with
            | true =>
              have HC := Lib.hid (HEQ.out (of_decide_eq_true (by rw [← HEC.out, HEB.out])))
              have HZT := Lib.hid (show z = true from HC.out.1.symm)
              have HCO := Lib.hid (show outR z x.p (⟨q.addr, q.key, nv⟩ : Pe) (k + 1) = ls by rw [HC.out.2.1, HZT.out]; rfl)
              go_wp2_with fail
              exact ⟨⟨k + 1, by omega, by go_num, by rw [HC.out.2.2.1], Lib.hid (by rw [HCO.out]; exact HJ2.out)⟩, by simp [intOf]; omega⟩
            | false =>
              have hne : m.cod ≠ q.cod := of_decide_eq_false (by rw [← HEC.out, HEB.out])
              have HC := Lib.hid (show outR z x.p (⟨q.addr, q.key, nv⟩ : Pe) (k + 1) = ls ++ [m] ∧ laidR z x.p q.cod (k + 1) = true by
                rcases Nat.lt_or_ge m.cod q.cod with h | h
                · have h1 := HLT.out h
                  exact ⟨h1.2.1, by rw [h1.2.2.1]; exact h1.1.symm⟩
                · have h1 := HGT.out (by omega)
                  exact ⟨h1.1, h1.2.1⟩)
              clear hne
              have HPW := Lib.hid (rangeK_ext HP.out (HE0.out.trans HJ2.out.2.2.1))
              have HLOW := Lib.hid (show lo ≤ W.heap.size by rw [HLO.out]; exact HJ2.out.2.2.1.size)
              have qq := HJ2.out.1.cell 2 _ rfl
              go_wp2_with (first
                | ((with_reducible refine wpList_loadP ?_ (.tmp 52) ?_ bb (oo + k * 9) m ?_ ?_ ?_); (exact rfl); (exact rfl); (exact rfl); (exact HPW.out))
                | ((with_reducible refine wpList_build_one ?_ (.tmp 53) 24 69 ?_ Try.underlying24 _ 9 72 infoP3 (by decide) (by decide) (cP m) rfl ?_ ?_); (exact rfl); (exact rfl); (exact rfl))
                | (at_builtin; refine wpList_append_row ?_ (.tmp 48) (.tmp 54) 24 rfl lo 69 Try.underlying24 _ 9 72 infoP3 rfl (by decide) (.slice A5 ls.length c5) (ls).length (fP (ls)) rfl (own_ext HJ2.out.2.2.2.1.1 ((Ext.refl _).alloc _)) (.slice (some ⟨W.heap.size, 0, none⟩) 1 1) 1 (cP m).toList rfl (rs_oneP (Cs.new _ _ _ _ rfl)) (cP_ones m) HLN.out (by decide) (Nat.le_trans HLOW.out (by rw [World.size_alloc]; exact Nat.le_succ _)) ?_; (exact rfl); intro v5 w5 o5 g5 b5; have O5 := Lib.hid (OwnP.add HJ2.out.2.2.2.1.2 HMO.out o5); have G5 := Lib.hid g5; clear o5 g5 b5))
              exact ⟨⟨k + 1, by omega, by go_num, by rw [HC.out.2], Lib.hid (by rw [HC.out.1]; exact (HJ2.out.ext ((Ext.refl _).alloc (.cells (cP m) 69))).app HG.out G5.out O5.out)⟩, by simp [intOf]; omega⟩
      | false =>
        go_upto_region 6 with fail
        refine wp_named fun a0 ha0 => ?_
        obtain ⟨fr, hfr⟩ : ∃ fr : (Nat → Value) → Act, ∀ V, fr V = (((((((((((((a0.put (some 21) (V 0)).put (some 22) (V 1)).put (some 23) (V 2)).put (some 24) (V 3)).put (some 25) (V 4)).put (some 26) (V 5)).put (some 27) (V 6)).put (some 28) (V 7)).put (some 29) (V 8)).put (some 30) (V 9)).put (some 31) (V 10)).put (some 32) (V 11)).put (some 33) (V 12)) := ⟨fun V => (((((((((((((a0.put (some 21) (V 0)).put (some 22) (V 1)).put (some 23) (V 2)).put (some 24) (V 3)).put (some 25) (V 4)).put (some 26) (V 5)).put (some 27) (V 6)).put (some 28) (V 7)).put (some 29) (V 8)).put (some 30) (V 9)).put (some 31) (V 10)).put (some 32) (V 11)).put (some 33) (V 12)), fun _ => rfl⟩
        rw [ha0] at hfr
        simp only [Act.put, List.setIfInBounds_toArray, List.set_cons_zero, List.set_cons_succ] at hfr
        have HFR := Lib.hid hfr
        clear hfr
        refine wp_region_inv (by kernel_rfl) (by kernel_rfl) (fun L A W => ∃ V : Nat → Value, A = fr V ∧ Vals (fun j => ([some (.bool false), some (.bool true), some (.bool true), some (.pointer (some ⟨g2, 2, none⟩)), some (.slice (some ⟨bb, oo, none⟩) x.p.length c3), some (.int .i64 (k : Nat)), some (.pointer (some ⟨bb, oo + k * 9, none⟩)), some (.pointer (some ⟨bb, oo + k * 9, none⟩)), some (.agg (cS m)), some (.agg (cS q)), some (.bool nb), some (.bool (!nb)), some (.bool (!nb))] : List (Option Value)).getD j none) L V ∧ (KhJ w0 g2 g3 g4 g5 lo #[.slice A1 x.a.length c1, .slice A2 x.s.length c2, .slice (some ⟨bb, oo, none⟩) x.p.length c3] q nv (.slice A5 ls.length c5) (ls) W)) ?_ ⟨?_, ?_, ?_, ?_, ?_, ?_, ?_, ?_, ?_, ?_, ?_, ?_, ?_, trivial⟩ ?_
        · refine ⟨fun j => a0.tmps.getD (([21, 22, 23, 24, 25, 26, 27, 28, 29, 30, 31, 32, 33] : List Nat).getD j 0) undef, ?_, Vals.no _ _ _ (far_none _ _ rfl), HJ.out.ext (Ext.refl _).drew⟩
          rw [HFR.out, ha0]
          rfl
        all_goals clear ha0
        · rintro L A W K hL hC hW ⟨V, rfl, HV, s0⟩ hK
          have H := Lib.hid (show ∀ W', Ext W W' → K (fr (upd V 0 (.bool false))) W' from fun W' he => hK _ _ ⟨upd V 0 (.bool false), rfl, HV.up 0 _ (fun x hx => Option.some.inj hx), KhJ.ext s0 he⟩)
          clear hK hC hW hL HV s0
          rw [HFR.out]
          go_wp2_with fail
          show K _ _
          have := H.out _ (Ext.refl _)
          rw [HFR.out] at this
          exact this
        · rintro L A W K hL hC hW ⟨V, rfl, HV, s0⟩ hK
          have e0 : V 0 = .bool false := HV 0 _ rfl (hW 0 rfl)
          have H := Lib.hid (show ∀ W', Ext W W' → K (fr (upd V 1 (.bool true))) W' from fun W' he => hK _ _ ⟨upd V 1 (.bool true), rfl, HV.up 1 _ (fun x hx => Option.some.inj hx), KhJ.ext s0 he⟩)
          have HU := Lib.hid (show (upd V 1 (.bool true)) 0 = .bool false from e0)
          clear hK hC hW hL HV s0
          rw [HFR.out]
          rw [e0]
          clear e0
          go_wp2_with fail
          show K _ _
          have := H.out _ (Ext.refl _)
          rw [HFR.out] at this
          obtain u0 := HU.out
          rw [u0] at this
          exact this
        · rintro L A W K hL hC hW ⟨V, rfl, HV, s0⟩ hK
          have e1 : V 1 = .bool true := HV 1 _ rfl (hW 1 rfl)
          have H := Lib.hid (show ∀ W', Ext W W' → K (fr (upd V 2 (.bool true))) W' from fun W' he => hK _ _ ⟨upd V 2 (.bool true), rfl, HV.up 2 _ (fun x hx => Option.some.inj hx), KhJ.ext s0 he⟩)
          have HU := Lib.hid (show (upd V 2 (.bool true)) 1 = .bool true from e1)
          clear hK hC hW hL HV s0
          rw [HFR.out]
          rw [e1]
          clear e1
          go_wp2_with fail
          show K _ _
          have := H.out _ (Ext.refl _)
          rw [HFR.out] at this
          obtain u1 := HU.out
          rw [u1] at this
          exact this
        · rintro L A W K hL hC hW ⟨V, rfl, HV, s0⟩ hK
          have e2 : V 2 = .bool true := HV 2 _ rfl (hW 2 rfl)
          have H := Lib.hid (show ∀ W', Ext W W' → K (fr (upd V 3 (.pointer (some ⟨g2, 2, none⟩)))) W' from fun W' he => hK _ _ ⟨upd V 3 (.pointer (some ⟨g2, 2, none⟩)), rfl, HV.up 3 _ (fun x hx => Option.some.inj hx), KhJ.ext s0 he⟩)
          have HU := Lib.hid (show (upd V 3 (.pointer (some ⟨g2, 2, none⟩))) 2 = .bool true from e2)
          clear hK hC hW hL HV s0
          rw [HFR.out]
          rw [e2]
          clear e2
          go_wp2_with fail
          show K _ _
          have := H.out _ (Ext.refl _)
          rw [HFR.out] at this
          obtain u2 := HU.out
          rw [u2] at this
          exact this
        · rintro L A W K hL hC hW ⟨V, rfl, HV, s0⟩ hK
          have e2 : V 2 = .bool true := HV 2 _ rfl (hW 2 rfl)
          have e3 : V 3 = .pointer (some ⟨g2, 2, none⟩) := HV 3 _ rfl (hW 3 rfl)
          have hB := s0
          have H := Lib.hid (show ∀ W', Ext W W' → K (fr (upd V 4 (.slice (some ⟨bb, oo, none⟩) x.p.length c3))) W' from fun W' he => hK _ _ ⟨upd V 4 (.slice (some ⟨bb, oo, none⟩) x.p.length c3), rfl, HV.up 4 _ (fun x hx => Option.some.inj hx), KhJ.ext s0 he⟩)
          have HU := Lib.hid (show (upd V 4 (.slice (some ⟨bb, oo, none⟩) x.p.length c3)) 2 = .bool true ∧ (upd V 4 (.slice (some ⟨bb, oo, none⟩) x.p.length c3)) 3 = .pointer (some ⟨g2, 2, none⟩) from ⟨e2, e3⟩)
          clear hK hC hW hL HV s0
          rw [HFR.out]
          rw [e2, e3]
          clear e2 e3
          have qq := hB.1.cell 2 _ rfl
          clear hB
          go_wp2_with fail
          show K _ _
          have := H.out _ (Ext.refl _)
          rw [HFR.out] at this
          obtain ⟨u2, u3⟩ := HU.out
          rw [u2, u3] at this
          exact this
        · rintro L A W K hL hC hW ⟨V, rfl, HV, s0⟩ hK
          have e2 : V 2 = .bool true := HV 2 _ rfl (hW 2 rfl)
          have H := Lib.hid (show ∀ W', Ext W W' → K (fr (upd V 5 (.int .i64 (k : Nat)))) W' from fun W' he => hK _ _ ⟨upd V 5 (.int .i64 (k : Nat)), rfl, HV.up 5 _ (fun x hx => Option.some.inj hx), KhJ.ext s0 he⟩)
          have HU := Lib.hid (show (upd V 5 (.int .i64 (k : Nat))) 2 = .bool true from e2)
          clear hK hC hW hL HV s0
          rw [HFR.out]
          rw [e2]
          clear e2
          go_wp2_with fail
          show K _ _
          have := H.out _ (Ext.refl _)
          rw [HFR.out] at this
          obtain u2 := HU.out
          rw [u2] at this
          exact this
        · rintro L A W K hL hC hW ⟨V, rfl, HV, s0⟩ hK
          have e2 : V 2 = .bool true := HV 2 _ rfl (hW 2 rfl)
          have e4 : V 4 = .slice (some ⟨bb, oo, none⟩) x.p.length c3 := HV 4 _ rfl (hW 4 rfl)
          have e5 : V 5 = .int .i64 (k : Nat) := HV 5 _ rfl (hW 5 rfl)
          have hB := s0
          have H := Lib.hid (show ∀ W', Ext W W' → K (fr (upd V 6 (.pointer (some ⟨bb, oo + k * 9, none⟩)))) W' from fun W' he => hK _ _ ⟨upd V 6 (.pointer (some ⟨bb, oo + k * 9, none⟩)), rfl, HV.up 6 _ (fun x hx => Option.some.inj hx), KhJ.ext s0 he⟩)
          have HU := Lib.hid (show (upd V 6 (.pointer (some ⟨bb, oo + k * 9, none⟩))) 2 = .bool true ∧ (upd V 6 (.pointer (some ⟨bb, oo + k * 9, none⟩))) 4 = .slice (some ⟨bb, oo, none⟩) x.p.length c3 ∧ (upd V 6 (.pointer (some ⟨bb, oo + k * 9, none⟩))) 5 = .int .i64 (k : Nat) from ⟨e2, e4, e5⟩)
          clear hK hC hW hL HV s0
          rw [HFR.out]
          rw [e2, e4, e5]
          clear e2 e4 e5
          clear hB
          go_wp2_with fail
          show K _ _
          have := H.out _ (Ext.refl _)
          rw [HFR.out] at this
          obtain ⟨u2, u4, u5⟩ := HU.out
          rw [u2, u4, u5] at this
          exact this
        · rintro L A W K hL hC hW ⟨V, rfl, HV, s0⟩ hK
          have e2 : V 2 = .bool true := HV 2 _ rfl (hW 2 rfl)
          have e6 : V 6 = .pointer (some ⟨bb, oo + k * 9, none⟩) := HV 6 _ rfl (hW 6 rfl)
          have H := Lib.hid (show ∀ W', Ext W W' → K (fr (upd V 7 (.pointer (some ⟨bb, oo + k * 9, none⟩)))) W' from fun W' he => hK _ _ ⟨upd V 7 (.pointer (some ⟨bb, oo + k * 9, none⟩)), rfl, HV.up 7 _ (fun x hx => Option.some.inj hx), KhJ.ext s0 he⟩)
          have HU := Lib.hid (show (upd V 7 (.pointer (some ⟨bb, oo + k * 9, none⟩))) 2 = .bool true ∧ (upd V 7 (.pointer (some ⟨bb, oo + k * 9, none⟩))) 6 = .pointer (some ⟨bb, oo + k * 9, none⟩) from ⟨e2, e6⟩)
          clear hK hC hW hL HV s0
          rw [HFR.out]
          rw [e2, e6]
          clear e2 e6
          go_wp2_with fail
          show K _ _
          have := H.out _ (Ext.refl _)
          rw [HFR.out] at this
          obtain ⟨u2, u6⟩ := HU.out
          rw [u2, u6] at this
          exact this
        · rintro L A W K hL hC hW ⟨V, rfl, HV, s0⟩ hK
          have e2 : V 2 = .bool true := HV 2 _ rfl (hW 2 rfl)
          have e7 : V 7 = .pointer (some ⟨bb, oo + k * 9, none⟩) := HV 7 _ rfl (hW 7 rfl)
          have hB := s0
          have H := Lib.hid (show ∀ W', Ext W W' → K (fr (upd V 8 (.agg (cS m)))) W' from fun W' he => hK _ _ ⟨upd V 8 (.agg (cS m)), rfl, HV.up 8 _ (fun x hx => Option.some.inj hx), KhJ.ext s0 he⟩)
          have HU := Lib.hid (show (upd V 8 (.agg (cS m))) 2 = .bool true ∧ (upd V 8 (.agg (cS m))) 7 = .pointer (some ⟨bb, oo + k * 9, none⟩) from ⟨e2, e7⟩)
          clear hK hC hW hL HV s0
          rw [HFR.out]
          rw [e2, e7]
          clear e2 e7
          have HWD := Lib.hid (cP_spot (rangeK_ext HP.out (HE0.out.trans hB.2.2.1)))
          clear hB
          refine wpList_loadS rfl (.tmp 28) rfl bb (oo + k * 9) m rfl HWD.out ?_
          show K _ _
          have := H.out _ (Ext.refl _)
          rw [HFR.out] at this
          obtain ⟨u2, u7⟩ := HU.out
          rw [u2, u7] at this
          exact this
        · rintro L A W K hL hC hW ⟨V, rfl, HV, s0⟩ hK
          have e2 : V 2 = .bool true := HV 2 _ rfl (hW 2 rfl)
          have hB := s0
          have H := Lib.hid (show ∀ W', Ext W W' → K (fr (upd V 9 (.agg (cS q)))) W' from fun W' he => hK _ _ ⟨upd V 9 (.agg (cS q)), rfl, HV.up 9 _ (fun x hx => Option.some.inj hx), KhJ.ext s0 he⟩)
          have HU := Lib.hid (show (upd V 9 (.agg (cS q))) 2 = .bool true from e2)
          clear hK hC hW hL HV s0
          rw [HFR.out]
          rw [e2]
          clear e2
          have HWD := Lib.hid (Cs.rg hB.2.1)
          clear hB
          refine wpList_loadS rfl (.tmp 4) rfl g3 0 q rfl HWD.out ?_
          show K _ _
          have := H.out _ (Ext.refl _)
          rw [HFR.out] at this
          obtain u2 := HU.out
          rw [u2] at this
          exact this
        · rintro L A W K hL hC hW ⟨V, rfl, HV, s0⟩ hK
          have e2 : V 2 = .bool true := HV 2 _ rfl (hW 2 rfl)
          have e8 : V 8 = .agg (cS m) := HV 8 _ rfl (hW 8 rfl)
          have e9 : V 9 = .agg (cS q) := HV 9 _ rfl (hW 9 rfl)
          have hB := s0
          have H := Lib.hid (show ∀ W', Ext W W' → K (fr (upd V 10 (.bool nb))) W' from fun W' he => hK _ _ ⟨upd V 10 (.bool nb), rfl, HV.up 10 _ (fun x hx => Option.some.inj hx), KhJ.ext s0 he⟩)
          have HU := Lib.hid (show (upd V 10 (.bool nb)) 2 = .bool true ∧ (upd V 10 (.bool nb)) 8 = .agg (cS m) ∧ (upd V 10 (.bool nb)) 9 = .agg (cS q) from ⟨e2, e8, e9⟩)
          clear hK hC hW hL HV s0
          rw [HFR.out]
          rw [e2, e8, e9]
          clear e2 e8 e9
          clear hB
          go_wp2_with fail
          refine (HBE.out _).mono ?_
          rintro e wx ⟨rfl, he⟩
          have := H.out _ he
          clear H
          go_wp2_with fail
          show K _ _
          rw [HFR.out] at this
          obtain ⟨u2, u8, u9⟩ := HU.out
          rw [u2, u8, u9] at this
          exact this
        · rintro L A W K hL hC hW ⟨V, rfl, HV, s0⟩ hK
          have e2 : V 2 = .bool true := HV 2 _ rfl (hW 2 rfl)
          have e10 : V 10 = .bool nb := HV 10 _ rfl (hW 10 rfl)
          have H := Lib.hid (show ∀ W', Ext W W' → K (fr (upd V 11 (.bool (!nb)))) W' from fun W' he => hK _ _ ⟨upd V 11 (.bool (!nb)), rfl, HV.up 11 _ (fun x hx => Option.some.inj hx), KhJ.ext s0 he⟩)
          have HU := Lib.hid (show (upd V 11 (.bool (!nb))) 2 = .bool true ∧ (upd V 11 (.bool (!nb))) 10 = .bool nb from ⟨e2, e10⟩)
          clear hK hC hW hL HV s0
          rw [HFR.out]
          rw [e2, e10]
          clear e2 e10
          go_wp2_with fail
          show K _ _
          have := H.out _ (Ext.refl _)
          rw [HFR.out] at this
          obtain ⟨u2, u10⟩ := HU.out
          rw [u2, u10] at this
          exact this
        · rintro L A W K hL hC hW ⟨V, rfl, HV, s0⟩ hK
          have e2 : V 2 = .bool true := HV 2 _ rfl (hW 2 rfl)
          have e11 : V 11 = .bool (!nb) := HV 11 _ rfl (hW 11 rfl)
          have H := Lib.hid (show ∀ W', Ext W W' → K (fr (upd V 12 (.bool (!nb)))) W' from fun W' he => hK _ _ ⟨upd V 12 (.bool (!nb)), rfl, HV.up 12 _ (fun x hx => Option.some.inj hx), KhJ.ext s0 he⟩)
          have HU := Lib.hid (show (upd V 12 (.bool (!nb))) 2 = .bool true ∧ (upd V 12 (.bool (!nb))) 11 = .bool (!nb) from ⟨e2, e11⟩)
          clear hK hC hW hL HV s0
          rw [HFR.out]
          rw [e2, e11]
          clear e2 e11
          go_wp2_with fail
          show K _ _
          have := H.out _ (Ext.refl _)
          rw [HFR.out] at this
          obtain ⟨u2, u11⟩ := HU.out
          rw [u2, u11] at this
          exact this
        · rintro L A W hL ⟨V, rfl, HV, s0⟩
          have e0 : V 0 = .bool false := HV 0 _ rfl (hL 0 (by simp))
          have e1 : V 1 = .bool true := HV 1 _ rfl (hL 1 (by simp))
          have e2 : V 2 = .bool true := HV 2 _ rfl (hL 2 (by simp))
          have e3 : V 3 = .pointer (some ⟨g2, 2, none⟩) := HV 3 _ rfl (hL 3 (by simp))
          have e4 : V 4 = .slice (some ⟨bb, oo, none⟩) x.p.length c3 := HV 4 _ rfl (hL 4 (by simp))
          have e5 : V 5 = .int .i64 (k : Nat) := HV 5 _ rfl (hL 5 (by simp))
          have e6 : V 6 = .pointer (some ⟨bb, oo + k * 9, none⟩) := HV 6 _ rfl (hL 6 (by simp))
          have e7 : V 7 = .pointer (some ⟨bb, oo + k * 9, none⟩) := HV 7 _ rfl (hL 7 (by simp))
          have e8 : V 8 = .agg (cS m) := HV 8 _ rfl (hL 8 (by simp))
          have e9 : V 9 = .agg (cS q) := HV 9 _ rfl (hL 9 (by simp))
          have e10 : V 10 = .bool nb := HV 10 _ rfl (hL 10 (by simp))
          have e11 : V 11 = .bool (!nb) := HV 11 _ rfl (hL 11 (by simp))
          have e12 : V 12 = .bool (!nb) := HV 12 _ rfl (hL 12 (by simp))
          have hA := s0
          rw [HFR.out]
          rw [e0, e1, e2, e3, e4, e5, e6, e7, e8, e9, e10, e11, e12]
          clear hL HV HFR e0 e1 e2 e3 e4 e5 e6 e7 e8 e9 e10 e11 e12 s0
          have HJ1 := Lib.hid hA
          clear hA
          cases nb with
          | true =>
            have hlt2 : m.cod < q.cod := of_decide_eq_true HNB.out
            obtain rfl : eb = false := by rw [← HEB.out, HEC.out]; exact decide_eq_false (by omega)
            have HC := Lib.hid (HLT.out hlt2)
            clear hlt2
            go_upto_region 9 with fail
            refine wp_named fun a0 ha0 => ?_
            obtain ⟨fr, hfr⟩ : ∃ fr : (Nat → Value) → Act, ∀ V, fr V = ((((((((a0.put (some 40) (V 0)).put (some 41) (V 1)).put (some 42) (V 2)).put (some 43) (V 3)).put (some 44) (V 4)).put (some 45) (V 5)).put (some 46) (V 6)).put (some 47) (V 7)) := ⟨fun V => ((((((((a0.put (some 40) (V 0)).put (some 41) (V 1)).put (some 42) (V 2)).put (some 43) (V 3)).put (some 44) (V 4)).put (some 45) (V 5)).put (some 46) (V 6)).put (some 47) (V 7)), fun _ => rfl⟩
            rw [ha0] at hfr
            simp only [Act.put, List.setIfInBounds_toArray, List.set_cons_zero, List.set_cons_succ] at hfr
            have HFR := Lib.hid hfr
            clear hfr
            refine wp_region_inv (by kernel_rfl) (by kernel_rfl) (fun L A W => ∃ V : Nat → Value, A = fr V ∧ Vals (fun j => ([some (.pointer (some ⟨g2, 2, none⟩)), some (.slice (some ⟨bb, oo, none⟩) x.p.length c3), some (.int .i64 (k : Nat)), some (.pointer (some ⟨bb, oo + k * 9, none⟩)), some (.pointer (some ⟨bb, oo + k * 9, none⟩)), some (.agg (cS m)), some (.agg (cS q)), some (.bool true)] : List (Option Value)).getD j none) L V ∧ (KhJ w0 g2 g3 g4 g5 lo #[.slice A1 x.a.length c1, .slice A2 x.s.length c2, .slice (some ⟨bb, oo, none⟩) x.p.length c3] q nv (.slice A5 ls.length c5) (ls) W)) ?_ ⟨?_, ?_, ?_, ?_, ?_, ?_, ?_, ?_, trivial⟩ ?_
            · refine ⟨fun j => a0.tmps.getD (([40, 41, 42, 43, 44, 45, 46, 47] : List Nat).getD j 0) undef, ?_, Vals.no _ _ _ (far_none _ _ rfl), HJ1.out.ext (Ext.refl _).drew⟩
              rw [HFR.out, ha0]
              rfl
            all_goals clear ha0
            · rintro L A W K hL hC hW ⟨V, rfl, HV, s0⟩ hK
              have H := Lib.hid (show ∀ W', Ext W W' → K (fr (upd V 0 (.pointer (some ⟨g2, 2, none⟩)))) W' from fun W' he => hK _ _ ⟨upd V 0 (.pointer (some ⟨g2, 2, none⟩)), rfl, HV.up 0 _ (fun x hx => Option.some.inj hx), KhJ.ext s0 he⟩)
              clear hK hC hW hL HV s0
              rw [HFR.out]
              go_wp2_with fail
              show K _ _
              have := H.out _ (Ext.refl _)
              rw [HFR.out] at this
              exact this
            · rintro L A W K hL hC hW ⟨V, rfl, HV, s0⟩ hK
              have e0 : V 0 = .pointer (some ⟨g2, 2, none⟩) := HV 0 _ rfl (hW 0 rfl)
              have hB := s0
              have H := Lib.hid (show ∀ W', Ext W W' → K (fr (upd V 1 (.slice (some ⟨bb, oo, none⟩) x.p.length c3))) W' from fun W' he => hK _ _ ⟨upd V 1 (.slice (some ⟨bb, oo, none⟩) x.p.length c3), rfl, HV.up 1 _ (fun x hx => Option.some.inj hx), KhJ.ext s0 he⟩)
              have HU := Lib.hid (show (upd V 1 (.slice (some ⟨bb, oo, none⟩) x.p.length c3)) 0 = .pointer (some ⟨g2, 2, none⟩) from e0)
              clear hK hC hW hL HV s0
              rw [HFR.out]
              rw [e0]
              clear e0
              have qq := hB.1.cell 2 _ rfl
              clear hB
              go_wp2_with fail
              show K _ _
              have := H.out _ (Ext.refl _)
              rw [HFR.out] at this
              obtain u0 := HU.out
              rw [u0] at this
              exact this
            · rintro L A W K hL hC hW ⟨V, rfl, HV, s0⟩ hK
              have H := Lib.hid (show ∀ W', Ext W W' → K (fr (upd V 2 (.int .i64 (k : Nat)))) W' from fun W' he => hK _ _ ⟨upd V 2 (.int .i64 (k : Nat)), rfl, HV.up 2 _ (fun x hx => Option.some.inj hx), KhJ.ext s0 he⟩)
              clear hK hC hW hL HV s0
              rw [HFR.out]
              go_wp2_with fail
              show K _ _
              have := H.out _ (Ext.refl _)
              rw [HFR.out] at this
              exact this
            · rintro L A W K hL hC hW ⟨V, rfl, HV, s0⟩ hK
              have e1 : V 1 = .slice (some ⟨bb, oo, none⟩) x.p.length c3 := HV 1 _ rfl (hW 1 rfl)
              have e2 : V 2 = .int .i64 (k : Nat) := HV 2 _ rfl (hW 2 rfl)
              have hB := s0
              have H := Lib.hid (show ∀ W', Ext W W' → K (fr (upd V 3 (.pointer (some ⟨bb, oo + k * 9, none⟩)))) W' from fun W' he => hK _ _ ⟨upd V 3 (.pointer (some ⟨bb, oo + k * 9, none⟩)), rfl, HV.up 3 _ (fun x hx => Option.some.inj hx), KhJ.ext s0 he⟩)
              have HU := Lib.hid (show (upd V 3 (.pointer (some ⟨bb, oo + k * 9, none⟩))) 1 = .slice (some ⟨bb, oo, none⟩) x.p.length c3 ∧ (upd V 3 (.pointer (some ⟨bb, oo + k * 9, none⟩))) 2 = .int .i64 (k : Nat) from ⟨e1, e2⟩)
              clear hK hC hW hL HV s0
              rw [HFR.out]
              rw [e1, e2]
              clear e1 e2
              clear hB
              go_wp2_with fail
              show K _ _
              have := H.out _ (Ext.refl _)
              rw [HFR.out] at this
              obtain ⟨u1, u2⟩ := HU.out
              rw [u1, u2] at this
              exact this
            · rintro L A W K hL hC hW ⟨V, rfl, HV, s0⟩ hK
              have e3 : V 3 = .pointer (some ⟨bb, oo + k * 9, none⟩) := HV 3 _ rfl (hW 3 rfl)
              have H := Lib.hid (show ∀ W', Ext W W' → K (fr (upd V 4 (.pointer (some ⟨bb, oo + k * 9, none⟩)))) W' from fun W' he => hK _ _ ⟨upd V 4 (.pointer (some ⟨bb, oo + k * 9, none⟩)), rfl, HV.up 4 _ (fun x hx => Option.some.inj hx), KhJ.ext s0 he⟩)
              have HU := Lib.hid (show (upd V 4 (.pointer (some ⟨bb, oo + k * 9, none⟩))) 3 = .pointer (some ⟨bb, oo + k * 9, none⟩) from e3)
              clear hK hC hW hL HV s0
              rw [HFR.out]
              rw [e3]
              clear e3
              go_wp2_with fail
              show K _ _
              have := H.out _ (Ext.refl _)
              rw [HFR.out] at this
              obtain u3 := HU.out
              rw [u3] at this
              exact this
            · rintro L A W K hL hC hW ⟨V, rfl, HV, s0⟩ hK
              have e4 : V 4 = .pointer (some ⟨bb, oo + k * 9, none⟩) := HV 4 _ rfl (hW 4 rfl)
              have hB := s0
              have H := Lib.hid (show ∀ W', Ext W W' → K (fr (upd V 5 (.agg (cS m)))) W' from fun W' he => hK _ _ ⟨upd V 5 (.agg (cS m)), rfl, HV.up 5 _ (fun x hx => Option.some.inj hx), KhJ.ext s0 he⟩)
              have HU := Lib.hid (show (upd V 5 (.agg (cS m))) 4 = .pointer (some ⟨bb, oo + k * 9, none⟩) from e4)
              clear hK hC hW hL HV s0
              rw [HFR.out]
              rw [e4]
              clear e4
              have HWD := Lib.hid (cP_spot (rangeK_ext HP.out (HE0.out.trans hB.2.2.1)))
              clear hB
              refine wpList_loadS rfl (.tmp 44) rfl bb (oo + k * 9) m rfl HWD.out ?_
              show K _ _
              have := H.out _ (Ext.refl _)
              rw [HFR.out] at this
              obtain u4 := HU.out
              rw [u4] at this
              exact this
            · rintro L A W K hL hC hW ⟨V, rfl, HV, s0⟩ hK
              have hB := s0
              have H := Lib.hid (show ∀ W', Ext W W' → K (fr (upd V 6 (.agg (cS q)))) W' from fun W' he => hK _ _ ⟨upd V 6 (.agg (cS q)), rfl, HV.up 6 _ (fun x hx => Option.some.inj hx), KhJ.ext s0 he⟩)
              clear hK hC hW hL HV s0
              rw [HFR.out]
              have HWD := Lib.hid (Cs.rg hB.2.1)
              clear hB
              refine wpList_loadS rfl (.tmp 4) rfl g3 0 q rfl HWD.out ?_
              show K _ _
              have := H.out _ (Ext.refl _)
              rw [HFR.out] at this
              exact this
            · rintro L A W K hL hC hW ⟨V, rfl, HV, s0⟩ hK
              have e5 : V 5 = .agg (cS m) := HV 5 _ rfl (hW 5 rfl)
              have e6 : V 6 = .agg (cS q) := HV 6 _ rfl (hW 6 rfl)
              have hB := s0
              have H := Lib.hid (show ∀ W', Ext W W' → K (fr (upd V 7 (.bool true))) W' from fun W' he => hK _ _ ⟨upd V 7 (.bool true), rfl, HV.up 7 _ (fun x hx => Option.some.inj hx), KhJ.ext s0 he⟩)
              have HU := Lib.hid (show (upd V 7 (.bool true)) 5 = .agg (cS m) ∧ (upd V 7 (.bool true)) 6 = .agg (cS q) from ⟨e5, e6⟩)
              clear hK hC hW hL HV s0
              rw [HFR.out]
              rw [e5, e6]
              clear e5 e6
              refine wpList_neqS rfl (.tmp 45) (.tmp 46) rfl m q HMK.out HQK.out rfl rfl ?_
              rw [HEB.out]
              show K _ _
              have := H.out _ (Ext.refl _)
              rw [HFR.out] at this
              obtain ⟨u5, u6⟩ := HU.out
              rw [u5, u6] at this
              exact this
            · rintro L A W hL ⟨V, rfl, HV, s0⟩
              have e0 : V 0 = .pointer (some ⟨g2, 2, none⟩) := HV 0 _ rfl (hL 0 (by simp))
              have e1 : V 1 = .slice (some ⟨bb, oo, none⟩) x.p.length c3 := HV 1 _ rfl (hL 1 (by simp))
              have e2 : V 2 = .int .i64 (k : Nat) := HV 2 _ rfl (hL 2 (by simp))
              have e3 : V 3 = .pointer (some ⟨bb, oo + k * 9, none⟩) := HV 3 _ rfl (hL 3 (by simp))
              have e4 : V 4 = .pointer (some ⟨bb, oo + k * 9, none⟩) := HV 4 _ rfl (hL 4 (by simp))
              have e5 : V 5 = .agg (cS m) := HV 5 _ rfl (hL 5 (by simp))
              have e6 : V 6 = .agg (cS q) := HV 6 _ rfl (hL 6 (by simp))
              have e7 : V 7 = .bool true := HV 7 _ rfl (hL 7 (by simp))
              have hA := s0
              rw [HFR.out]
              rw [e0, e1, e2, e3, e4, e5, e6, e7]
              clear hL HV HFR e0 e1 e2 e3 e4 e5 e6 e7 s0
              have HJ2 := Lib.hid hA
              clear hA
              have HPW := Lib.hid (rangeK_ext HP.out (HE0.out.trans HJ2.out.2.2.1))
              have HLOW := Lib.hid (show lo ≤ W.heap.size by rw [HLO.out]; exact HJ2.out.2.2.1.size)
              have qq := HJ2.out.1.cell 2 _ rfl
              go_wp2_with (first
                | ((with_reducible refine wpList_loadP ?_ (.tmp 52) ?_ bb (oo + k * 9) m ?_ ?_ ?_); (exact rfl); (exact rfl); (exact rfl); (exact HPW.out))
                | ((with_reducible refine wpList_build_one ?_ (.tmp 53) 24 69 ?_ Try.underlying24 _ 9 72 infoP3 (by decide) (by decide) (cP m) rfl ?_ ?_); (exact rfl); (exact rfl); (exact rfl))
                | (at_builtin; refine wpList_append_row ?_ (.tmp 48) (.tmp 54) 24 rfl lo 69 Try.underlying24 _ 9 72 infoP3 rfl (by decide) (.slice A5 ls.length c5) (ls).length (fP (ls)) rfl (own_ext HJ2.out.2.2.2.1.1 ((Ext.refl _).alloc _)) (.slice (some ⟨W.heap.size, 0, none⟩) 1 1) 1 (cP m).toList rfl (rs_oneP (Cs.new _ _ _ _ rfl)) (cP_ones m) HLN.out (by decide) (Nat.le_trans HLOW.out (by rw [World.size_alloc]; exact Nat.le_succ _)) ?_; (exact rfl); intro v5 w5 o5 g5 b5; have O5 := Lib.hid (OwnP.add HJ2.out.2.2.2.1.2 HMO.out o5); have G5 := Lib.hid g5; clear o5 g5 b5))
              have HZF := Lib.hid (HC.out.2.2.1.trans HC.out.1.symm)
              exact ⟨⟨k + 1, by omega, by go_num, by rw [HZF.out], Lib.hid (by rw [HC.out.2.1]; exact (HJ2.out.ext ((Ext.refl _).alloc (.cells (cP m) 69))).app HG.out G5.out O5.out)⟩, by simp [intOf]; omega⟩
          | false =>
            have hge : ¬ m.cod < q.cod := of_decide_eq_false HNB.out
            have HGE := Lib.hid hge
            clear hge
            have HLOW := Lib.hid (show lo ≤ W.heap.size by rw [HLO.out]; exact HJ1.out.2.2.1.size)
            have HNW := Lib.hid (Cs.rg HJ1.out.2.2.2.2.2)
            go_upto_region 9 with (first
              | ((with_reducible refine wpList_loadS ?_ (.tmp 4) ?_ g3 0 q ?_ ?_ ?_); (exact rfl); (exact rfl); (exact rfl); (exact (Cs.rg HJ1.out.2.1)))
              | ((with_reducible refine wpList_load_wordIn ?_ (.tmp 5) ?_ g5 0 nv ?_ ?_ ?_); (exact rfl); (exact rfl); (exact rfl); (exact HNW.out))
              | ((with_reducible refine wpList_build_pas2 ?_ (.tmp 35) (.tmp 36) ?_ q nv ?_ ?_ ?_); (exact rfl); (exact rfl); (exact rfl); (exact rfl))
              | ((with_reducible refine wpList_build_one ?_ (.tmp 37) 24 69 ?_ Try.underlying24 _ 9 72 infoP3 (by decide) (by decide) (cP (⟨q.addr, q.key, nv⟩ : Pe)) rfl ?_ ?_); (exact rfl); (exact rfl); (exact rfl))
              | (at_builtin; refine wpList_append_row ?_ (.tmp 34) (.tmp 38) 24 rfl lo 69 Try.underlying24 _ 9 72 infoP3 rfl (by decide) (.slice A5 ls.length c5) (ls).length (fP (ls)) rfl (own_ext HJ1.out.2.2.2.1.1 ((Ext.refl _).alloc _)) (.slice (some ⟨W.heap.size, 0, none⟩) 1 1) 1 (cP (⟨q.addr, q.key, nv⟩ : Pe)).toList rfl (rs_oneP (Cs.new _ _ _ _ rfl)) (cP_ones (⟨q.addr, q.key, nv⟩ : Pe)) HLN.out (by decide) (Nat.le_trans HLOW.out (by rw [World.size_alloc]; exact Nat.le_succ _)) ?_; (exact rfl); intro v6 w6 o6 g6 b6; have O6 := Lib.hid (OwnP.add HJ1.out.2.2.2.1.2 HPO.out o6); have G6 := Lib.hid g6; clear o6 g6 b6))
            have HJ3 := Lib.hid ((HJ1.out.ext ((Ext.refl _).alloc (.cells (cP (⟨q.addr, q.key, nv⟩ : Pe)) 69))).app HG.out G6.out O6.out)
            have HOC : Hid (∃ A c, v6 = .slice A (ls ++ [(⟨q.addr, q.key, nv⟩ : Pe)]).length c) := Lib.hid (by obtain ⟨A, c, e, _, _⟩ := O6.out.sl; exact ⟨A, c, e⟩)
            clear G6 O6
            refine wp_named fun a0 ha0 => ?_
            obtain ⟨fr, hfr⟩ : ∃ fr : (Nat → Value) → Act, ∀ V, fr V = ((((((((a0.put (some 40) (V 0)).put (some 41) (V 1)).put (some 42) (V 2)).put (some 43) (V 3)).put (some 44) (V 4)).put (some 45) (V 5)).put (some 46) (V 6)).put (some 47) (V 7)) := ⟨fun V => ((((((((a0.put (some 40) (V 0)).put (some 41) (V 1)).put (some 42) (V 2)).put (some 43) (V 3)).put (some 44) (V 4)).put (some 45) (V 5)).put (some 46) (V 6)).put (some 47) (V 7)), fun _ => rfl⟩
            rw [ha0] at hfr
            simp only [Act.put, List.setIfInBounds_toArray, List.set_cons_zero, List.set_cons_succ] at hfr
            have HFR := Lib.hid hfr
            clear hfr
            refine wp_region_inv (by kernel_rfl) (by kernel_rfl) (fun L A W => ∃ V : Nat → Value, A = fr V ∧ Vals (fun j => ([some (.pointer (some ⟨g2, 2, none⟩)), some (.slice (some ⟨bb, oo, none⟩) x.p.length c3), some (.int .i64 (k : Nat)), some (.pointer (some ⟨bb, oo + k * 9, none⟩)), some (.pointer (some ⟨bb, oo + k * 9, none⟩)), some (.agg (cS m)), some (.agg (cS q)), some (.bool (!eb))] : List (Option Value)).getD j none) L V ∧ (KhJ w0 g2 g3 g4 g5 lo #[.slice A1 x.a.length c1, .slice A2 x.s.length c2, .slice (some ⟨bb, oo, none⟩) x.p.length c3] q nv (v6) (ls ++ [(⟨q.addr, q.key, nv⟩ : Pe)]) W)) ?_ ⟨?_, ?_, ?_, ?_, ?_, ?_, ?_, ?_, trivial⟩ ?_
            · refine ⟨fun j => a0.tmps.getD (([40, 41, 42, 43, 44, 45, 46, 47] : List Nat).getD j 0) undef, ?_, Vals.no _ _ _ (far_none _ _ rfl), HJ3.out.ext (Ext.refl _).drew⟩
              rw [HFR.out, ha0]
              rfl
            all_goals clear ha0
            · rintro L A W K hL hC hW ⟨V, rfl, HV, s0⟩ hK
              have H := Lib.hid (show ∀ W', Ext W W' → K (fr (upd V 0 (.pointer (some ⟨g2, 2, none⟩)))) W' from fun W' he => hK _ _ ⟨upd V 0 (.pointer (some ⟨g2, 2, none⟩)), rfl, HV.up 0 _ (fun x hx => Option.some.inj hx), KhJ.ext s0 he⟩)
              clear hK hC hW hL HV s0
              rw [HFR.out]
              go_wp2_with fail
              show K _ _
              have := H.out _ (Ext.refl _)
              rw [HFR.out] at this
              exact this
            · rintro L A W K hL hC hW ⟨V, rfl, HV, s0⟩ hK
              have e0 : V 0 = .pointer (some ⟨g2, 2, none⟩) := HV 0 _ rfl (hW 0 rfl)
              have hB := s0
              have H := Lib.hid (show ∀ W', Ext W W' → K (fr (upd V 1 (.slice (some ⟨bb, oo, none⟩) x.p.length c3))) W' from fun W' he => hK _ _ ⟨upd V 1 (.slice (some ⟨bb, oo, none⟩) x.p.length c3), rfl, HV.up 1 _ (fun x hx => Option.some.inj hx), KhJ.ext s0 he⟩)
              have HU := Lib.hid (show (upd V 1 (.slice (some ⟨bb, oo, none⟩) x.p.length c3)) 0 = .pointer (some ⟨g2, 2, none⟩) from e0)
              clear hK hC hW hL HV s0
              rw [HFR.out]
              rw [e0]
              clear e0
              have qq := hB.1.cell 2 _ rfl
              clear hB
              go_wp2_with fail
              show K _ _
              have := H.out _ (Ext.refl _)
              rw [HFR.out] at this
              obtain u0 := HU.out
              rw [u0] at this
              exact this
            · rintro L A W K hL hC hW ⟨V, rfl, HV, s0⟩ hK
              have H := Lib.hid (show ∀ W', Ext W W' → K (fr (upd V 2 (.int .i64 (k : Nat)))) W' from fun W' he => hK _ _ ⟨upd V 2 (.int .i64 (k : Nat)), rfl, HV.up 2 _ (fun x hx => Option.some.inj hx), KhJ.ext s0 he⟩)
              clear hK hC hW hL HV s0
              rw [HFR.out]
              go_wp2_with fail
              show K _ _
              have := H.out _ (Ext.refl _)
              rw [HFR.out] at this
              exact this
            · rintro L A W K hL hC hW ⟨V, rfl, HV, s0⟩ hK
              have e1 : V 1 = .slice (some ⟨bb, oo, none⟩) x.p.length c3 := HV 1 _ rfl (hW 1 rfl)
              have e2 : V 2 = .int .i64 (k : Nat) := HV 2 _ rfl (hW 2 rfl)
              have hB := s0
              have H := Lib.hid (show ∀ W', Ext W W' → K (fr (upd V 3 (.pointer (some ⟨bb, oo + k * 9, none⟩)))) W' from fun W' he => hK _ _ ⟨upd V 3 (.pointer (some ⟨bb, oo + k * 9, none⟩)), rfl, HV.up 3 _ (fun x hx => Option.some.inj hx), KhJ.ext s0 he⟩)
              have HU := Lib.hid (show (upd V 3 (.pointer (some ⟨bb, oo + k * 9, none⟩))) 1 = .slice (some ⟨bb, oo, none⟩) x.p.length c3 ∧ (upd V 3 (.pointer (some ⟨bb, oo + k * 9, none⟩))) 2 = .int .i64 (k : Nat) from ⟨e1, e2⟩)
              clear hK hC hW hL HV s0
              rw [HFR.out]
              rw [e1, e2]
              clear e1 e2
              clear hB
              go_wp2_with fail
              show K _ _
              have := H.out _ (Ext.refl _)
              rw [HFR.out] at this
              obtain ⟨u1, u2⟩ := HU.out
              rw [u1, u2] at this
              exact this
            · rintro L A W K hL hC hW ⟨V, rfl, HV, s0⟩ hK
              have e3 : V 3 = .pointer (some ⟨bb, oo + k * 9, none⟩) := HV 3 _ rfl (hW 3 rfl)
              have H := Lib.hid (show ∀ W', Ext W W' → K (fr (upd V 4 (.pointer (some ⟨bb, oo + k * 9, none⟩)))) W' from fun W' he => hK _ _ ⟨upd V 4 (.pointer (some ⟨bb, oo + k * 9, none⟩)), rfl, HV.up 4 _ (fun x hx => Option.some.inj hx), KhJ.ext s0 he⟩)
              have HU := Lib.hid (show (upd V 4 (.pointer (some ⟨bb, oo + k * 9, none⟩))) 3 = .pointer (some ⟨bb, oo + k * 9, none⟩) from e3)
              clear hK hC hW hL HV s0
              rw [HFR.out]
              rw [e3]
              clear e3
              go_wp2_with fail
              show K _ _
              have := H.out _ (Ext.refl _)
              rw [HFR.out] at this
              obtain u3 := HU.out
              rw [u3] at this
              exact this
            · rintro L A W K hL hC hW ⟨V, rfl, HV, s0⟩ hK
              have e4 : V 4 = .pointer (some ⟨bb, oo + k * 9, none⟩) := HV 4 _ rfl (hW 4 rfl)
              have hB := s0
              have H := Lib.hid (show ∀ W', Ext W W' → K (fr (upd V 5 (.agg (cS m)))) W' from fun W' he => hK _ _ ⟨upd V 5 (.agg (cS m)), rfl, HV.up 5 _ (fun x hx => Option.some.inj hx), KhJ.ext s0 he⟩)
              have HU := Lib.hid (show (upd V 5 (.agg (cS m))) 4 = .pointer (some ⟨bb, oo + k * 9, none⟩) from e4)
              clear hK hC hW hL HV s0
              rw [HFR.out]
              rw [e4]
              clear e4
              have HWD := Lib.hid (cP_spot (rangeK_ext HP.out (HE0.out.trans hB.2.2.1)))
              clear hB
              refine wpList_loadS rfl (.tmp 44) rfl bb (oo + k * 9) m rfl HWD.out ?_
              show K _ _
              have := H.out _ (Ext.refl _)
              rw [HFR.out] at this
              obtain u4 := HU.out
              rw [u4] at this
              exact this
            · rintro L A W K hL hC hW ⟨V, rfl, HV, s0⟩ hK
              have hB := s0
              have H := Lib.hid (show ∀ W', Ext W W' → K (fr (upd V 6 (.agg (cS q)))) W' from fun W' he => hK _ _ ⟨upd V 6 (.agg (cS q)), rfl, HV.up 6 _ (fun x hx => Option.some.inj hx), KhJ.ext s0 he⟩)
              clear hK hC hW hL HV s0
              rw [HFR.out]
              have HWD := Lib.hid (Cs.rg hB.2.1)
              clear hB
              refine wpList_loadS rfl (.tmp 4) rfl g3 0 q rfl HWD.out ?_
              show K _ _
              have := H.out _ (Ext.refl _)
              rw [HFR.out] at this
              exact this
            · rintro L A W K hL hC hW ⟨V, rfl, HV, s0⟩ hK
              have e5 : V 5 = .agg (cS m) := HV 5 _ rfl (hW 5 rfl)
              have e6 : V 6 = .agg (cS q) := HV 6 _ rfl (hW 6 rfl)
              have hB := s0
              have H := Lib.hid (show ∀ W', Ext W W' → K (fr (upd V 7 (.bool (!eb)))) W' from fun W' he => hK _ _ ⟨upd V 7 (.bool (!eb)), rfl, HV.up 7 _ (fun x hx => Option.some.inj hx), KhJ.ext s0 he⟩)
              have HU := Lib.hid (show (upd V 7 (.bool (!eb))) 5 = .agg (cS m) ∧ (upd V 7 (.bool (!eb))) 6 = .agg (cS q) from ⟨e5, e6⟩)
              clear hK hC hW hL HV s0
              rw [HFR.out]
              rw [e5, e6]
              clear e5 e6
              refine wpList_neqS rfl (.tmp 45) (.tmp 46) rfl m q HMK.out HQK.out rfl rfl ?_
              rw [HEB.out]
              show K _ _
              have := H.out _ (Ext.refl _)
              rw [HFR.out] at this
              obtain ⟨u5, u6⟩ := HU.out
              rw [u5, u6] at this
              exact this
            · rintro L A W hL ⟨V, rfl, HV, s0⟩
              have e0 : V 0 = .pointer (some ⟨g2, 2, none⟩) := HV 0 _ rfl (hL 0 (by simp))
              have e1 : V 1 = .slice (some ⟨bb, oo, none⟩) x.p.length c3 := HV 1 _ rfl (hL 1 (by simp))
              have e2 : V 2 = .int .i64 (k : Nat) := HV 2 _ rfl (hL 2 (by simp))
              have e3 : V 3 = .pointer (some ⟨bb, oo + k * 9, none⟩) := HV 3 _ rfl (hL 3 (by simp))
              have e4 : V 4 = .pointer (some ⟨bb, oo + k * 9, none⟩) := HV 4 _ rfl (hL 4 (by simp))
              have e5 : V 5 = .agg (cS m) := HV 5 _ rfl (hL 5 (by simp))
              have e6 : V 6 = .agg (cS q) := HV 6 _ rfl (hL 6 (by simp))
              have e7 : V 7 = .bool (!eb) := HV 7 _ rfl (hL 7 (by simp))
              have hA := s0
              rw [HFR.out]
              rw [e0, e1, e2, e3, e4, e5, e6, e7]
              clear hL HV HFR e0 e1 e2 e3 e4 e5 e6 e7 s0
              have HJ4 := Lib.hid hA
              clear hA
              cases eb with
              | true =>
                have HC := Lib.hid (HEQ.out (of_decide_eq_true (by rw [← HEC.out, HEB.out])))
                have HCO := Lib.hid (show outR z x.p (⟨q.addr, q.key, nv⟩ : Pe) (k + 1) = ls ++ [(⟨q.addr, q.key, nv⟩ : Pe)] by rw [HC.out.2.1, ← HC.out.1]; rfl)
                go_wp2_with fail
                exact ⟨⟨k + 1, by omega, by go_num, by rw [HC.out.2.2.1], Lib.hid (by rw [HCO.out]; exact HJ4.out)⟩, by simp [intOf]; omega⟩
              | false =>
                have hne : m.cod ≠ q.cod := of_decide_eq_false (by rw [← HEC.out, HEB.out])
                have HC := Lib.hid (HGT.out (by have := HGE.out; omega))
                have HCO := Lib.hid (show outR z x.p (⟨q.addr, q.key, nv⟩ : Pe) (k + 1) = (ls ++ [(⟨q.addr, q.key, nv⟩ : Pe)]) ++ [m] by rw [HC.out.1]; rfl)
                clear hne
                have HPW := Lib.hid (rangeK_ext HP.out (HE0.out.trans HJ4.out.2.2.1))
                have HLOW := Lib.hid (show lo ≤ W.heap.size by rw [HLO.out]; exact HJ4.out.2.2.1.size)
                have qq := HJ4.out.1.cell 2 _ rfl
                go_wp2_with (first
                  | ((with_reducible refine wpList_loadP ?_ (.tmp 52) ?_ bb (oo + k * 9) m ?_ ?_ ?_); (exact rfl); (exact rfl); (exact rfl); (exact HPW.out))
                  | ((with_reducible refine wpList_build_one ?_ (.tmp 53) 24 69 ?_ Try.underlying24 _ 9 72 infoP3 (by decide) (by decide) (cP m) rfl ?_ ?_); (exact rfl); (exact rfl); (exact rfl))
                  | (at_builtin; refine wpList_append_row ?_ (.tmp 48) (.tmp 54) 24 rfl lo 69 Try.underlying24 _ 9 72 infoP3 rfl (by decide) (v6) (ls ++ [(⟨q.addr, q.key, nv⟩ : Pe)]).length (fP (ls ++ [(⟨q.addr, q.key, nv⟩ : Pe)])) rfl (own_ext HJ4.out.2.2.2.1.1 ((Ext.refl _).alloc _)) (.slice (some ⟨W.heap.size, 0, none⟩) 1 1) 1 (cP m).toList rfl (rs_oneP (Cs.new _ _ _ _ rfl)) (cP_ones m) HLN2.out (by decide) (Nat.le_trans HLOW.out (by rw [World.size_alloc]; exact Nat.le_succ _)) ?_; (exact rfl); intro v5 w5 o5 g5 b5; have O5 := Lib.hid (OwnP.add HJ4.out.2.2.2.1.2 HMO.out o5); have G5 := Lib.hid g5; clear o5 g5 b5))
                exact ⟨⟨k + 1, by omega, by go_num, by rw [HC.out.2.1], Lib.hid (by rw [HCO.out]; exact (HJ4.out.ext ((Ext.refl _).alloc (.cells (cP m) 69))).app HG.out G5.out O5.out)⟩, by simp [intOf]; omega⟩
    · obtain rfl : k = x.p.length := by omega
      have hd : decide (x.p.length < x.p.length) = false := decide_eq_false (by omega)
      have hd2 : decide ((x.p.length : Int) < (x.p.length : Int)) = false := decide_eq_false (by omega)
      have HALL := Lib.hid (outR_all (z := z) HRS.out (⟨q.addr, q.key, nv⟩ : Pe))
      have HLN := Lib.hid (show (outR z x.p (⟨q.addr, q.key, nv⟩ : Pe) x.p.length).length + 1 ≤ 1099511627776 by have := outR_len z x.p (⟨q.addr, q.key, nv⟩ : Pe) x.p.length; have := HL4.out; omega)
      have q2 := HJ.out.1.cell 2 _ rfl
      obtain ⟨A5, c5, e5, _, _⟩ := HJ.out.2.2.2.1.sl
      subst e5
      generalize hls : outR z x.p (⟨q.addr, q.key, nv⟩ : Pe) x.p.length = ls at *
      clear hls
      cases hl : laidR z x.p q.cod x.p.length with
      | true =>
        have HM := Lib.hid (show ls = (if z = true then dlX x.p q.cod else plX x.p (⟨q.addr, q.key, nv⟩ : Pe)) by have := HALL.out; rw [show laidR z x.p (Pe.cod (⟨q.addr, q.key, nv⟩ : Pe)) x.p.length = true from hl] at this; exact this)
        have HJF := Lib.hid HJ.out
        clear HALL hl HJ
        have HLW := Lib.hid (show w.heap.size ≤ lo by rw [HLO.out]; exact HE0.out.size)
        have HEW := Lib.hid (HE0.out.trans HJF.out.2.2.1)
        have HOW := Lib.hid HJF.out.2.2.2.1
        have HC7 := Lib.hid HJF.out.1
        have HR7 := Lib.hid HJF.out.2.2.2.2.1
        clear HJF
        by_cases hp : kpE x.p q nv = 0
        · have HPZ := Lib.hid hp
          have hm4 : ls.length ≤ 400 := by rw [HM.out]; exact HRM.out.2 hp
          have hd : decide (400 < ls.length) = false := decide_eq_false (by omega)
          have hd2 : decide ((400 : Int) < (ls.length : Int)) = false := decide_eq_false (by omega)
          clear hp hm4
          go_wp2_with (first
            | ((with_reducible refine wpList_store_one ?_ ?_ 24 (.tmp 69) (.tmp 68) ?_ g2 2 26 #[.slice A1 x.a.length c1, .slice A2 x.s.length c2, .slice A3 x.p.length c3] (.slice A5 ls.length c5) rfl ?_ ?_ ?_ infoLP ?_ rfl ?_); (exact rfl); (exact rfl); (exact rfl); (exact rfl); (exact rfl); (exact HC7.out); (exact of_decide_eq_true rfl); intro w8 k8 g8; have K8 := Lib.hid (show Cs w8 g2 26 #[.slice A1 x.a.length c1, .slice A2 x.s.length c2, .slice A5 ls.length c5] from k8); have G8 := Lib.hid g8; clear k8 g8)
            | ((with_reducible refine wpList_loadX ?_ (.tmp 3) ?_ g2 (.slice A1 x.a.length c1) (.slice A2 x.s.length c2) (.slice A5 ls.length c5) ?_ ?_ ?_); (exact rfl); (exact rfl); (exact rfl); (exact K8.out))
            | ((with_reducible refine wpList_storeX ?_ ?_ (.tmp 6) (.tmp 70) ?_ g4 (.slice none 0 0) (.slice none 0 0) (.slice none 0 0) (.slice A1 x.a.length c1) (.slice A2 x.s.length c2) (.slice A5 ls.length c5) ?_ ?_ rfl rfl rfl ?_ ?_); (exact rfl); (exact rfl); (exact rfl); (exact rfl); (exact rfl); (exact Cs.kept HR7.out G8.out (fun e => HGN.out.2 (Option.some.inj e))); intro w9 k9 g9; have K9 := Lib.hid k9; have G9 := Lib.hid g9; clear k9 g9))
          have HE9 := Lib.hid ((HEW.out.grown G8.out HGL.out.1).grown G9.out HGL.out.2)
          refine bodyPost_ret (results_ax2 Try.results50 _ _ g4 _ _ _ rfl K9.out) rfl ?_
          refine ⟨_, _, _, by rw [← HRB.out, decide_eq_true HPZ.out]; rfl, ?_, HE9.out⟩
          rw [← HRY.out, if_pos HPZ.out, HPL.out HPZ.out, ← HM.out]
          exact ⟨.inr ⟨rfl, rfl⟩, .inr ⟨rfl, rfl⟩, .inl (((HOW.out.keptT G8.out HC7.out (by decide)).keptT G9.out (Cs.kept HR7.out G8.out (fun e => HGN.out.2 (Option.some.inj e))) (by decide)).mono HLW.out)⟩
        · have HPZ := Lib.hid hp
          have hm4 : 400 < ls.length := by rw [HM.out]; have := HRM.out; omega
          have hd : decide (400 < ls.length) = true := decide_eq_true hm4
          have hd2 : decide ((400 : Int) < (ls.length : Int)) = true := decide_eq_true (by omega)
          clear hp hm4
          go_wp2_with ((with_reducible refine wpList_storeX ?_ ?_ (.tmp 6) (.tmp 67) ?_ g4 (.slice none 0 0) (.slice none 0 0) (.slice none 0 0) (.slice none 0 0) (.slice none 0 0) (.slice none 0 0) ?_ ?_ rfl rfl rfl HR7.out ?_); (exact rfl); (exact rfl); (exact rfl); (exact rfl); (exact rfl); intro w9 k9 g9; have K9 := Lib.hid k9; have G9 := Lib.hid g9; clear k9 g9)
          refine bodyPost_ret (results_ax2 Try.results50 _ _ g4 _ _ _ rfl K9.out) rfl ?_
          refine ⟨_, _, _, by rw [← HRB.out, decide_eq_false HPZ.out]; rfl, ?_, HEW.out.grown G9.out HGL.out.2⟩
          rw [← HRY.out, if_neg HPZ.out]
          exact KpX.nil _ _ _ _ _ _
      | false =>
        have HM := Lib.hid (show ls ++ [(⟨q.addr, q.key, nv⟩ : Pe)] = (if z = true then dlX x.p q.cod else plX x.p (⟨q.addr, q.key, nv⟩ : Pe)) by have := HALL.out; rw [show laidR z x.p (Pe.cod (⟨q.addr, q.key, nv⟩ : Pe)) x.p.length = false from hl] at this; exact this)
        clear HALL hl
        have HLOW := Lib.hid (show lo ≤ wr.heap.size by rw [HLO.out]; exact HJ.out.2.2.1.size)
        have HNW := Lib.hid (Cs.rg HJ.out.2.2.2.2.2)
        go_upto_region 13 with (first
            | ((with_reducible refine wpList_loadS ?_ (.tmp 4) ?_ g3 0 q ?_ ?_ ?_); (exact rfl); (exact rfl); (exact rfl); (exact (Cs.rg HJ.out.2.1)))
            | ((with_reducible refine wpList_load_wordIn ?_ (.tmp 5) ?_ g5 0 nv ?_ ?_ ?_); (exact rfl); (exact rfl); (exact rfl); (exact HNW.out))
            | ((with_reducible refine wpList_build_pas2 ?_ (.tmp 59) (.tmp 60) ?_ q nv ?_ ?_ ?_); (exact rfl); (exact rfl); (exact rfl); (exact rfl))
            | ((with_reducible refine wpList_build_one ?_ (.tmp 61) 24 69 ?_ Try.underlying24 _ 9 72 infoP3 (by decide) (by decide) (cP (⟨q.addr, q.key, nv⟩ : Pe)) rfl ?_ ?_); (exact rfl); (exact rfl); (exact rfl))
            | (at_builtin; refine wpList_append_row ?_ (.tmp 58) (.tmp 62) 24 rfl lo 69 Try.underlying24 _ 9 72 infoP3 rfl (by decide) (.slice A5 ls.length c5) (ls).length (fP (ls)) rfl (own_ext HJ.out.2.2.2.1.1 ((Ext.refl _).alloc _)) (.slice (some ⟨wr.heap.size, 0, none⟩) 1 1) 1 (cP (⟨q.addr, q.key, nv⟩ : Pe)).toList rfl (rs_oneP (Cs.new _ _ _ _ rfl)) (cP_ones (⟨q.addr, q.key, nv⟩ : Pe)) HLN.out (by decide) (Nat.le_trans HLOW.out (by rw [World.size_alloc]; exact Nat.le_succ _)) ?_; (exact rfl); intro v6 w6 o6 g6 b6; have O6 := Lib.hid (OwnP.add HJ.out.2.2.2.1.2 HPO.out o6); have G6 := Lib.hid g6; clear o6 g6 b6))
        have HJF := Lib.hid ((HJ.out.ext ((Ext.refl _).alloc (.cells (cP (⟨q.addr, q.key, nv⟩ : Pe)) 69))).app HG.out G6.out O6.out)
        obtain ⟨A7, c7, e7, _, _⟩ := O6.out.sl
        subst e7
        clear G6 O6 HJ
        generalize hls2 : ls ++ [(⟨q.addr, q.key, nv⟩ : Pe)] = ls2 at *
        clear hls2
        have HLW := Lib.hid (show w.heap.size ≤ lo by rw [HLO.out]; exact HE0.out.size)
        have HEW := Lib.hid (HE0.out.trans HJF.out.2.2.1)
        have HOW := Lib.hid HJF.out.2.2.2.1
        have HC7 := Lib.hid HJF.out.1
        have HR7 := Lib.hid HJF.out.2.2.2.2.1
        clear HJF
        by_cases hp : kpE x.p q nv = 0
        · have HPZ := Lib.hid hp
          have hm4 : ls2.length ≤ 400 := by rw [HM.out]; exact HRM.out.2 hp
          have hd : decide (400 < ls2.length) = false := decide_eq_false (by omega)
          have hd2 : decide ((400 : Int) < (ls2.length : Int)) = false := decide_eq_false (by omega)
          clear hp hm4
          go_wp2_with (first
            | ((with_reducible refine wpList_store_one ?_ ?_ 24 (.tmp 69) (.tmp 68) ?_ g2 2 26 #[.slice A1 x.a.length c1, .slice A2 x.s.length c2, .slice A3 x.p.length c3] (.slice A7 ls2.length c7) rfl ?_ ?_ ?_ infoLP ?_ rfl ?_); (exact rfl); (exact rfl); (exact rfl); (exact rfl); (exact rfl); (exact HC7.out); (exact of_decide_eq_true rfl); intro w8 k8 g8; have K8 := Lib.hid (show Cs w8 g2 26 #[.slice A1 x.a.length c1, .slice A2 x.s.length c2, .slice A7 ls2.length c7] from k8); have G8 := Lib.hid g8; clear k8 g8)
            | ((with_reducible refine wpList_loadX ?_ (.tmp 3) ?_ g2 (.slice A1 x.a.length c1) (.slice A2 x.s.length c2) (.slice A7 ls2.length c7) ?_ ?_ ?_); (exact rfl); (exact rfl); (exact rfl); (exact K8.out))
            | ((with_reducible refine wpList_storeX ?_ ?_ (.tmp 6) (.tmp 70) ?_ g4 (.slice none 0 0) (.slice none 0 0) (.slice none 0 0) (.slice A1 x.a.length c1) (.slice A2 x.s.length c2) (.slice A7 ls2.length c7) ?_ ?_ rfl rfl rfl ?_ ?_); (exact rfl); (exact rfl); (exact rfl); (exact rfl); (exact rfl); (exact Cs.kept HR7.out G8.out (fun e => HGN.out.2 (Option.some.inj e))); intro w9 k9 g9; have K9 := Lib.hid k9; have G9 := Lib.hid g9; clear k9 g9))
          have HE9 := Lib.hid ((HEW.out.grown G8.out HGL.out.1).grown G9.out HGL.out.2)
          refine bodyPost_ret (results_ax2 Try.results50 _ _ g4 _ _ _ rfl K9.out) rfl ?_
          refine ⟨_, _, _, by rw [← HRB.out, decide_eq_true HPZ.out]; rfl, ?_, HE9.out⟩
          rw [← HRY.out, if_pos HPZ.out, HPL.out HPZ.out, ← HM.out]
          exact ⟨.inr ⟨rfl, rfl⟩, .inr ⟨rfl, rfl⟩, .inl (((HOW.out.keptT G8.out HC7.out (by decide)).keptT G9.out (Cs.kept HR7.out G8.out (fun e => HGN.out.2 (Option.some.inj e))) (by decide)).mono HLW.out)⟩
        · have HPZ := Lib.hid hp
          have hm4 : 400 < ls2.length := by rw [HM.out]; have := HRM.out; omega
          have hd : decide (400 < ls2.length) = true := decide_eq_true hm4
          have hd2 : decide ((400 : Int) < (ls2.length : Int)) = true := decide_eq_true (by omega)
          clear hp hm4
          go_wp2_with ((with_reducible refine wpList_storeX ?_ ?_ (.tmp 6) (.tmp 67) ?_ g4 (.slice none 0 0) (.slice none 0 0) (.slice none 0 0) (.slice none 0 0) (.slice none 0 0) (.slice none 0 0) ?_ ?_ rfl rfl rfl HR7.out ?_); (exact rfl); (exact rfl); (exact rfl); (exact rfl); (exact rfl); intro w9 k9 g9; have K9 := Lib.hid k9; have G9 := Lib.hid g9; clear k9 g9)
          refine bodyPost_ret (results_ax2 Try.results50 _ _ g4 _ _ _ rfl K9.out) rfl ?_
          refine ⟨_, _, _, by rw [← HRB.out, decide_eq_false HPZ.out]; rfl, ?_, HEW.out.grown G9.out HGL.out.2⟩
          rw [← HRY.out, if_neg HPZ.out]
          exact KpX.nil _ _ _ _ _ _
end Go.Proofs.Ytjampleddeidaaa
