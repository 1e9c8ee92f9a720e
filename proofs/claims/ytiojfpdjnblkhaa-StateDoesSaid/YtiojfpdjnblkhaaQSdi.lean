/- What the document says of a state that may be is what the program does (plain mathematics). The law's wants: what the document says of what is done is what the program's run does. -/
import Derived.Test.YtiojfpdjnblkhaaQSdg
import Derived.Test.YtiojfpdjnblkhaaQSmc
import Derived.Test.YtiojfpdjnblkhaaQSud
namespace Go.Proofs.Ytiojfpdjnblkhaa
open Go.ChangeShapes Go.WideShapes Go.ChangeAt Go.RowKit Go.Shelf

theorem putS_err0 {l : List Ac} {a : Nat} {x : Ac} {m : List Ac} (e : putS l a x = (m, 0)) : m = plL l x := by
 unfold putS at e
 split at e
 ·injection e with _ e; cases e
 ·split at e
  ·injection e with _ e; cases e
  ·injection e with e _; exact e.symm
theorem plL_self {l : List Ac} (h : Rt l) (hl : OkL l) {a : Nat} (ha : a ≠ 0) (ha64 : a < 18446744073709551616) : plL l (accF l a).1 = l := by
 have hA := accF_addr l a
 obtain ⟨_, h2, _⟩ := putS_bal (m := (accF l a).1.bal) h hl ha ha64 (h.bal_lt a) (fun hf hm => by rw [accF_no hf] at hm; exact absurd rfl hm) (by have := h.fits; omega)
 rw [setB_self] at h2
 refine h2.view h (fun b => ?_)
 rw [accF_pl h.rise, hA]
 split
 ·rename_i e; rw [e]
 ·rfl
theorem put_eq {l : List Ac} (h : Rt l) (hl : OkL l) (x : Ac) : putA l x = putR l x := by
 have hR := (rt_iff hl).2 h
 unfold putA putR
 rw [if_neg (by rw [hR]; simp)]
 cases hx : x.rightB with
 | false => rfl
 | true =>
  rw [if_neg (by simp), if_neg (by simp)]
  have h24 := store24 hx
  unfold putS
  rw [wiL_pl h.rise, ← room_eq h]
  have e : (x.emptyB = false ∧ (24 < x.store.length ∨ roomB l x.addr = false)) = (x.emptyB = false ∧ roomB l x.addr = false) := by
   apply propext
   constructor
   ·rintro ⟨h1, h2 | h2⟩
    ·omega
    ·exact ⟨h1, h2⟩
   ·rintro ⟨h1, h2⟩
    exact ⟨h1, .inr h2⟩
  simp only [e]
theorem save_eq {l : List Ac} (h : Rt l) (hl : OkL l) {a : Nat} {q : Nat × Nat} : saveS l a q = saveR l a q := by
 have hR := (rt_iff hl).2 h
 unfold saveS saveR
 rw [if_neg (by rw [hR]; simp)]
 by_cases ha : a = 0
 ·rw [if_pos ha, if_pos ha]
 rw [if_neg ha, if_neg ha]
 have hA : (saveA l a q).addr = a := accF_addr l a
 obtain ⟨r1, r2, r3, r4⟩ := right_rise (h.right ha)
 have hsv := svL_sav r1 q
 rw [hsv]
 show putS l a (saveA l a q) = if 24 < (saveA l a q).store.length then ([], 6) else putR l (saveA l a q)
 have hv : ∀ z ∈ savL (accF l a).1.store q, z.2 ≠ 0 := fun z hz => by
  rcases mem_savL.1 hz with ⟨h1, _⟩ | ⟨h1, rfl⟩
  ·obtain ⟨i, hi, e⟩ := List.getElem_of_mem h1
   have := r4 i hi
   rwa [List.getD_eq_getElem?_getD, List.getElem?_eq_getElem hi, Option.getD_some, e] at this
  ·exact h1
 by_cases h24 : 24 < (saveA l a q).store.length
 ·rw [if_pos h24]
  have he : (saveA l a q).emptyB = false := by
   unfold Ac.emptyB
   rw [decide_eq_false (p := (saveA l a q).store.length = 0) (by omega), Bool.and_false, Bool.and_false, Bool.and_false]
  unfold putS
  rw [if_pos ⟨he, .inl h24⟩]
 ·rw [if_neg h24]
  have hx : (saveA l a q).rightB = true := right_all _ (by rw [hA]; exact ha) r3 (by omega) (fun i hi => slB_of (savL_rise r1 q) hv i hi)
  have := put_eq h hl (saveA l a q)
  unfold putA at this
  rw [if_neg (by rw [hR]; simp), if_neg (by rw [hx]; simp), hA] at this
  exact this
theorem burn_eq {l : List Ac} (h : Rt l) (hl : OkL l) {a n : Nat} (ha64 : a < 18446744073709551616) : burnS l a n = burnR l a n := by
 have hR := (rt_iff hl).2 h
 unfold burnS burnR
 rw [if_neg (by rw [hR]; simp)]
 by_cases ha : a = 0
 ·rw [if_pos ha, if_pos ha]
 rw [if_neg ha, if_neg ha]
 unfold und
 by_cases hn : n ≤ (accF l a).1.bal
 ·rw [if_pos hn, decide_eq_false (by omega), if_neg (by simp), wiL_pl h.rise]
  have hb := h.bal_lt a
  have e : subN (accF l a).1.bal n = (accF l a).1.bal - n := by
   unfold subN
   rw [show (accF l a).1.bal + M256 - n = (accF l a).1.bal - n + M256 by omega, Nat.add_mod_right, Nat.mod_eq_of_lt (by omega)]
  rw [spendA_eq hn hb, e]
  exact (putS_bal h hl ha ha64 (by omega) (fun hf hm => by
   rw [accF_no hf] at hm
   exact absurd (Nat.zero_sub n) hm) (by have := h.fits; omega)).1
 ·rw [if_neg hn, decide_eq_true (by omega), if_pos rfl]
theorem mint_eq {l : List Ac} (h : Rt l) (hl : OkL l) {a n : Nat} (ha64 : a < 18446744073709551616) (hn : n < M256) : mintS l a n = mintR l a n := by
 have hR := (rt_iff hl).2 h
 have hbs : ∀ x ∈ bals l, x < M256 := fun x hx => by obtain ⟨p, hp, rfl⟩ := List.mem_map.1 hx; exact (hl p hp).2.1
 have e1 : (sumW (bals l)).1 = (bals l).sum := by rw [sumW_eq _ hbs]; exact Nat.mod_eq_of_lt h.fits
 have e2 : (sumW ([n] ++ bals l)).2 = ovr (sumW (bals l)).1 n := by
  rw [e1, sumW_eq ([n] ++ bals l) (fun x hx => by
   rcases List.mem_append.1 hx with hx | hx
   ·rw [List.mem_singleton.1 hx]; exact hn
   ·exact hbs x hx)]
  unfold ovr
  rw [List.sum_append, List.sum_cons, List.sum_nil, Nat.add_zero, Nat.add_comm]
 unfold mintS mintR
 rw [if_neg (by rw [hR]; simp), e2]
 cases ho : ovr (sumW (bals l)).1 n with
 | true => rw [if_pos (.inl rfl), if_pos rfl]
 | false =>
  rw [if_neg (show ¬ (false = true) by simp)]
  by_cases ha : a = 0
  ·rw [if_pos (.inr ha), if_pos ha]
  rw [if_neg (by simp [ha]), if_neg ha]
  have hs : (bals l).sum + n < M256 := by
   rw [e1] at ho
   unfold ovr at ho
   have := of_decide_eq_false ho
   omega
  have hle := h.bal_le a
  rw [gainA_eq (by omega), wiL_pl h.rise, wiL_pl h.rise, ← room_eq h]
  have e3 : addN (accF l a).1.bal n = (accF l a).1.bal + n := Nat.mod_eq_of_lt (by omega)
  rw [e3]
  by_cases hz : n = 0
  ·rw [if_pos hz, hz, Nat.add_zero, setB_self]
   have := (putS_bal (m := (accF l a).1.bal) h hl ha ha64 (h.bal_lt a) (fun hf hm => by rw [accF_no hf] at hm; exact absurd rfl hm) (by have := h.fits; omega)).1
   rwa [setB_self] at this
  rw [if_neg hz]
  cases hr : roomB l a with
  | true => exact (putS_bal h hl ha ha64 (by omega) (fun _ _ => hr) (by omega)).1
  | false =>
   rw [if_pos rfl]
   have he : (setB (accF l a).1 ((accF l a).1.bal + n)).emptyB = false := by
    unfold Ac.emptyB
    rw [setB_bal, decide_eq_false (p := (accF l a).1.bal + n = 0) (by omega), Bool.false_and]
   unfold putS
   rw [if_pos ⟨he, .inr hr⟩]
theorem move_eq {l : List Ac} (h : Rt l) (hl : OkL l) {f a n : Nat} (hf64 : f < 18446744073709551616) (ha64 : a < 18446744073709551616) : moveS l f a n = moveR l f a n := by
 have hR := (rt_iff hl).2 h
 rcases move_no (f := f) (a := a) (n := n) hl hf64 ha64 with ⟨hr, _⟩ | ⟨_, h0, hm⟩ | ⟨_, hf, ha, hlt, hm⟩ | ⟨_, hf, ha, hle, hn, hroom, hm⟩ | ⟨_, hf, ha, hle, hroom⟩
 ·rw [hR] at hr; cases hr
 ·rw [hm]
  unfold moveR
  by_cases hf : f = 0
  ·rw [if_pos hf]
  ·rw [if_neg hf, if_pos (h0.resolve_left hf)]
 ·rw [hm]
  unfold moveR und
  rw [if_neg hf, if_neg ha, decide_eq_true hlt, if_pos rfl]
 ·rw [hm]
  unfold moveR und
  have hfa : f ≠ a := fun e => by
   subst e
   cases hh : (accF l f).2 with
   | true => rw [room_had hh hf] at hroom; cases hroom
   | false =>
    rw [accF_no hh] at hle
    exact hn (Nat.le_zero.1 hle)
  rw [if_neg hf, if_neg ha, decide_eq_false (by omega), if_neg (by simp), if_neg hn, if_neg hfa, ← room_eq h, hroom, if_pos rfl]
 ·obtain ⟨m, hm, h1, h2, h3, h4⟩ := move_ok h hl hf ha hf64 ha64 hle hroom
  rw [hm]
  unfold moveR und
  rw [if_neg hf, if_neg ha, decide_eq_false (by omega), if_neg (by simp)]
  have hself : ∀ (_ : ∀ b, (accF m b).1 = (accF l b).1), (m, (0 : Int)) = (wiL l (accF l f).1, 0) := fun hv => by
   rw [wiL_pl h.rise, plL_self h hl hf hf64, h1.view h hv]
  by_cases hz : n = 0
  ·rw [if_pos hz]
   refine hself (fun b => ?_)
   rw [h4 b, hz, Nat.sub_zero, Nat.add_zero, setB_self, setB_self]
   split
   ·rfl
   ·split
    ·rename_i e; rw [e]
    ·split
     ·rename_i e; rw [e]
     ·rfl
  rw [if_neg hz]
  by_cases hfa : f = a
  ·rw [if_pos hfa]
   refine hself (fun b => ?_)
   rw [h4 b, if_pos hfa]
  rw [if_neg hfa, ← room_eq h, hroom hz, if_neg (by simp)]
  have hb := h.bal_lt f
  have hba := h.bal_lt a
  have e : subN (accF l f).1.bal n = (accF l f).1.bal - n := by
   unfold subN
   rw [show (accF l f).1.bal + M256 - n = (accF l f).1.bal - n + M256 by omega, Nat.add_mod_right, Nat.mod_eq_of_lt (by omega)]
  rw [e]
  obtain ⟨k1, k2, _⟩ := putS_bal (m := (accF l f).1.bal - n) h hl hf hf64 (by omega) (fun hx hm => by
   rw [accF_no hx] at hm
   exact absurd (Nat.zero_sub n) hm) (by have := h.fits; omega)
  rw [wiL_pl h.rise, wiL_pl k2.rise]
  have hA : (setB (accF l f).1 ((accF l f).1.bal - n)).addr = f := accF_addr l f
  have hq : accF (plL l (setB (accF l f).1 ((accF l f).1.bal - n))) a = accF l a := by
   rw [accF_pl h.rise, hA, if_neg (fun e => hfa e.symm)]
  unfold moveS at hm
  rw [if_neg (by rw [hR]; simp), if_neg (by simp [hf, ha]), if_pos hle, if_neg (by simp [hroom hz]), spendA_eq hle hb, k1] at hm
  have hg : gainA (plL l (setB (accF l f).1 ((accF l f).1.bal - n))) a n = setB (accF l a).1 (addN (accF l a).1.bal n) := by
   unfold gainA
   rw [hq]
   rfl
  dsimp only at hm
  rw [hg] at hm
  rw [putS_err0 hm]
end Go.Proofs.Ytiojfpdjnblkhaa
namespace Go.Proofs.Ytiojfpdjnblkhaa
open Go.ChangeShapes Go.WideShapes Go.ChangeAt Go.RowKit Go.Shelf

theorem run_bad {l : List Ac} (h : rightL l = false) (o : Opn) : runS l o = ([], 160) := by
 unfold runS putA saveS moveS mintS burnS
 simp [h]
def WnJ (w : World) (g0 g1 g2 : Nat) (oc : Array Value) (sv : Value) (W : World) : Prop := Cs W g0 39 oc ∧ Cs W g1 24 #[sv] ∧ Cs W g2 24 #[.slice none 0 0] ∧ Ext w W
theorem WnJ.ext {w : World} {g0 g1 g2 : Nat} {oc : Array Value} {sv : Value} {W W' : World} (h : WnJ w g0 g1 g2 oc sv W) (he : Ext W W') : WnJ w g0 g1 g2 oc sv W' := ⟨Cs.ext h.1 he, Cs.ext h.2.1 he, Cs.ext h.2.2.1 he, h.2.2.2.trans he⟩
theorem WnJ.done {w : World} {g0 g1 g2 : Nat} {oc : Array Value} {sv : Value} {r : List Ac × Int} {A : Option Addr} {c : Nat} {W : World} (h : WnJ w g0 g1 g2 oc sv W) (hg : w.heap.size ≤ g2) (hr : RwA w.heap.size W (.slice A r.1.length c) (.slice none 0 0) r.1) : MnE w g2 r (W.setCell ⟨g2, 0, none⟩ (.slice A r.1.length c)) :=
 ⟨A, c, by simpa using Cs.set h.2.2.1 0 (.slice A r.1.length c), hr.keptS (grown_set _ _ _ _) h.2.2.1, h.2.2.2.grown (grown_set _ _ _ _) hg⟩
set_option maxRecDepth 100000 in
set_option maxHeartbeats 8000000 in
theorem wants_any (sv : Value) (l : List Ac) (o : Opn) (uo vo : Value) (w : World) (hs : Acs w sv l) (hl : l.length ≤ 1000) (hsz : ∀ q ∈ l, q.code.length ≤ 1000000 ∧ q.store.length ≤ 1000000) (hok : o.ok) (hu : Bs w uo o.ac.code) (hv : Pks w vo o.ac.store) :
  Calls Try.prog 13 #[.agg (opc o uo vo), .agg #[sv]] w (RetS w (runS l o)) := by
 have HS := Lib.hid hs
 have HUV := Lib.hid (And.intro hu hv)
 have HSZ := Lib.hid hsz
 have HA := Lib.hid hok.2.1
 have HB := Lib.hid hok.2.2.1
 have HN := Lib.hid hok.2.2.2.1
 have HPRW := Lib.hid (And.intro hok.2.2.2.2.1 hok.2.2.2.2.2.1)
 have HAC := Lib.hid hok.2.2.2.2.2.2
 have HOKL : Hid (OkL l) := Lib.hid hs.oks
 obtain ⟨A0, c0, rfl, h1, h2⟩ := hs.len
 have hk1 := hok.1.1
 have hk2 := hok.1.2
 obtain ⟨w0, hw0⟩ : ∃ w0, (((w.alloc (.cells (opc o uo vo) 39)).alloc (.cells #[.slice A0 l.length c0] 24)).alloc (.cells #[.slice none 0 0] 24)) = w0 := ⟨_, rfl⟩
 have HJ0 : Hid (WnJ w w.heap.size (w.heap.size + 1) (w.heap.size + 1 + 1) (opc o uo vo) (.slice A0 l.length c0) w0) := by
  rw [← hw0]
  exact Lib.hid ⟨Cs.alloc (Cs.alloc (Cs.new _ _ _ _ rfl) _) _, Cs.alloc (Cs.new _ _ _ _ (by simp)) _, Cs.new _ _ _ _ (by simp), (((Ext.refl w).alloc _).alloc _).alloc _⟩
 have HW0 := Lib.hid hw0
 have q3 : w0.cell? ⟨w.heap.size + 1, 0, none⟩ = some (.slice A0 l.length c0) := HJ0.out.2.1.cell 0 _ rfl
 have HK := Lib.hid (kdI_cases o)
 clear hs hsz hw0 hok hu hv
 go_enter Try.func13, Try.ntmps13
 go_upto_region 1 with fail
 rw [HW0.out]
 clear HW0
 go_wp2_with fail
 refine (refRight_any _ l _ (HS.out.ext HJ0.out.2.2.2) (by omega)).mono ?_
 rintro e w1 ⟨rfl, he⟩
 have HJ1 := Lib.hid (HJ0.out.ext he)
 clear he HJ0 q3
 cases hr : rightL l with
 | false =>
  have HF := Lib.hid (run_bad hr o)
  clear hr
  have r1 : w1.cell? ⟨w.heap.size + 1 + 1, 0, none⟩ = some (.slice none 0 0) := HJ1.out.2.2.1.cell 0 _ rfl
  have p1 : w1.frozen? ⟨w.heap.size + 1 + 1, 0, none⟩ = false := HJ1.out.2.2.1.frozen 0
  go_wp2_with fail
  refine bodyPost_ret (results_st_err Try.results13 _ _ (w.heap.size + 1 + 1) (.slice none 0 0) rfl (by simpa using Cs.set HJ1.out.2.2.1 0 (.slice none 0 0))) rfl ?_
  exact ⟨_, by rw [HF.out]; rfl, by rw [HF.out]; exact RwA.nil _ _ _, HJ1.out.2.2.2.grown (grown_set _ _ _ _) (by omega)⟩
 | true =>
  have HRT := Lib.hid ((rt_iff HOKL.out).1 hr)
  have q0 : w1.cell? ⟨w.heap.size, 0, none⟩ = some (.int .i64 o.kind) := HJ1.out.1.cell 0 _ rfl
  have q1 : w1.cell? ⟨w.heap.size, 1, none⟩ = some (.int .u64 (o.a : Nat)) := HJ1.out.1.cell 1 _ rfl
  have q2 : w1.cell? ⟨w.heap.size, 2, none⟩ = some (.int .u64 (o.b : Nat)) := HJ1.out.1.cell 2 _ rfl
  have q3 : w1.cell? ⟨w.heap.size + 1, 0, none⟩ = some (.slice A0 l.length c0) := HJ1.out.2.1.cell 0 _ rfl
  have HWN := Lib.hid (op_word HJ1.out.1)
  have HPR := Lib.hid (op_range HJ1.out.1)
  clear hr
  go_upto_region 4 with fail
  rw [show (IntKind.u64.wrap o.kind).tmod 5 = kdI o from rfl]
  clear q0 hk1 hk2
  rcases HK.out with hk | hk | hk | hk | hk
  ·have HF := Lib.hid (show runS l o = putR l (oneA o.ac) by unfold runS; rw [if_pos hk]; exact put_eq HRT.out HOKL.out _)
   rw [hk]
   clear hk q1 q2 q3 HWN HN HA HB
   have HON := Lib.hid (fun W (h : Ext w W) => one_any o.ac uo vo W (HUV.out.1.ext h) (HUV.out.2.ext h))
   have HOX := Lib.hid (show (oneA o.ac).ok from HAC.out)
   have HXZ := Lib.hid (show (oneA o.ac).code.length ≤ 1000000 ∧ (oneA o.ac).store.length ≤ 1000000 by unfold oneA; simp; omega)
   obtain ⟨x, hx⟩ : ∃ x, oneA o.ac = x := ⟨_, rfl⟩
   rw [hx] at HON HOX HXZ HF
   clear hx
   have HPT := Lib.hid (fun u v W (h : Ext w W) (h1 : Bs W u x.code) (h2 : Pks W v x.store) => refPut_any (.slice A0 l.length c0) l x u v W (HS.out.ext h) HOX.out h1 h2 hl HSZ.out HXZ.out)
   obtain ⟨r, hr⟩ : ∃ r, putR l x = r := ⟨_, rfl⟩
   rw [hr] at HF HPT
   clear hr
   have HJ := HJ1
   go_upto_region 5 with fail
   refine wp_named fun a0 ha0 => ?_
   obtain ⟨fr, hfr⟩ : ∃ fr : (Nat → Value) → Act, ∀ V, fr V = ((((((((a0.put (some 16) (V 0)).put (some 17) (V 1)).put (some 18) (V 2)).put (some 19) (V 3)).put (some 20) (V 4)).put (some 21) (V 5)).put (some 22) (V 6)).put (some 5) (V 8)) := ⟨_, fun _ => rfl⟩
   rw [ha0] at hfr
   simp only [Act.put, List.setIfInBounds_toArray, List.set_cons_zero, List.set_cons_succ] at hfr
   have HFR := Lib.hid hfr
   clear hfr
   refine wp_region_inv (by kernel_rfl) (by kernel_rfl) (fun L A W => ∃ V : Nat → Value, A = fr V ∧ Vals (fun j => ([some (.agg #[.slice A0 l.length c0]), some (.pointer (some ⟨w.heap.size, 15, none⟩)), some (.agg (acc o.ac uo vo)), none, none, none, some (.int .i64 r.2), none, some (.int .i64 r.2)] : List (Option Value)).getD j none) L V ∧ (L 7 = false → WnJ w w.heap.size (w.heap.size + 1) (w.heap.size + 1 + 1) (opc o uo vo) (.slice A0 l.length c0) W) ∧ (L 7 = true → MnE w (w.heap.size + 1 + 1) r W) ∧ (L 7 = false → L 3 = true → AcP w.heap.size x W (V 3)) ∧ (L 7 = false → L 4 = true → PuR w.heap.size r W (V 4)) ∧ (L 7 = false → L 5 = true → StV w.heap.size r W (V 5))) ?_ ⟨?_, ?_, ?_, ?_, ?_, ?_, ?_, ?_, ?_, trivial⟩ ?_
   ·refine ⟨fun j => a0.tmps.getD (([16, 17, 18, 19, 20, 21, 22, 0, 5] : List Nat).getD j 0) undef, ?_, Vals.no _ _ _ (far_none _ _ rfl), fun _ => HJ.out.ext (Ext.refl _).drew, fun h0 => absurd h0 (by decide), fun h0 h1 => absurd h1 (by decide), fun h0 h1 => absurd h1 (by decide), fun h0 h1 => absurd h1 (by decide)⟩
    rw [HFR.out, ha0]
    rfl
   all_goals clear ha0
   ·rintro L A W K hL hC hW ⟨V, rfl, HV, s0, s1, f3, f4, f5⟩ hK
    have hB := s0 (hC.no (hC.no (hC.no hL 4 _ rfl rfl) 5 _ rfl rfl) 7 _ rfl rfl)
    have H := Lib.hid (show ∀ W', Ext W W' → K (fr (upd V 0 (.agg #[.slice A0 l.length c0]))) W' from fun W' he => hK _ _ ⟨_, rfl, HV.us 0 _ rfl, fun h0 => WnJ.ext (s0 (mnf h0 rfl)) he, fun h0 => MnE.ext (s1 (more_ne h0 rfl)) he, fun h0 h1 => (AcP.pk _ _).ext (f3 (mnf h0 rfl) (more_ne h1 rfl)) he, fun h0 h1 => PuR.ext (f4 (mnf h0 rfl) (more_ne h1 rfl)) he, fun h0 h1 => StV.ext (f5 (mnf h0 rfl) (more_ne h1 rfl)) he⟩)
    clear hK hC hW hL HV s0 s1 f3 f4 f5
    rw [HFR.out]
    have hcl : W.cell? ⟨(w.heap.size + 1), 0, none⟩ = some (.slice A0 l.length c0) := hB.2.1.cell 0 _ rfl
    clear hB
    go_wp2_with fail
    show K _ _; have := H.out _ (Ext.refl _); rw [HFR.out] at this
    exact this
   ·rintro L A W K hL hC hW ⟨V, rfl, HV, s0, s1, f3, f4, f5⟩ hK
    have H := Lib.hid (show ∀ W', Ext W W' → K (fr (upd V 1 (.pointer (some ⟨w.heap.size, 15, none⟩)))) W' from fun W' he => hK _ _ ⟨_, rfl, HV.us 1 _ rfl, fun h0 => WnJ.ext (s0 (mnf h0 rfl)) he, fun h0 => MnE.ext (s1 (more_ne h0 rfl)) he, fun h0 h1 => (AcP.pk _ _).ext (f3 (mnf h0 rfl) (more_ne h1 rfl)) he, fun h0 h1 => PuR.ext (f4 (mnf h0 rfl) (more_ne h1 rfl)) he, fun h0 h1 => StV.ext (f5 (mnf h0 rfl) (more_ne h1 rfl)) he⟩)
    clear hK hC hW hL HV s0 s1 f3 f4 f5
    rw [HFR.out]
    go_wp2_with fail
    show K _ _; have := H.out _ (Ext.refl _); rw [HFR.out] at this
    exact this
   ·rintro L A W K hL hC hW ⟨V, rfl, HV, s0, s1, f3, f4, f5⟩ hK
    have e1 := HV 1 _ rfl (hW 1 rfl)
    have hB := s0 (hC.no (hC.no (hC.no (hC.no hL 3 _ rfl rfl) 4 _ rfl rfl) 5 _ rfl rfl) 7 _ rfl rfl)
    have H := Lib.hid (show ∀ W', Ext W W' → K (fr (upd V 2 (.agg (acc o.ac uo vo)))) W' from fun W' he => hK _ _ ⟨_, rfl, HV.us 2 _ rfl, fun h0 => WnJ.ext (s0 (mnf h0 rfl)) he, fun h0 => MnE.ext (s1 (more_ne h0 rfl)) he, fun h0 h1 => (AcP.pk _ _).ext (f3 (mnf h0 rfl) (more_ne h1 rfl)) he, fun h0 h1 => PuR.ext (f4 (mnf h0 rfl) (more_ne h1 rfl)) he, fun h0 h1 => StV.ext (f5 (mnf h0 rfl) (more_ne h1 rfl)) he⟩)
    have HU := Lib.hid (show (upd V 2 (.agg (acc o.ac uo vo))) 1 = .pointer (some ⟨w.heap.size, 15, none⟩) from e1)
    clear hK hC hW hL HV s0 s1 f3 f4 f5
    rw [HFR.out, e1]
    clear e1
    have HWD := Lib.hid (op_range hB.1).2
    clear hB
    refine wpList_load_ac rfl (.tmp 17) rfl w.heap.size 15 o.ac uo vo rfl HWD.out ?_
    show K _ _; have := H.out _ (Ext.refl _); rw [HFR.out] at this
    obtain u1 := HU.out
    rw [u1] at this
    exact this
   ·rintro L A W K hL hC hW ⟨V, rfl, HV, s0, s1, f3, f4, f5⟩ hK
    have e2 := HV 2 _ rfl (hW 2 rfl)
    have hB := s0 (hC.no (hC.no (hC.no hL 4 _ rfl rfl) 5 _ rfl rfl) 7 _ rfl rfl)
    have H := Lib.hid (show ∀ v W', Ext W W' → (AcP w.heap.size x W' v) → K (fr (upd V 3 v)) W' from fun v W' he hp => hK _ _ ⟨_, rfl, HV.un 3 _ rfl, fun h0 => WnJ.ext (s0 (mnf h0 rfl)) he, fun h0 => MnE.ext (s1 (more_ne h0 rfl)) he, fun h0 h1 => hp, fun h0 h1 => PuR.ext (f4 (mnf h0 rfl) (more_ne h1 rfl)) he, fun h0 h1 => StV.ext (f5 (mnf h0 rfl) (more_ne h1 rfl)) he⟩)
    have HU := Lib.hid (show ∀ v, (upd V 3 v) 2 = .agg (acc o.ac uo vo) from fun v => e2)
    clear hK hC hW hL HV s0 s1 f3 f4 f5
    rw [HFR.out, e2]
    clear e2
    have HB := Lib.hid hB
    clear hB
    go_wp2_with fail
    refine (HON.out _ HB.out.2.2.2).mono ?_
    rintro e wx ⟨u', v', rfl, ho, he⟩
    have := H.out _ _ he (AcP.low ho HB.out.2.2.2.size)
    clear H
    go_wp2_with fail
    show K _ _
    rw [HFR.out] at this
    obtain u2 := HU.out _
    rw [u2] at this
    exact this
   ·rintro L A W K hL hC hW ⟨V, rfl, HV, s0, s1, f3, f4, f5⟩ hK
    have e0 := HV 0 _ rfl (hW 0 rfl)
    have hB := s0 (hC.no (hC.no hL 5 _ rfl rfl) 7 _ rfl rfl)
    have q3 := f3 (hC.no (hC.no hL 5 _ rfl rfl) 7 _ rfl rfl) (hW 3 rfl)
    obtain ⟨u3, v3, e3, y3⟩ := q3
    have H := Lib.hid (show ∀ v W', Ext W W' → (PuR w.heap.size r W' v) → K (fr (upd V 4 v)) W' from fun v W' he hp => hK _ _ ⟨_, rfl, HV.un 4 _ rfl, fun h0 => WnJ.ext (s0 (mnf h0 rfl)) he, fun h0 => MnE.ext (s1 (more_ne h0 rfl)) he, fun h0 h1 => (AcP.pk _ _).ext (f3 (mnf h0 rfl) (more_ne h1 rfl)) he, fun h0 h1 => hp, fun h0 h1 => StV.ext (f5 (mnf h0 rfl) (more_ne h1 rfl)) he⟩)
    have HU := Lib.hid (show ∀ v, (upd V 4 v) 0 = .agg #[.slice A0 l.length c0] ∧ (upd V 4 v) 3 = .agg (acc x u3 v3) from fun v => ⟨e0, e3⟩)
    clear hK hC hW hL HV s0 s1 f3 f4 f5
    rw [HFR.out, e0, e3]
    clear e0 e3
    have HB := Lib.hid hB
    clear hB
    have Y1 := Lib.hid y3
    clear y3
    go_wp2_with fail
    refine (HPT.out u3 v3 _ HB.out.2.2.2 Y1.out.1.bs Y1.out.2.pks).mono ?_
    rintro e wx ⟨v', rfl, hr, he⟩
    have := H.out _ _ he (PuR.new (hr.low HB.out.2.2.2.size))
    clear H
    go_wp2_with fail
    show K _ _
    rw [HFR.out] at this
    obtain ⟨u0, u3⟩ := HU.out _
    rw [u0, u3] at this
    exact this
   ·rintro L A W K hL hC hW ⟨V, rfl, HV, s0, s1, f3, f4, f5⟩ hK
    have q4 := f4 (hC.no hL 7 _ rfl rfl) (hW 4 rfl)
    obtain ⟨A4, c4, e4, k4⟩ := q4
    have H := Lib.hid (show ∀ v W', Ext W W' → (StV w.heap.size r W' v) → K (fr (upd V 5 v)) W' from fun v W' he hp => hK _ _ ⟨_, rfl, HV.un 5 _ rfl, fun h0 => WnJ.ext (s0 (mnf h0 rfl)) he, fun h0 => MnE.ext (s1 (more_ne h0 rfl)) he, fun h0 h1 => (AcP.pk _ _).ext (f3 (mnf h0 rfl) (more_ne h1 rfl)) he, fun h0 h1 => PuR.ext (f4 (mnf h0 rfl) (more_ne h1 rfl)) he, fun h0 h1 => hp⟩)
    have HU := Lib.hid (show ∀ v, (upd V 5 v) 4 = .tuple #[.agg #[.slice A4 r.1.length c4], .int .i64 r.2] from fun v => e4)
    clear hK hC hW hL HV s0 s1 f3 f4 f5
    rw [HFR.out, e4]
    clear e4
    go_wp2_with fail
    show K _ _; have := H.out (.agg #[.slice A4 r.1.length c4]) _ (Ext.refl _) (⟨_, _, rfl, k4⟩); rw [HFR.out] at this
    obtain u4 := HU.out _
    rw [u4] at this
    exact this
   ·rintro L A W K hL hC hW ⟨V, rfl, HV, s0, s1, f3, f4, f5⟩ hK
    have q4 := f4 (hC.no hL 7 _ rfl rfl) (hW 4 rfl)
    obtain ⟨A4, c4, e4, k4⟩ := q4
    have H := Lib.hid (show ∀ W', Ext W W' → K (fr (upd V 6 (.int .i64 r.2))) W' from fun W' he => hK _ _ ⟨_, rfl, HV.us 6 _ rfl, fun h0 => WnJ.ext (s0 (mnf h0 rfl)) he, fun h0 => MnE.ext (s1 (more_ne h0 rfl)) he, fun h0 h1 => (AcP.pk _ _).ext (f3 (mnf h0 rfl) (more_ne h1 rfl)) he, fun h0 h1 => PuR.ext (f4 (mnf h0 rfl) (more_ne h1 rfl)) he, fun h0 h1 => StV.ext (f5 (mnf h0 rfl) (more_ne h1 rfl)) he⟩)
    have HU := Lib.hid (show (upd V 6 (.int .i64 r.2)) 4 = .tuple #[.agg #[.slice A4 r.1.length c4], .int .i64 r.2] from e4)
    clear hK hC hW hL HV s0 s1 f3 f4 f5
    rw [HFR.out, e4]
    clear e4
    go_wp2_with fail
    show K _ _; have := H.out _ (Ext.refl _); rw [HFR.out] at this
    obtain u4 := HU.out
    rw [u4] at this
    exact this
   ·rintro L A W K hL hC hW ⟨V, rfl, HV, s0, s1, f3, f4, f5⟩ hK
    have hB := s0 hL
    have q5 := f5 hL (hW 5 rfl)
    obtain ⟨A5, c5, e5, k5⟩ := q5
    have H := Lib.hid (show ∀ W', (MnE w (w.heap.size + 1 + 1) r W') → K (fr (V)) W' from fun W' hA => hK _ _ ⟨V, rfl, HV.st 7 rfl, fun h0 => msf h0, fun h0 => hA, fun h0 h1 => msf h0, fun h0 h1 => msf h0, fun h0 h1 => msf h0⟩)
    have HU := Lib.hid (show (V) 5 = .agg #[.slice A5 r.1.length c5] from e5)
    clear hK hC hW hL HV s0 s1 f3 f4 f5
    rw [HFR.out, e5]
    clear e5
    have HB := Lib.hid hB
    have KH := Lib.hid k5
    have hc : W.cell? ⟨(w.heap.size + 1 + 1), 0, none⟩ = some (.slice none 0 0) := hB.2.2.1.cell 0 _ rfl
    have hf : W.frozen? ⟨(w.heap.size + 1 + 1), 0, none⟩ = false := hB.2.2.1.frozen 0
    clear hB k5
    go_wp2_with fail
    have HA := Lib.hid (HB.out.done (r := r) (by omega) KH.out)
    show K _ _; have := H.out _ HA.out; rw [HFR.out] at this
    obtain u5 := HU.out
    rw [u5] at this
    exact this
   ·rintro L A W K hL hC hW ⟨V, rfl, HV, s0, s1, f3, f4, f5⟩ hK
    have e6 := HV 6 _ rfl (hW 6 rfl)
    have H := Lib.hid (show ∀ W', Ext W W' → K (fr (upd V 8 (.int .i64 r.2))) W' from fun W' he => hK _ _ ⟨_, rfl, HV.us 8 _ rfl, fun h0 => WnJ.ext (s0 (mnf h0 rfl)) he, fun h0 => MnE.ext (s1 (more_ne h0 rfl)) he, fun h0 h1 => (AcP.pk _ _).ext (f3 (mnf h0 rfl) (more_ne h1 rfl)) he, fun h0 h1 => PuR.ext (f4 (mnf h0 rfl) (more_ne h1 rfl)) he, fun h0 h1 => StV.ext (f5 (mnf h0 rfl) (more_ne h1 rfl)) he⟩)
    have HU := Lib.hid (show (upd V 8 (.int .i64 r.2)) 6 = .int .i64 r.2 from e6)
    clear hK hC hW hL HV s0 s1 f3 f4 f5
    rw [HFR.out, e6]
    clear e6
    go_wp2_with fail
    show K _ _; have := H.out _ (Ext.refl _); rw [HFR.out] at this
    obtain u6 := HU.out
    rw [u6] at this
    exact this
   ·rintro L A W hL ⟨V, rfl, HV, s0, s1, f3, f4, f5⟩
    have e0 := HV 0 _ rfl (hL 0 (by simp))
    have e1 := HV 1 _ rfl (hL 1 (by simp))
    have e2 := HV 2 _ rfl (hL 2 (by simp))
    have e6 := HV 6 _ rfl (hL 6 (by simp))
    have e8 := HV 8 _ rfl (hL 8 (by simp))
    have hA := s1 (hL 7 (by simp))
    rw [HFR.out, e0, e1, e2, e6, e8]
    clear hL HV HFR e0 e1 e2 e6 e8 s0 s1 f3 f4 f5
    obtain ⟨A9, c9, h1', h2', h3'⟩ := hA
    have H1 := Lib.hid h1'
    have H2 := Lib.hid h2'
    have H3 := Lib.hid h3'
    clear h1' h2' h3'
    go_wp2_with fail
    refine bodyPost_ret (results_st_err Try.results13 _ _ (w.heap.size + 1 + 1) (.slice A9 r.1.length c9) rfl H1.out) rfl ?_
    exact ⟨_, by rw [HF.out]; rfl, by rw [HF.out]; exact H2.out, H3.out⟩
  ·have HF := Lib.hid (show runS l o = saveR l o.a o.pr by unfold runS; rw [if_neg (by rw [hk]; decide), if_pos hk]; exact save_eq HRT.out HOKL.out)
   have HPT := Lib.hid (refSave_any (.slice A0 l.length c0) l o.a o.pr w1 (HS.out.ext HJ1.out.2.2.2) hl HSZ.out HA.out HPRW.out)
   rw [hk]
   clear hk
   obtain ⟨r, hr⟩ : ∃ r, saveR l o.a o.pr = r := ⟨_, rfl⟩
   rw [hr] at HF HPT
   clear hr
   go_wp2_with ((with_reducible refine wpList_load_pair ?_ (.tmp 28) ?_ w.heap.size 7 o.pr ?_ ?_ ?_); (exact rfl); (exact rfl); (exact rfl); (exact HPR.out.1))
   refine HPT.out.mono ?_
   rintro e w9 ⟨v9, rfl, hr9, he⟩
   have HJ9 := Lib.hid (HJ1.out.ext he)
   have HR9 := Lib.hid (hr9.low HJ1.out.2.2.2.size)
   obtain ⟨A9, c9, rfl⟩ := hr9.shape
   have r1 : w9.cell? ⟨w.heap.size + 1 + 1, 0, none⟩ = some (.slice none 0 0) := HJ9.out.2.2.1.cell 0 _ rfl
   have p1 : w9.frozen? ⟨w.heap.size + 1 + 1, 0, none⟩ = false := HJ9.out.2.2.1.frozen 0
   clear he hr9 HPT q1 q2 q3
   go_wp2_with fail
   refine bodyPost_ret (results_st_err Try.results13 _ _ (w.heap.size + 1 + 1) (.slice A9 r.1.length c9) rfl (by simpa using Cs.set HJ9.out.2.2.1 0 (.slice A9 r.1.length c9))) rfl ?_
   exact ⟨_, by rw [HF.out]; rfl, by rw [HF.out]; exact HR9.out.keptS (grown_set _ _ _ _) HJ9.out.2.2.1, HJ9.out.2.2.2.grown (grown_set _ _ _ _) (by omega)⟩
  ·have HF := Lib.hid (show runS l o = moveR l o.a o.b o.n by unfold runS; rw [if_neg (by rw [hk]; decide), if_neg (by rw [hk]; decide), if_pos hk]; exact move_eq HRT.out HOKL.out HA.out HB.out)
   have HPT := Lib.hid (refMove_any (.slice A0 l.length c0) l o.a o.b o.n w1 (HS.out.ext HJ1.out.2.2.2) hl HSZ.out HA.out HB.out HN.out)
   rw [hk]
   clear hk
   obtain ⟨r, hr⟩ : ∃ r, moveR l o.a o.b o.n = r := ⟨_, rfl⟩
   rw [hr] at HF HPT
   clear hr
   go_wp2_with ((with_reducible refine wpList_load_wordIn ?_ (.tmp 40) ?_ w.heap.size 3 o.n ?_ ?_ ?_); (exact rfl); (exact rfl); (exact rfl); (exact HWN.out))
   refine HPT.out.mono ?_
   rintro e w9 ⟨v9, rfl, hr9, he⟩
   have HJ9 := Lib.hid (HJ1.out.ext he)
   have HR9 := Lib.hid (hr9.low HJ1.out.2.2.2.size)
   obtain ⟨A9, c9, rfl⟩ := hr9.shape
   have r1 : w9.cell? ⟨w.heap.size + 1 + 1, 0, none⟩ = some (.slice none 0 0) := HJ9.out.2.2.1.cell 0 _ rfl
   have p1 : w9.frozen? ⟨w.heap.size + 1 + 1, 0, none⟩ = false := HJ9.out.2.2.1.frozen 0
   clear he hr9 HPT q1 q2 q3
   go_wp2_with fail
   refine bodyPost_ret (results_st_err Try.results13 _ _ (w.heap.size + 1 + 1) (.slice A9 r.1.length c9) rfl (by simpa using Cs.set HJ9.out.2.2.1 0 (.slice A9 r.1.length c9))) rfl ?_
   exact ⟨_, by rw [HF.out]; rfl, by rw [HF.out]; exact HR9.out.keptS (grown_set _ _ _ _) HJ9.out.2.2.1, HJ9.out.2.2.2.grown (grown_set _ _ _ _) (by omega)⟩
  ·have HF := Lib.hid (show runS l o = mintR l o.a o.n by unfold runS; rw [if_neg (by rw [hk]; decide), if_neg (by rw [hk]; decide), if_neg (by rw [hk]; decide), if_pos hk]; exact mint_eq HRT.out HOKL.out HA.out HN.out)
   have HPT := Lib.hid (refMint_any (.slice A0 l.length c0) l o.a o.n w1 (HS.out.ext HJ1.out.2.2.2) hl HSZ.out HA.out HN.out)
   rw [hk]
   clear hk
   obtain ⟨r, hr⟩ : ∃ r, mintR l o.a o.n = r := ⟨_, rfl⟩
   rw [hr] at HF HPT
   clear hr
   go_wp2_with ((with_reducible refine wpList_load_wordIn ?_ (.tmp 50) ?_ w.heap.size 3 o.n ?_ ?_ ?_); (exact rfl); (exact rfl); (exact rfl); (exact HWN.out))
   refine HPT.out.mono ?_
   rintro e w9 ⟨v9, rfl, hr9, he⟩
   have HJ9 := Lib.hid (HJ1.out.ext he)
   have HR9 := Lib.hid (hr9.low HJ1.out.2.2.2.size)
   obtain ⟨A9, c9, rfl⟩ := hr9.shape
   have r1 : w9.cell? ⟨w.heap.size + 1 + 1, 0, none⟩ = some (.slice none 0 0) := HJ9.out.2.2.1.cell 0 _ rfl
   have p1 : w9.frozen? ⟨w.heap.size + 1 + 1, 0, none⟩ = false := HJ9.out.2.2.1.frozen 0
   clear he hr9 HPT q1 q2 q3
   go_wp2_with fail
   refine bodyPost_ret (results_st_err Try.results13 _ _ (w.heap.size + 1 + 1) (.slice A9 r.1.length c9) rfl (by simpa using Cs.set HJ9.out.2.2.1 0 (.slice A9 r.1.length c9))) rfl ?_
   exact ⟨_, by rw [HF.out]; rfl, by rw [HF.out]; exact HR9.out.keptS (grown_set _ _ _ _) HJ9.out.2.2.1, HJ9.out.2.2.2.grown (grown_set _ _ _ _) (by omega)⟩
  ·have HF := Lib.hid (show runS l o = burnR l o.a o.n by unfold runS; rw [if_neg (by rw [hk]; decide), if_neg (by rw [hk]; decide), if_neg (by rw [hk]; decide), if_neg (by rw [hk]; decide)]; exact burn_eq HRT.out HOKL.out HA.out)
   have HPT := Lib.hid (refBurn_any (.slice A0 l.length c0) l o.a o.n w1 (HS.out.ext HJ1.out.2.2.2) hl HSZ.out HA.out HN.out)
   rw [hk]
   clear hk
   obtain ⟨r, hr⟩ : ∃ r, burnR l o.a o.n = r := ⟨_, rfl⟩
   rw [hr] at HF HPT
   clear hr
   go_wp2_with ((with_reducible refine wpList_load_wordIn ?_ (.tmp 58) ?_ w.heap.size 3 o.n ?_ ?_ ?_); (exact rfl); (exact rfl); (exact rfl); (exact HWN.out))
   refine HPT.out.mono ?_
   rintro e w9 ⟨v9, rfl, hr9, he⟩
   have HJ9 := Lib.hid (HJ1.out.ext he)
   have HR9 := Lib.hid (hr9.low HJ1.out.2.2.2.size)
   obtain ⟨A9, c9, rfl⟩ := hr9.shape
   have r1 : w9.cell? ⟨w.heap.size + 1 + 1, 0, none⟩ = some (.slice none 0 0) := HJ9.out.2.2.1.cell 0 _ rfl
   have p1 : w9.frozen? ⟨w.heap.size + 1 + 1, 0, none⟩ = false := HJ9.out.2.2.1.frozen 0
   clear he hr9 HPT q1 q2 q3
   go_wp2_with fail
   refine bodyPost_ret (results_st_err Try.results13 _ _ (w.heap.size + 1 + 1) (.slice A9 r.1.length c9) rfl (by simpa using Cs.set HJ9.out.2.2.1 0 (.slice A9 r.1.length c9))) rfl ?_
   exact ⟨_, by rw [HF.out]; rfl, by rw [HF.out]; exact HR9.out.keptS (grown_set _ _ _ _) HJ9.out.2.2.1, HJ9.out.2.2.2.grown (grown_set _ _ _ _) (by omega)⟩
end Go.Proofs.Ytiojfpdjnblkhaa
