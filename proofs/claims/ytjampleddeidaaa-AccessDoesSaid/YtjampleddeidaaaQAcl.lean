/- Package access: one put into a row. -/
import Derived.Test.YtjampleddeidaaaQAci
import Derived.Test.YtjampleddeidaaaQAcj
import Derived.Test.YtjampleddeidaaaQAck
namespace Go.Proofs.Ytjampleddeidaaa
open Go.ChangeShapes Go.WideShapes Go.ChangeAt Go.RowKit Go.Shelf

set_option maxRecDepth 100000 in
theorem ptX_full {l : List Pe} {x : Pe} (hh : hasX l x.cod = false) (h : l.length = 400) : ptE l x = 6 ∧ ptL l x = [] ∧ ptB l x = false := by
  have e : ptE l x = 6 := by unfold ptE; rw [if_pos ⟨hh, h⟩]
  refine ⟨e, ?_, ?_⟩
  · unfold ptL; rw [e]; rfl
  · unfold ptB; rw [e]; rfl
set_option maxRecDepth 100000 in
theorem ptX_new {l : List Pe} {x : Pe} (hr : RiseX l) (hh : hasX l x.cod = false) (h : l.length ≠ 400) : ptE l x = 0 ∧ ptL l x = l.take (posX l x.cod) ++ x :: l.drop (posX l x.cod) ∧ ptB l x = true := by
  have e : ptE l x = 0 := by unfold ptE; rw [if_neg (fun k => h k.2)]
  refine ⟨e, ?_, ?_⟩
  · unfold ptL; rw [e, if_pos rfl, plX_eq hr, hh, if_neg (by simp), Nat.add_zero]
  · unfold ptB; rw [e, hh]; rfl
set_option maxRecDepth 100000 in
theorem ptX_old {l : List Pe} {x : Pe} (hr : RiseX l) (hh : hasX l x.cod = true) : ptE l x = 0 ∧ ptL l x = l.set (posX l x.cod) x ∧ ptB l x = false := by
  have e : ptE l x = 0 := by unfold ptE; rw [if_neg (fun k => by rw [hh] at k; cases k.1)]
  refine ⟨e, ?_, ?_⟩
  · unfold ptL; rw [e, if_pos rfl, plX_eq hr, hh, if_pos rfl, set_take l _ (hasX_lt hh)]
  · unfold ptB; rw [e, hh]; rfl

set_option maxRecDepth 100000 in
theorem results_tmp3X {fn : Func} {p q r : Tmp} (h : fn.results = #[.tmp p, .tmp q, .tmp r]) (P : Program) (tmps : Array Value) (w : World) : (results fn tmps).run P w = .ok (.tuple #[tmps.getD p undef, tmps.getD q undef, tmps.getD r undef]) w := by
  simp [results, h]
set_option maxRecDepth 100000 in
theorem grown_of {W W1 W2 : World} {row : Option Nat} (h : Ext W W1) (k : W1.grownBy W2 row) : W.grownBy W2 row := grown_thenL h k
set_option maxRecDepth 100000 in
theorem fA_drop (l : List Pe) (i : Nat) (h : i ≤ l.length) : (fA l).drop (i * 1) = fA (l.drop i) := by
  conv => lhs; rw [← List.take_append_drop i l, fA_app']
  rw [List.drop_left' (by rw [fA_len, List.length_take, Nat.min_eq_left h])]
set_option maxRecDepth 100000 in
theorem fA_set (l : List Pe) (i : Nat) (x : Pe) (h : i < l.length) : (fA l).take (i * 1) ++ (cA x).toList ++ (fA l).drop (i * 1 + 1) = fA (l.set i x) := by
  rw [fA_take, show i * 1 + 1 = (i + 1) * 1 by omega, fA_drop l (i + 1) (by omega), set_take l i h, fA_app']
  have e : ∀ m : List Pe, fA (x :: m) = (cA x).toList ++ fA m := fun m => by simp [fA]
  rw [e, List.append_assoc]
set_option maxRecDepth 100000 in
theorem OwnA.form {w : World} {base : Nat} {v : Value} {l : List Pe} (h : OwnA w base v l) (i : Nat) (hi : i < l.length) :
    ∃ g c, v = .slice (some ⟨g, 0, none⟩) l.length c ∧ l.length ≤ c ∧ c ≤ 9223372036854775807 ∧ base ≤ g ∧ w.cell? ⟨g, i, none⟩ = some (.int .u64 ((l.getD i pz0).addr : Nat)) ∧ w.frozen? ⟨g, i, none⟩ = false ∧
      ∀ x, okA x → OwnA (w.setCell ⟨g, i, none⟩ (.int .u64 (x.addr : Nat))) base v (l.set i x) ∧ w.grownBy (w.setCell ⟨g, i, none⟩ (.int .u64 (x.addr : Nat))) (some g) := by
  obtain ⟨A, c, rfl, h1, h2⟩ := h.sl
  obtain ⟨g, rfl⟩ := own_addrH h.1 (by omega)
  have hb : base ≤ g := (h.lt g rfl).1
  refine ⟨g, c, rfl, h1, h2, hb, ?_, World.ownsRow.frozenAt h.1 _, fun x hx => ?_⟩
  · obtain ⟨b, o, e, hr, _⟩ := h.xs.at i hi
    cases e
    have := ex_addr hr
    rwa [Nat.zero_add] at this
  · have hst := World.ownsRow.stored h.1 i (.int .u64 (x.addr : Nat))
    refine ⟨⟨?_, fun p hp => ?_⟩, hst.2⟩
    · have e : (fA l).set i (.int .u64 (x.addr : Nat)) = fA (l.set i x) := by
        rw [← fA_set l i x hi, List.set_eq_take_append_cons_drop, if_pos (by rw [fA_len]; omega), Nat.mul_one]
        simp [cA]
      rw [List.length_set, ← e]
      exact hst.1
    · rcases List.mem_or_eq_of_mem_set hp with hp | rfl
      · exact h.2 p hp
      · exact hx
set_option maxRecDepth 100000 in
set_option maxHeartbeats 4000000 in
theorem putA_any (sv : Value) (l : List Pe) (x : Pe) (lo : Nat) (w : World) (hs : OwnA w lo sv l) (hr : rsB l = true) (hx : okA x) (hlo : lo ≤ w.heap.size) :
    Calls Try.prog 54 #[sv, .int .u64 (x.addr : Nat), .func (.func 30) #[] #[]] w fun e w' => ∃ v', e = .returned (.tuple #[v', .bool (ptB l x), .int .i64 (ptE l x)]) ∧ OwnA w' lo v' (ptL l x) ∧ w.grownBy w' sv.ownBlock := by
  have HS := Lib.hid hs
  have HRI := Lib.hid (rs_iff.1 hr)
  have HOX := Lib.hid hx
  have HLO := Lib.hid hlo
  have HBL := Lib.hid (fun b (h : sv.ownBlock = some b) => (hs.lt b h).2)
  obtain ⟨A1, c, e1, h1, h2⟩ := hs.xs.len
  subst e1
  unfold maxLen at h2
  have HSE := Lib.hid (fun W (h : Ext w W) => searchA_any (.slice A1 l.length c) l x W (HS.out.xs.ext h) HRI.out.2 (by have := HRI.out.1; omega) hx)
  have HO := Lib.hid (fun h => ptX_old (x := x) HRI.out.2 h)
  have HN := Lib.hid (fun h h' => ptX_new (x := x) HRI.out.2 h h')
  have HU := Lib.hid (fun h h' => ptX_full (l := l) (x := x) h h')
  have HPL := Lib.hid (posX_le l x.cod)
  have HHL := Lib.hid (fun h => hasX_lt (l := l) (k := x.cod) h)
  clear hs hr hx
  obtain ⟨i, hi⟩ : ∃ i, posX l x.cod = i := ⟨_, rfl⟩
  obtain ⟨hb, hhb⟩ : ∃ b, hasX l x.cod = b := ⟨_, rfl⟩
  rw [hi, hhb] at HSE
  rw [hi, hhb] at HO HN
  rw [hhb] at HU
  rw [hi] at HPL
  rw [hi, hhb] at HHL
  clear hi hhb hlo
  go_enter Try.func54, Try.ntmps54
  go_wp2_with fail
  have HE1 := Lib.hid (Ext.refl w)
  have HS1 := HS
  refine (HSE.out _ HE1.out).mono ?_
  rintro e w2 ⟨rfl, he⟩
  have HE2 := Lib.hid (HE1.out.trans he)
  have HS2 := Lib.hid (HS.out.ext HE2.out)
  clear he HE1 HSE
  cases hb with
  | true =>
    have HF := Lib.hid (HO.out rfl)
    have HIL := Lib.hid (HHL.out rfl)
    clear HO HN HU HHL
    obtain ⟨g, c7, e7, k1, k2, hbg, hcell, hfz, hst⟩ := HS2.out.form i HIL.out
    injection e7 with ea eb ec
    subst ea ec
    clear eb
    have HST := Lib.hid (hst x HOX.out)
    clear hst
    have hd : decide (i < l.length) = true := decide_eq_true HIL.out
    have hd2 : decide ((i : Int) < (l.length : Int)) = true := decide_eq_true (by have := HIL.out; omega)
    go_wp2_with fail
    refine bodyPost_ret (results_tmp3X rfl _ _ _) rfl ?_
    exact ⟨_, by rw [HF.out.1, HF.out.2.2]; rfl, by rw [HF.out.2.1]; exact HST.out.1, grown_of HE2.out HST.out.2⟩
  | false =>
    clear HO HHL
    by_cases hf : l.length = 400
    · have f1 : (((l.length : Nat) : Int) == 400) = true := by rw [beq_iff_eq]; omega
      have HF := Lib.hid (HU.out rfl hf)
      clear hf HU HN
      go_wp2_with fail
      refine bodyPost_ret (results_tmp3X rfl _ _ _) rfl ?_
      exact ⟨_, by rw [HF.out.1, HF.out.2.2]; rfl, by rw [HF.out.2.1]; exact OwnA.nil _ _, grown_of_ext HE2.out _⟩
    · have f1 : (((l.length : Nat) : Int) == 400) = false := by rw [beq_eq_false_iff_ne]; omega
      have HF := Lib.hid (HN.out rfl hf)
      clear hf HU HN
      go_wp2_with fail
      refine (insertA_any _ i w2.heap.size l x lo _ (HS2.out.ext ((Ext.refl _).alloc _)) HPL.out (by have := HRI.out.1; omega) (by rw [World.size_alloc]; have := HE2.out.size; have := HLO.out; omega) HOX.out (Cs.new _ _ _ _ rfl) (fun e => by have := HBL.out _ e; have := HE2.out.size; omega)).mono ?_
      rintro e w8 ⟨v8, rfl, ho, hg⟩
      have HO8 := Lib.hid ho
      have HG8 := Lib.hid (grown_thenL (HE2.out.trans ((Ext.refl _).alloc _)) hg)
      clear ho hg
      go_wp2_with fail
      refine bodyPost_ret (results_tmp3X rfl _ _ _) rfl ?_
      exact ⟨_, by rw [HF.out.1, HF.out.2.2]; rfl, by rw [HF.out.2.1]; exact HO8.out, HG8.out⟩

set_option maxRecDepth 100000 in
theorem fS_drop (l : List Pe) (i : Nat) (h : i ≤ l.length) : (fS l).drop (i * 5) = fS (l.drop i) := by
  conv => lhs; rw [← List.take_append_drop i l, fS_app']
  rw [List.drop_left' (by rw [fS_len, List.length_take, Nat.min_eq_left h])]
set_option maxRecDepth 100000 in
theorem fS_set (l : List Pe) (i : Nat) (x : Pe) (h : i < l.length) : (fS l).take (i * 5) ++ (cS x).toList ++ (fS l).drop (i * 5 + 5) = fS (l.set i x) := by
  rw [fS_take, show i * 5 + 5 = (i + 1) * 5 by omega, fS_drop l (i + 1) (by omega), set_take l i h, fS_app']
  have e : ∀ m : List Pe, fS (x :: m) = (cS x).toList ++ fS m := fun m => by simp [fS]
  rw [e, List.append_assoc]
set_option maxRecDepth 100000 in
theorem OwnS.form {W : World} {base : Nat} {v : Value} {l : List Pe} (h : OwnS W base v l) (i : Nat) (hi : i < l.length) :
    ∃ (g c : Nat) (cur : Array Value), v = .slice (some ⟨g, 0, none⟩) l.length c ∧ l.length ≤ c ∧ c ≤ 9223372036854775807 ∧ base ≤ g ∧ Cs W g 32 cur ∧ i * 5 + 5 ≤ cur.size ∧
      ∀ (x : Pe) (W' : World), okS x → Cs W' g 32 (layC cur (i * 5) (cS x)) → OwnS W' base v (l.set i x) := by
  obtain ⟨A, c, rfl, h1, h2⟩ := h.sl
  obtain ⟨g, rfl⟩ := own_addrH h.1 (by omega)
  obtain ⟨cur, h3, h4, h5, h6, h7⟩ := own_block2H h.1
  have hsz : l.length * 5 ≤ cur.size := by rw [h6]; omega
  refine ⟨g, c, cur, rfl, h1, h2, h4, h5, by omega, fun x W' hx hc => ⟨?_, fun p hp => ?_⟩⟩
  · rw [List.length_set]
    have e : (layC cur (i * 5) (cS x)).toList.take (l.length * 5) = fS (l.set i x) := by
      rw [← fS_set l i x hi, ← h7]
      unfold layC
      have e5 : (cS x).toList.length = 5 := rfl
      have es : (cS x).size = 5 := rfl
      have hcl : cur.toList.length = cur.size := Array.length_toList
      rw [List.toList_toArray, es, List.take_append, List.take_append, List.take_take, List.take_take]
      simp only [List.length_append, List.length_take, e5, hcl]
      have a1 : min (i * 5) cur.size = i * 5 := Nat.min_eq_left (by omega)
      rw [a1, Nat.min_eq_right (show i * 5 ≤ l.length * 5 by omega), Nat.min_eq_left (show i * 5 ≤ l.length * 5 by omega), List.take_of_length_le (show (cS x).toList.length ≤ l.length * 5 - i * 5 by rw [e5]; omega), List.drop_take, show l.length * 5 - (i * 5 + 5) = l.length * 5 - (i * 5 + 5) from rfl]
    refine ⟨by rw [fS_len, List.length_set], .inr ⟨g, c, layC cur (i * 5) (cS x), rfl, h4, hc, h1, by unfold maxLen; omega, ?_, e⟩⟩
    unfold layC
    have es : (cS x).toList.length = 5 := rfl
    have es2 : (cS x).size = 5 := rfl
    simp only [List.size_toArray, List.length_append, List.length_take, List.length_drop, Array.length_toList, es, es2]
    omega
  · rcases List.mem_or_eq_of_mem_set hp with hp | rfl
    · exact h.2 p hp
    · exact hx
set_option maxRecDepth 100000 in
set_option maxHeartbeats 4000000 in
theorem putS_any (sv : Value) (l : List Pe) (x : Pe) (lo : Nat) (w : World) (hs : OwnS w lo sv l) (hr : rsB l = true) (hx : okS x) (hlo : lo ≤ w.heap.size) :
    Calls Try.prog 63 #[sv, .agg (cS x), .func (.func 22) #[] #[]] w fun e w' => ∃ v', e = .returned (.tuple #[v', .bool (ptB l x), .int .i64 (ptE l x)]) ∧ OwnS w' lo v' (ptL l x) ∧ w.grownBy w' sv.ownBlock := by
  have HS := Lib.hid hs
  have HRI := Lib.hid (rs_iff.1 hr)
  have HOX := Lib.hid hx
  have HLO := Lib.hid hlo
  have HBL := Lib.hid (fun b (h : sv.ownBlock = some b) => (hs.lt b h).2)
  obtain ⟨A1, c, e1, h1, h2⟩ := hs.xs.len
  subst e1
  unfold maxLen at h2
  have HSE := Lib.hid (fun W (h : Ext w W) => searchS_any (.slice A1 l.length c) l x W (HS.out.xs.ext h) HRI.out.2 (by have := HRI.out.1; omega) hx)
  have HO := Lib.hid (fun h => ptX_old (x := x) HRI.out.2 h)
  have HN := Lib.hid (fun h h' => ptX_new (x := x) HRI.out.2 h h')
  have HU := Lib.hid (fun h h' => ptX_full (l := l) (x := x) h h')
  have HPL := Lib.hid (posX_le l x.cod)
  have HHL := Lib.hid (fun h => hasX_lt (l := l) (k := x.cod) h)
  clear hs hr hx
  obtain ⟨i, hi⟩ : ∃ i, posX l x.cod = i := ⟨_, rfl⟩
  obtain ⟨hb, hhb⟩ : ∃ b, hasX l x.cod = b := ⟨_, rfl⟩
  rw [hi, hhb] at HSE
  rw [hi, hhb] at HO HN
  rw [hhb] at HU
  rw [hi] at HPL
  rw [hi, hhb] at HHL
  clear hi hhb hlo
  obtain ⟨w1, hw1⟩ : ∃ w1, w.alloc (.cells (cS x) 32) = w1 := ⟨_, rfl⟩
  have HB1 : Hid (BS w1 w.heap.size x) := Lib.hid (by rw [← hw1]; exact Cs.new _ _ _ _ rfl)
  have HE1 : Hid (Ext w w1) := Lib.hid (by rw [← hw1]; exact (Ext.refl w).alloc _)
  obtain ⟨xc, hxc⟩ : ∃ xc, cS x = xc := ⟨_, rfl⟩
  rw [hxc] at hw1 ⊢
  have HW1 := Lib.hid hw1
  clear hw1 hxc
  go_enter Try.func63, Try.ntmps63
  go_upto_region 1 with fail
  rw [HW1.out]
  clear HW1
  obtain ⟨g4, hg4⟩ : ∃ g, w.heap.size = g := ⟨_, rfl⟩
  rw [hg4] at HB1 ⊢
  have HG4 := Lib.hid hg4
  clear hg4
  have HXR := Lib.hid (Cs.rg HB1.out)
  go_wp2_with ((with_reducible refine wpList_loadS ?_ (.tmp 4) ?_ g4 0 x ?_ ?_ ?_); (exact rfl); (exact rfl); (exact rfl); (exact HXR.out))
  refine (HSE.out _ HE1.out).mono ?_
  rintro e w2 ⟨rfl, he⟩
  have HE2 := Lib.hid (HE1.out.trans he)
  have HS2 := Lib.hid (HS.out.ext HE2.out)
  have HXR := Lib.hid (Cs.rg (HB1.out.ext he))
  clear he HE1 HSE
  cases hb with
  | true =>
    have HF := Lib.hid (HO.out rfl)
    have HIL := Lib.hid (HHL.out rfl)
    clear HO HN HU HHL
    obtain ⟨g, c7, cur, e7, k1, k2, hbg, hcs, hsz, hst⟩ := HS2.out.form i HIL.out
    injection e7 with ea eb ec
    subst ea ec
    clear eb
    have HST := Lib.hid (fun W' h => hst x W' HOX.out h)
    have HCS := Lib.hid hcs
    have HSZ := Lib.hid hsz
    clear hst hcs hsz
    have hd : decide (i < l.length) = true := decide_eq_true HIL.out
    have hd2 : decide ((i : Int) < (l.length : Int)) = true := decide_eq_true (by have := HIL.out; omega)
    go_wp2_with (first
      | ((with_reducible refine wpList_loadS ?_ (.tmp 4) ?_ g4 0 x ?_ ?_ ?_); (exact rfl); (exact rfl); (exact rfl); (exact HXR.out))
      | ((with_reducible refine wpList_store_in ?_ ?_ 32 (.tmp 23) (.tmp 22) ?_ g (i * 5) 32 cur (cS x) ?_ ?_ ?_ ?_ ?_ ?_ ?_); (exact rfl); (exact rfl); (exact rfl); (exact rfl); (exact rfl); (exact HCS.out); (exact infoS); (exact HSZ.out); (exact cS_one x); intro w9 k9 g9; have K9 := Lib.hid k9; have G9 := Lib.hid g9; clear k9 g9))
    refine bodyPost_ret (results_tmp3X rfl _ _ _) rfl ?_
    exact ⟨_, by rw [HF.out.1, HF.out.2.2]; rfl, by rw [HF.out.2.1]; exact HST.out _ K9.out, grown_of HE2.out G9.out⟩
  | false =>
    clear HO HHL
    by_cases hf : l.length = 400
    · have f1 : (((l.length : Nat) : Int) == 400) = true := by rw [beq_iff_eq]; omega
      have HF := Lib.hid (HU.out rfl hf)
      clear hf HU HN
      go_wp2_with fail
      refine bodyPost_ret (results_tmp3X rfl _ _ _) rfl ?_
      exact ⟨_, by rw [HF.out.1, HF.out.2.2]; rfl, by rw [HF.out.2.1]; exact OwnS.nil _ _, grown_of_ext HE2.out _⟩
    · have f1 : (((l.length : Nat) : Int) == 400) = false := by rw [beq_eq_false_iff_ne]; omega
      have HF := Lib.hid (HN.out rfl hf)
      clear hf HU HN
      go_wp2_with (first
          | ((with_reducible refine wpList_loadS ?_ (.tmp 4) ?_ g4 0 x ?_ ?_ ?_); (exact rfl); (exact rfl); (exact rfl); (exact HXR.out))
          | ((with_reducible refine wpList_build_one ?_ (.tmp 31) 23 32 ?_ Try.underlying23 _ 5 40 infoS3 (by decide) (by decide) (cS x) rfl ?_ ?_); (exact rfl); (exact rfl); (exact rfl)))
      refine (insertS_any _ i w2.heap.size l x lo _ (HS2.out.ext ((Ext.refl _).alloc _)) HPL.out (by have := HRI.out.1; omega) (by rw [World.size_alloc]; have := HE2.out.size; have := HLO.out; omega) HOX.out (Cs.new _ _ _ _ rfl) (fun e => by have := HBL.out _ e; have := HE2.out.size; omega)).mono ?_
      rintro e w8 ⟨v8, rfl, ho, hg⟩
      have HO8 := Lib.hid ho
      have HG8 := Lib.hid (grown_thenL (HE2.out.trans ((Ext.refl _).alloc _)) hg)
      clear ho hg
      go_wp2_with fail
      refine bodyPost_ret (results_tmp3X rfl _ _ _) rfl ?_
      exact ⟨_, by rw [HF.out.1, HF.out.2.2]; rfl, by rw [HF.out.2.1]; exact HO8.out, HG8.out⟩

set_option maxRecDepth 100000 in
theorem fP_drop (l : List Pe) (i : Nat) (h : i ≤ l.length) : (fP l).drop (i * 9) = fP (l.drop i) := by
  conv => lhs; rw [← List.take_append_drop i l, fP_app']
  rw [List.drop_left' (by rw [fP_len, List.length_take, Nat.min_eq_left h])]
set_option maxRecDepth 100000 in
theorem fP_set (l : List Pe) (i : Nat) (x : Pe) (h : i < l.length) : (fP l).take (i * 9) ++ (cP x).toList ++ (fP l).drop (i * 9 + 9) = fP (l.set i x) := by
  rw [fP_take, show i * 9 + 9 = (i + 1) * 9 by omega, fP_drop l (i + 1) (by omega), set_take l i h, fP_app']
  have e : ∀ m : List Pe, fP (x :: m) = (cP x).toList ++ fP m := fun m => by simp [fP]
  rw [e, List.append_assoc]
set_option maxRecDepth 100000 in
theorem OwnP.form {W : World} {base : Nat} {v : Value} {l : List Pe} (h : OwnP W base v l) (i : Nat) (hi : i < l.length) :
    ∃ (g c : Nat) (cur : Array Value), v = .slice (some ⟨g, 0, none⟩) l.length c ∧ l.length ≤ c ∧ c ≤ 9223372036854775807 ∧ base ≤ g ∧ Cs W g 69 cur ∧ i * 9 + 9 ≤ cur.size ∧
      ∀ (x : Pe) (W' : World), okP x → Cs W' g 69 (layC cur (i * 9) (cP x)) → OwnP W' base v (l.set i x) := by
  obtain ⟨A, c, rfl, h1, h2⟩ := h.sl
  obtain ⟨g, rfl⟩ := own_addrH h.1 (by omega)
  obtain ⟨cur, h3, h4, h5, h6, h7⟩ := own_block2H h.1
  have hsz : l.length * 9 ≤ cur.size := by rw [h6]; omega
  refine ⟨g, c, cur, rfl, h1, h2, h4, h5, by omega, fun x W' hx hc => ⟨?_, fun p hp => ?_⟩⟩
  · rw [List.length_set]
    have e : (layC cur (i * 9) (cP x)).toList.take (l.length * 9) = fP (l.set i x) := by
      rw [← fP_set l i x hi, ← h7]
      unfold layC
      have e5 : (cP x).toList.length = 9 := rfl
      have es : (cP x).size = 9 := rfl
      have hcl : cur.toList.length = cur.size := Array.length_toList
      rw [List.toList_toArray, es, List.take_append, List.take_append, List.take_take, List.take_take]
      simp only [List.length_append, List.length_take, e5, hcl]
      have a1 : min (i * 9) cur.size = i * 9 := Nat.min_eq_left (by omega)
      rw [a1, Nat.min_eq_right (show i * 9 ≤ l.length * 9 by omega), Nat.min_eq_left (show i * 9 ≤ l.length * 9 by omega), List.take_of_length_le (show (cP x).toList.length ≤ l.length * 9 - i * 9 by rw [e5]; omega), List.drop_take, show l.length * 9 - (i * 9 + 9) = l.length * 9 - (i * 9 + 9) from rfl]
    refine ⟨by rw [fP_len, List.length_set], .inr ⟨g, c, layC cur (i * 9) (cP x), rfl, h4, hc, h1, by unfold maxLen; omega, ?_, e⟩⟩
    unfold layC
    have es : (cP x).toList.length = 9 := rfl
    have es2 : (cP x).size = 9 := rfl
    simp only [List.size_toArray, List.length_append, List.length_take, List.length_drop, Array.length_toList, es, es2]
    omega
  · rcases List.mem_or_eq_of_mem_set hp with hp | rfl
    · exact h.2 p hp
    · exact hx
set_option maxRecDepth 100000 in
set_option maxHeartbeats 4000000 in
theorem putP_any (sv : Value) (l : List Pe) (x : Pe) (lo : Nat) (w : World) (hs : OwnP w lo sv l) (hr : rsB l = true) (hx : okP x) (hlo : lo ≤ w.heap.size) :
    Calls Try.prog 66 #[sv, .agg (cP x), .func (.func 33) #[] #[]] w fun e w' => ∃ v', e = .returned (.tuple #[v', .bool (ptB l x), .int .i64 (ptE l x)]) ∧ OwnP w' lo v' (ptL l x) ∧ w.grownBy w' sv.ownBlock := by
  have HS := Lib.hid hs
  have HRI := Lib.hid (rs_iff.1 hr)
  have HOX := Lib.hid hx
  have HLO := Lib.hid hlo
  have HBL := Lib.hid (fun b (h : sv.ownBlock = some b) => (hs.lt b h).2)
  obtain ⟨A1, c, e1, h1, h2⟩ := hs.xs.len
  subst e1
  unfold maxLen at h2
  have HSE := Lib.hid (fun W (h : Ext w W) => searchP_any (.slice A1 l.length c) l x W (HS.out.xs.ext h) HRI.out.2 (by have := HRI.out.1; omega) hx)
  have HO := Lib.hid (fun h => ptX_old (x := x) HRI.out.2 h)
  have HN := Lib.hid (fun h h' => ptX_new (x := x) HRI.out.2 h h')
  have HU := Lib.hid (fun h h' => ptX_full (l := l) (x := x) h h')
  have HPL := Lib.hid (posX_le l x.cod)
  have HHL := Lib.hid (fun h => hasX_lt (l := l) (k := x.cod) h)
  clear hs hr hx
  obtain ⟨i, hi⟩ : ∃ i, posX l x.cod = i := ⟨_, rfl⟩
  obtain ⟨hb, hhb⟩ : ∃ b, hasX l x.cod = b := ⟨_, rfl⟩
  rw [hi, hhb] at HSE
  rw [hi, hhb] at HO HN
  rw [hhb] at HU
  rw [hi] at HPL
  rw [hi, hhb] at HHL
  clear hi hhb hlo
  obtain ⟨w1, hw1⟩ : ∃ w1, w.alloc (.cells (cP x) 69) = w1 := ⟨_, rfl⟩
  have HB1 : Hid (BP w1 w.heap.size x) := Lib.hid (by rw [← hw1]; exact Cs.new _ _ _ _ rfl)
  have HE1 : Hid (Ext w w1) := Lib.hid (by rw [← hw1]; exact (Ext.refl w).alloc _)
  obtain ⟨xc, hxc⟩ : ∃ xc, cP x = xc := ⟨_, rfl⟩
  rw [hxc] at hw1 ⊢
  have HW1 := Lib.hid hw1
  clear hw1 hxc
  go_enter Try.func66, Try.ntmps66
  go_upto_region 1 with fail
  rw [HW1.out]
  clear HW1
  obtain ⟨g4, hg4⟩ : ∃ g, w.heap.size = g := ⟨_, rfl⟩
  rw [hg4] at HB1 ⊢
  have HG4 := Lib.hid hg4
  clear hg4
  have HXR := Lib.hid (Cs.rg HB1.out)
  go_wp2_with ((with_reducible refine wpList_loadP ?_ (.tmp 4) ?_ g4 0 x ?_ ?_ ?_); (exact rfl); (exact rfl); (exact rfl); (exact HXR.out))
  refine (HSE.out _ HE1.out).mono ?_
  rintro e w2 ⟨rfl, he⟩
  have HE2 := Lib.hid (HE1.out.trans he)
  have HS2 := Lib.hid (HS.out.ext HE2.out)
  have HXR := Lib.hid (Cs.rg (HB1.out.ext he))
  clear he HE1 HSE
  cases hb with
  | true =>
    have HF := Lib.hid (HO.out rfl)
    have HIL := Lib.hid (HHL.out rfl)
    clear HO HN HU HHL
    obtain ⟨g, c7, cur, e7, k1, k2, hbg, hcs, hsz, hst⟩ := HS2.out.form i HIL.out
    injection e7 with ea eb ec
    subst ea ec
    clear eb
    have HST := Lib.hid (fun W' h => hst x W' HOX.out h)
    have HCS := Lib.hid hcs
    have HSZ := Lib.hid hsz
    clear hst hcs hsz
    have hd : decide (i < l.length) = true := decide_eq_true HIL.out
    have hd2 : decide ((i : Int) < (l.length : Int)) = true := decide_eq_true (by have := HIL.out; omega)
    go_wp2_with (first
      | ((with_reducible refine wpList_loadP ?_ (.tmp 4) ?_ g4 0 x ?_ ?_ ?_); (exact rfl); (exact rfl); (exact rfl); (exact HXR.out))
      | ((with_reducible refine wpList_store_in ?_ ?_ 69 (.tmp 23) (.tmp 22) ?_ g (i * 9) 69 cur (cP x) ?_ ?_ ?_ ?_ ?_ ?_ ?_); (exact rfl); (exact rfl); (exact rfl); (exact rfl); (exact rfl); (exact HCS.out); (exact infoP); (exact HSZ.out); (exact cP_one x); intro w9 k9 g9; have K9 := Lib.hid k9; have G9 := Lib.hid g9; clear k9 g9))
    refine bodyPost_ret (results_tmp3X rfl _ _ _) rfl ?_
    exact ⟨_, by rw [HF.out.1, HF.out.2.2]; rfl, by rw [HF.out.2.1]; exact HST.out _ K9.out, grown_of HE2.out G9.out⟩
  | false =>
    clear HO HHL
    by_cases hf : l.length = 400
    · have f1 : (((l.length : Nat) : Int) == 400) = true := by rw [beq_iff_eq]; omega
      have HF := Lib.hid (HU.out rfl hf)
      clear hf HU HN
      go_wp2_with fail
      refine bodyPost_ret (results_tmp3X rfl _ _ _) rfl ?_
      exact ⟨_, by rw [HF.out.1, HF.out.2.2]; rfl, by rw [HF.out.2.1]; exact OwnP.nil _ _, grown_of_ext HE2.out _⟩
    · have f1 : (((l.length : Nat) : Int) == 400) = false := by rw [beq_eq_false_iff_ne]; omega
      have HF := Lib.hid (HN.out rfl hf)
      clear hf HU HN
      go_wp2_with (first
          | ((with_reducible refine wpList_loadP ?_ (.tmp 4) ?_ g4 0 x ?_ ?_ ?_); (exact rfl); (exact rfl); (exact rfl); (exact HXR.out))
          | ((with_reducible refine wpList_build_one ?_ (.tmp 31) 24 69 ?_ Try.underlying24 _ 9 72 infoP3 (by decide) (by decide) (cP x) rfl ?_ ?_); (exact rfl); (exact rfl); (exact rfl)))
      refine (insertP_any _ i w2.heap.size l x lo _ (HS2.out.ext ((Ext.refl _).alloc _)) HPL.out (by have := HRI.out.1; omega) (by rw [World.size_alloc]; have := HE2.out.size; have := HLO.out; omega) HOX.out (Cs.new _ _ _ _ rfl) (fun e => by have := HBL.out _ e; have := HE2.out.size; omega)).mono ?_
      rintro e w8 ⟨v8, rfl, ho, hg⟩
      have HO8 := Lib.hid ho
      have HG8 := Lib.hid (grown_thenL (HE2.out.trans ((Ext.refl _).alloc _)) hg)
      clear ho hg
      go_wp2_with fail
      refine bodyPost_ret (results_tmp3X rfl _ _ _) rfl ?_
      exact ⟨_, by rw [HF.out.1, HF.out.2.2]; rfl, by rw [HF.out.2.1]; exact HO8.out, HG8.out⟩
end Go.Proofs.Ytjampleddeidaaa
