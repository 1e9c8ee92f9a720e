/- slices.Delete at slots. -/
import Derived.Test.YtiojfpdjnblkhaaQRun
namespace Go.Proofs.Ytiojfpdjnblkhaa
open Go.ChangeShapes Go.WideShapes Go.ChangeAt Go.RowKit Go.Shelf

theorem own_cap {W : World} {lo s n c m g : Nat} {e : TypeId} {cs : List Value} (h : W.ownsRow lo e s (.slice (some ⟨g, 0, none⟩) n c) m cs) : n ≤ c ∧ c ≤ 9223372036854775807 := by
 rcases h.2 with ⟨e, _⟩ | ⟨b, cap, cur, e, _, _, h1, h2, _⟩
 ·injection e with e; cases e
 ·injection e with _ e2 e3
  subst e2 e3
  exact ⟨h1, by unfold maxLen at h2; omega⟩
theorem own_block2 {W : World} {lo s n c m g : Nat} {e : TypeId} {cs : List Value} (h : W.ownsRow lo e s (.slice (some ⟨g, 0, none⟩) n c) m cs) : ∃ cur : Array Value, n = m ∧ lo ≤ g ∧ W.heap[g]? = some (.cells cur e (0, 0)) ∧ cur.size = c * s ∧ cur.toList.take (n * s) = cs := by
 rcases h.2 with ⟨e, _⟩ | ⟨b, cap, cur, e, hb, hg, _, _, hs, ht⟩
 ·injection e with e; cases e
 ·injection e with e1 e2 e3
  injection e1 with e1
  injection e1 with e1
  subst e1 e2 e3
  exact ⟨cur, rfl, hb, hg, hs, ht⟩
theorem grown_then' {W W1 W2 : World} {row : Option Nat} (k : W.grownBy W1 row) (h : Ext W1 W2) : W.grownBy W2 row := ⟨h.os.trans k.os, h.tape.trans k.tape, h.output.trans k.output, Nat.le_trans k.size h.size, fun j hj hne => (Below.block h j (Nat.lt_of_lt_of_le hj k.size)).trans (k.block j hj hne)⟩
theorem RegB.ext {w4 W W' : World} {P : Prop} (h : Ext w4 W ∧ P) (he : Ext W W') : Ext w4 W' ∧ P := ⟨h.1.trans he, h.2⟩
theorem blk_ext {w W W' : World} {g : Nat} {o : Obj} (h : W.heap[g]? = some o ∧ w.grownBy W (some g)) (he : Ext W W') : W'.heap[g]? = some o ∧ w.grownBy W' (some g) := ⟨Ext.block he h.1, grown_then' h.2 he⟩
def row1 (cur : Array Value) (i : Nat) (news : List Value) : Array Value := (cur.toList.take (i * 8) ++ news ++ cur.toList.drop (i * 8 + news.length)).toArray
theorem row1_size (cur : Array Value) (i : Nat) (news : List Value) (h : i * 8 + news.length ≤ cur.size) : (row1 cur i news).size = cur.size := by
 unfold row1
 simp
 omega
theorem row1_take (cur : Array Value) (i n : Nat) (news : List Value) (h : i * 8 + news.length ≤ cur.size) (hn : n * 8 = i * 8 + news.length) : (row1 cur i news).toList.take (n * 8) = cur.toList.take (i * 8) ++ news := by
 unfold row1
 rw [List.toList_toArray, hn, List.take_left' (by simp; omega)]
theorem row1_keep (cur : Array Value) (i n : Nat) (news : List Value) (h : i * 8 + news.length ≤ cur.size) (hn : n ≤ i) : (row1 cur i news).toList.take (n * 8) = cur.toList.take (n * 8) := by
 unfold row1
 rw [List.toList_toArray, List.append_assoc, List.take_append_of_le_length (by simp; omega), List.take_take, Nat.min_eq_left (by omega)]
theorem pkf_len (l : List (Nat × Nat)) : (pkf l).length = l.length * 8 := by
 induction l with
 | nil => rfl
 | cons p l ih =>
  have e : pkf (p :: l) = (pkc p).toList ++ pkf l := by simp [pkf]
  have h8 : (pkc p).toList.length = 8 := rfl
  rw [e, List.length_append, ih, h8, List.length_cons]
  omega
theorem pkf_app' (l m : List (Nat × Nat)) : pkf (l ++ m) = pkf l ++ pkf m := by simp [pkf]
theorem pkf_take (l : List (Nat × Nat)) (i : Nat) : (pkf l).take (i * 8) = pkf (l.take i) := by
 by_cases h : i ≤ l.length
 ·conv => lhs; rw [← List.take_append_drop i l, pkf_app']
  rw [List.take_left' (by rw [pkf_len, List.length_take, Nat.min_eq_left h])]
 ·rw [List.take_of_length_le (show l.length ≤ i by omega), List.take_of_length_le (by rw [pkf_len]; omega)]
set_option maxRecDepth 100000 in
theorem pinfo8 : ∃ i0 : TypeInfo, Try.prog.info? 33 = some i0 ∧ i0.size = 8 := by
 have h := pkinfo
 cases hi : Try.prog.info? 33 with
 | none => rw [hi] at h; cases h
 | some i0 => rw [hi] at h; exact ⟨i0, rfl, by simpa using h⟩
set_option maxRecDepth 100000 in
theorem wpList_append_roomP {ops : Array Oper} {rest : List Oper} {o : Oper} {a : Act} {w : World} {Q : Exit → Act → World → Prop} (hgd : Region.wanted o (yielded ops a.tmps) = true) (s x : Operand)
  (ho : o.op = .call { callee := .builtin .append, args := #[s, x], argTypes := #[35, 35] }) (g sLen sCap : Nat) (cur : Array Value) (hg : w.heap[g]? = some (.cells cur 33 (0, 0)))
  (A : Addr) (m c : Nat) (news : List Value) (hl : news.length = m * 8) (hnews : ∀ j u, news[j]? = some u → w.cell? (A.add j) = some u) (h1 : ∀ u ∈ news, u.oneCell' = true) (hroom : sLen + m ≤ sCap) (hfit : sLen * 8 + news.length ≤ cur.size)
  (hs : a.eval s = .slice (some ⟨g, 0, none⟩) sLen sCap) (hx : a.eval x = .slice (some A) m c)
  (h : ∀ w', w'.heap[g]? = some (.cells (row1 cur sLen news) 33 (0, 0)) → w.grownBy w' (some g) → wpList Try.prog ops Q rest (a.put o.dst (.slice (some ⟨g, 0, none⟩) (sLen + m) sCap)) w') : wpList Try.prog ops Q (o :: rest) a w := by
 obtain ⟨i0, hi, hz⟩ := pinfo8
 have hr := run_append_room (P := Try.prog) (w := w) 35 o.type 33 i0 Try.underlying35 hi g sLen sCap cur hg A m c news (by rw [hz]; exact hl) hnews h1 hroom (by rw [hz]; exact hfit)
 rw [hz] at hr
 refine wpList_step fun K' hK' => ?_
 rw [if_pos hgd]
 unfold Oper.wp
 have h2 := h (w.setRow g (row1 cur sLen news)) (setRow_heap w g _ _ _ (0, 0) hg) ⟨rfl, rfl, rfl, by simp [World.setRow], fun k _ hk => setRow_other w g k _ (fun e => hk (by simp [e]))⟩
 unfold row1 at h2
 rw [List.append_assoc] at h2
 simp [execOp, ho, resolve, invoke, builtin, hs, hx, hr, Result.andThen]
 exact hK' _ _ h2
set_option maxRecDepth 100000 in
theorem run_clear_one (w : World) (ty : TypeId) (g k c : Nat) (cur : Array Value) (hg : w.heap[g]? = some (.cells cur 33 (0, 0))) (hfit : k * 8 + 8 ≤ cur.size) :
  ∃ news : List Value, news.length = 8 ∧ (Builtin.clear_ #[35] ty #[.slice (some ⟨g, k * 8, none⟩) 1 c]).run Try.prog w = .ok (.tuple #[]) (w.setRow g (row1 cur k news)) := by
 obtain ⟨i0, hi, hz0, hz1, hz2⟩ := info_parts pkinfo3
 have hl : (Builtin.zeroCells (pkc (0, 0)) 1).toList.length = 8 := by rw [Array.length_toList, size_zeroCells]; rfl
 refine ⟨(Builtin.zeroCells (pkc (0, 0)) 1).toList, hl, ?_⟩
 have hst := run_storeCells_at (P := Try.prog) g (k * 8) 33 (Builtin.zeroCells (pkc (0, 0)) 1).toList 0 cur w hg (by rw [hl]; exact hfit) (fun v hv => by
  simp only [Builtin.zeroCells, Array.toList_map, List.mem_map] at hv
  obtain ⟨a, _, rfl⟩ := hv
  have h8 : (pkc (0, 0)).size = 8 := rfl
  have h : a % 8 = 0 ∨ a % 8 = 1 ∨ a % 8 = 2 ∨ a % 8 = 3 ∨ a % 8 = 4 ∨ a % 8 = 5 ∨ a % 8 = 6 ∨ a % 8 = 7 := by omega
  show ((pkc (0, 0))[a % (pkc (0, 0)).size]!).oneCell' = true
  rw [h8]
  rcases h with h | h | h | h | h | h | h | h <;> rw [h] <;> rfl)
 simp only [Nat.add_zero] at hst
 unfold row1
 simp [Builtin.clear_, run_underlying Try.underlying35, zeroValue, typeInfo, hi, hz0, hst, Value.cells]
set_option maxRecDepth 100000 in
set_option maxHeartbeats 4000000 in
theorem deleteA_any (g n c i : Nat) (l : List (Nat × Nat)) (lo : Nat) (w : World) (hs : OwnK w lo (.slice (some ⟨g, 0, none⟩) n c) l) (hi : i < n) (_hl : n ≤ 100000) (hci : ¬ c = i + 1) :
  Calls Try.prog 126 #[.slice (some ⟨g, 0, none⟩) n c, .int .i64 (i : Nat), .int .i64 ((i + 1 : Nat) : Int)] w fun e w' => ∃ m c', e = .returned (.slice (some ⟨g, 0, none⟩) m c') ∧ m + 1 = n ∧ OwnK w' lo (.slice (some ⟨g, 0, none⟩) m c') (l.take i ++ l.drop (i + 1)) ∧ w.grownBy w' (some g) := by
 have HS := Lib.hid hs
 have hcm := own_cap hs.1
 obtain ⟨cur, hnl, hlo, hg, hcs, htk⟩ := own_block2 hs.1
 have HN := Lib.hid hnl
 have hs1 := hs.1
 rw [← hnl] at hs1
 have HG := Lib.hid hg
 have HCS := Lib.hid hcs
 have HTK := Lib.hid htk
 have HLO := Lib.hid hlo
 have hii : ((i : Int) == (i : Int) + 1) = false := by rw [beq_eq_false_iff_ne]; omega
 have hii2 : ((i : Int) == ((i + 1 : Nat) : Int)) = false := by rw [beq_eq_false_iff_ne]; omega
 have HNL := Lib.hid (show (pkf (l.drop (i + 1))).length = (n - (i + 1)) * 8 by rw [pkf_len, List.length_drop]; omega)
 have HSRC : Hid (∀ j u, (pkf (l.drop (i + 1)))[j]? = some u → w.cell? ((⟨g, (i + 1) * 8, none⟩ : Addr).add j) = some u) := Lib.hid (fun j u hu => by
  have hj := (List.getElem?_eq_some_iff.1 hu).1
  rw [HNL.out] at hj
  have e : (pkf l)[(i + 1) * 8 + j]? = some u := by
   rw [← hu]
   conv => lhs; rw [← List.take_append_drop (i + 1) l, pkf_app']
   have h8 : (pkf (l.take (i + 1))).length = (i + 1) * 8 := by rw [pkf_len, List.length_take]; omega
   rw [List.getElem?_append_right (by omega), h8, Nat.add_sub_cancel_left]
  first
  | (exfalso; omega)
  | (rw [Addr.add_lit]; exact (hs1.cellAt ((i + 1) * 8 + j) (by omega)).trans e))
 have HFIT := Lib.hid (show i * 8 + (pkf (l.drop (i + 1))).length ≤ cur.size by rw [HNL.out, hcs]; have := hcm.1; omega)
 clear hs hs1 hnl hg hcs htk hlo
 go_enter Try.func126, Try.ntmps126
 go_wp2_with fail
 refine wp_named fun a0 ha0 => ?_
 obtain ⟨fr, hfr⟩ : ∃ fr : (Nat → Value) → Act, ∀ V, fr V = ((((((((a0.put (some 20) (V 0)).put (some 21) (V 1)).put (some 22) (V 2)).put (some 23) (V 3)).put (some 24) (V 4)).put (some 25) (V 5)).put (some 26) (V 6)).put (some 0) (V 7)) := ⟨_, fun _ => rfl⟩
 rw [ha0] at hfr
 simp only [Act.put, List.setIfInBounds_toArray, List.set_cons_zero, List.set_cons_succ] at hfr
 have HFR := Lib.hid hfr
 clear hfr
 refine wp_region_inv (by kernel_rfl) (by kernel_rfl) (fun L A W => ∃ V : Nat → Value, A = fr V ∧ Vals (fun j => ([some (.slice (some ⟨g, 0, none⟩) n c), some (.int .i64 (i : Nat)), some (.slice (some ⟨g, 0, none⟩) i c), some (.slice (some ⟨g, 0, none⟩) n c), some (.int .i64 ((i + 1 : Nat) : Int)), some (.slice (some ⟨g, (i + 1) * 8, none⟩) (n - (i + 1)) (c - (i + 1))), some (.slice (some ⟨g, 0, none⟩) (i + (n - (i + 1))) c), some (.slice (some ⟨g, 0, none⟩) (i + (n - (i + 1))) c)] : List (Option Value)).getD j none) L V ∧ (L 6 = false → Ext w W ∧ V 7 = .slice (some ⟨g, 0, none⟩) n c) ∧ (L 6 = true → L 7 = false → W.heap[g]? = some (.cells (row1 cur i (pkf (l.drop (i + 1)))) 33 (0, 0)) ∧ w.grownBy W (some g)) ∧ (L 7 = true → W.heap[g]? = some (.cells (row1 cur i (pkf (l.drop (i + 1)))) 33 (0, 0)) ∧ w.grownBy W (some g))) ?_ ⟨?_, ?_, ?_, ?_, ?_, ?_, ?_, ?_, trivial⟩ ?_
 ·refine ⟨fun j => a0.tmps.getD (([20, 21, 22, 23, 24, 25, 26, 0] : List Nat).getD j 0) undef, ?_, Vals.no _ _ _ (far_none _ _ rfl), fun _ => ⟨(Ext.refl _).drew, by show a0.tmps.getD 0 undef = _; rw [ha0]; rfl⟩, fun h0 h1 => absurd h0 (by decide), fun h0 => absurd h0 (by decide)⟩
  rw [HFR.out, ha0]
  rfl
 all_goals clear ha0
 ·rintro L A W K hL hC hW ⟨V, rfl, HV, s0, s1, s2⟩ hK
  have hB := s0 (hC.no (hC.no hL 2 _ rfl rfl) 6 _ rfl rfl)
  have e7 : V 7 = .slice (some ⟨g, 0, none⟩) n c := hB.2
  have H := Lib.hid (show ∀ W', Ext W W' → K (fr (upd V 0 (.slice (some ⟨g, 0, none⟩) n c))) W' from fun W' he => hK _ _ ⟨_, rfl, HV.us 0 _ rfl, fun h0 => RegB.ext (s0 (mnf h0 rfl)) he, fun h0 h1 => blk_ext (s1 (more_ne h0 rfl) (mnf h1 rfl)) he, fun h0 => blk_ext (s2 (more_ne h0 rfl)) he⟩)
  have HU := Lib.hid (show (upd V 0 (.slice (some ⟨g, 0, none⟩) n c)) 7 = .slice (some ⟨g, 0, none⟩) n c from e7)
  clear hK hC hW hL HV s0 s1 s2
  rw [HFR.out, e7]
  clear e7
  clear hB
  go_wp2_with fail
  show K _ _; have := H.out _ (Ext.refl _); rw [HFR.out] at this
  obtain u7 := HU.out
  rw [u7] at this
  exact this
 ·rintro L A W K hL hC hW ⟨V, rfl, HV, s0, s1, s2⟩ hK
  have H := Lib.hid (show ∀ W', Ext W W' → K (fr (upd V 1 (.int .i64 (i : Nat)))) W' from fun W' he => hK _ _ ⟨_, rfl, HV.us 1 _ rfl, fun h0 => RegB.ext (s0 (mnf h0 rfl)) he, fun h0 h1 => blk_ext (s1 (more_ne h0 rfl) (mnf h1 rfl)) he, fun h0 => blk_ext (s2 (more_ne h0 rfl)) he⟩)
  clear hK hC hW hL HV s0 s1 s2
  rw [HFR.out]
  go_wp2_with fail
  show K _ _; have := H.out _ (Ext.refl _); rw [HFR.out] at this
  exact this
 ·rintro L A W K hL hC hW ⟨V, rfl, HV, s0, s1, s2⟩ hK
  have e0 := HV 0 _ rfl (hW 0 rfl)
  have e1 := HV 1 _ rfl (hW 1 rfl)
  have H := Lib.hid (show ∀ W', Ext W W' → K (fr (upd V 2 (.slice (some ⟨g, 0, none⟩) i c))) W' from fun W' he => hK _ _ ⟨_, rfl, HV.us 2 _ rfl, fun h0 => RegB.ext (s0 (mnf h0 rfl)) he, fun h0 h1 => blk_ext (s1 (more_ne h0 rfl) (mnf h1 rfl)) he, fun h0 => blk_ext (s2 (more_ne h0 rfl)) he⟩)
  have HU := Lib.hid (show (upd V 2 (.slice (some ⟨g, 0, none⟩) i c)) 0 = .slice (some ⟨g, 0, none⟩) n c ∧ (upd V 2 (.slice (some ⟨g, 0, none⟩) i c)) 1 = .int .i64 (i : Nat) from ⟨e0, e1⟩)
  clear hK hC hW hL HV s0 s1 s2
  rw [HFR.out, e0, e1]
  clear e0 e1
  go_wp2_with fail
  show K _ _; have := H.out _ (Ext.refl _); rw [HFR.out] at this
  obtain ⟨u0, u1⟩ := HU.out
  rw [u0, u1] at this
  exact this
 ·rintro L A W K hL hC hW ⟨V, rfl, HV, s0, s1, s2⟩ hK
  have hB := s0 (hC.no (hC.no hL 5 _ rfl rfl) 6 _ rfl rfl)
  have e7 : V 7 = .slice (some ⟨g, 0, none⟩) n c := hB.2
  have H := Lib.hid (show ∀ W', Ext W W' → K (fr (upd V 3 (.slice (some ⟨g, 0, none⟩) n c))) W' from fun W' he => hK _ _ ⟨_, rfl, HV.us 3 _ rfl, fun h0 => RegB.ext (s0 (mnf h0 rfl)) he, fun h0 h1 => blk_ext (s1 (more_ne h0 rfl) (mnf h1 rfl)) he, fun h0 => blk_ext (s2 (more_ne h0 rfl)) he⟩)
  have HU := Lib.hid (show (upd V 3 (.slice (some ⟨g, 0, none⟩) n c)) 7 = .slice (some ⟨g, 0, none⟩) n c from e7)
  clear hK hC hW hL HV s0 s1 s2
  rw [HFR.out, e7]
  clear e7
  clear hB
  go_wp2_with fail
  show K _ _; have := H.out _ (Ext.refl _); rw [HFR.out] at this
  obtain u7 := HU.out
  rw [u7] at this
  exact this
 ·rintro L A W K hL hC hW ⟨V, rfl, HV, s0, s1, s2⟩ hK
  have H := Lib.hid (show ∀ W', Ext W W' → K (fr (upd V 4 (.int .i64 ((i + 1 : Nat) : Int)))) W' from fun W' he => hK _ _ ⟨_, rfl, HV.us 4 _ rfl, fun h0 => RegB.ext (s0 (mnf h0 rfl)) he, fun h0 h1 => blk_ext (s1 (more_ne h0 rfl) (mnf h1 rfl)) he, fun h0 => blk_ext (s2 (more_ne h0 rfl)) he⟩)
  clear hK hC hW hL HV s0 s1 s2
  rw [HFR.out]
  go_wp2_with fail
  show K _ _; have := H.out _ (Ext.refl _); rw [HFR.out] at this
  exact this
 ·rintro L A W K hL hC hW ⟨V, rfl, HV, s0, s1, s2⟩ hK
  have e3 := HV 3 _ rfl (hW 3 rfl)
  have e4 := HV 4 _ rfl (hW 4 rfl)
  have H := Lib.hid (show ∀ W', Ext W W' → K (fr (upd V 5 (.slice (some ⟨g, (i + 1) * 8, none⟩) (n - (i + 1)) (c - (i + 1))))) W' from fun W' he => hK _ _ ⟨_, rfl, HV.us 5 _ rfl, fun h0 => RegB.ext (s0 (mnf h0 rfl)) he, fun h0 h1 => blk_ext (s1 (more_ne h0 rfl) (mnf h1 rfl)) he, fun h0 => blk_ext (s2 (more_ne h0 rfl)) he⟩)
  have HU := Lib.hid (show (upd V 5 (.slice (some ⟨g, (i + 1) * 8, none⟩) (n - (i + 1)) (c - (i + 1)))) 3 = .slice (some ⟨g, 0, none⟩) n c ∧ (upd V 5 (.slice (some ⟨g, (i + 1) * 8, none⟩) (n - (i + 1)) (c - (i + 1)))) 4 = .int .i64 ((i + 1 : Nat) : Int) from ⟨e3, e4⟩)
  clear hK hC hW hL HV s0 s1 s2
  rw [HFR.out, e3, e4]
  clear e3 e4
  go_wp2_with fail
  show K _ _; have := H.out _ (Ext.refl _); rw [HFR.out] at this
  obtain ⟨u3, u4⟩ := HU.out
  rw [u3, u4] at this
  exact this
 ·rintro L A W K hL hC hW ⟨V, rfl, HV, s0, s1, s2⟩ hK
  have e2 := HV 2 _ rfl (hW 2 rfl)
  have e5 := HV 5 _ rfl (hW 5 rfl)
  have hB := s0 hL
  have H := Lib.hid (show ∀ W', (W'.heap[g]? = some (.cells (row1 cur i (pkf (l.drop (i + 1)))) 33 (0, 0)) ∧ w.grownBy W' (some g)) → K (fr (upd V 6 (.slice (some ⟨g, 0, none⟩) (i + (n - (i + 1))) c))) W' from fun W' hA => hK _ _ ⟨_, rfl, HV.us 6 _ rfl, fun h0 => msf h0, fun h0 h1 => hA, fun h0 => mtf (hC.no hL 7 _ rfl rfl) (more_ne h0 rfl)⟩)
  have HU := Lib.hid (show (upd V 6 (.slice (some ⟨g, 0, none⟩) (i + (n - (i + 1))) c)) 2 = .slice (some ⟨g, 0, none⟩) i c ∧ (upd V 6 (.slice (some ⟨g, 0, none⟩) (i + (n - (i + 1))) c)) 5 = .slice (some ⟨g, (i + 1) * 8, none⟩) (n - (i + 1)) (c - (i + 1)) from ⟨e2, e5⟩)
  clear hK hC hW hL HV s0 s1 s2
  rw [HFR.out, e2, e5]
  clear e2 e5
  have HB := Lib.hid hB
  clear hB
  at_builtin
  refine wpList_append_roomP rfl (.tmp 22) (.tmp 25) rfl g i c cur (Ext.block HB.out.1 HG.out) ⟨g, (i + 1) * 8, none⟩ (n - (i + 1)) (c - (i + 1)) (pkf (l.drop (i + 1))) HNL.out (fun j u hu => HB.out.1.cell (HSRC.out j u hu)) (pkf_one _) (by omega) HFIT.out rfl rfl ?_
  intro W' hc' hg'
  have HA := Lib.hid (show W'.heap[g]? = some (.cells (row1 cur i (pkf (l.drop (i + 1)))) 33 (0, 0)) ∧ w.grownBy W' (some g) from ⟨hc', grown_then HB.out.1 hg'⟩)
  clear hc' hg'
  show K _ _; have := H.out _ HA.out; rw [HFR.out] at this
  obtain ⟨u2, u5⟩ := HU.out
  rw [u2, u5] at this
  exact this
 ·rintro L A W K hL hC hW ⟨V, rfl, HV, s0, s1, s2⟩ hK
  have e6 := HV 6 _ rfl (hW 6 rfl)
  have hB := s1 (hW 6 rfl) hL
  have H := Lib.hid (show ∀ W', (W'.heap[g]? = some (.cells (row1 cur i (pkf (l.drop (i + 1)))) 33 (0, 0)) ∧ w.grownBy W' (some g)) → K (fr (upd V 7 (.slice (some ⟨g, 0, none⟩) (i + (n - (i + 1))) c))) W' from fun W' hA => hK _ _ ⟨_, rfl, HV.us 7 _ rfl, fun h0 => mtf (mnf h0 rfl) (hW 6 rfl), fun h0 h1 => msf h1, fun h0 => hA⟩)
  have HU := Lib.hid (show (upd V 7 (.slice (some ⟨g, 0, none⟩) (i + (n - (i + 1))) c)) 6 = .slice (some ⟨g, 0, none⟩) (i + (n - (i + 1))) c from e6)
  clear hK hC hW hL HV s0 s1 s2
  rw [HFR.out, e6]
  clear e6
  have HA := Lib.hid hB
  clear hB
  go_wp2_with fail
  show K _ _; have := H.out _ HA.out; rw [HFR.out] at this
  obtain u6 := HU.out
  rw [u6] at this
  exact this
 ·rintro L A W hL ⟨V, rfl, HV, s0, s1, s2⟩
  have e0 := HV 0 _ rfl (hL 0 (by simp))
  have e1 := HV 1 _ rfl (hL 1 (by simp))
  have e2 := HV 2 _ rfl (hL 2 (by simp))
  have e3 := HV 3 _ rfl (hL 3 (by simp))
  have e4 := HV 4 _ rfl (hL 4 (by simp))
  have e5 := HV 5 _ rfl (hL 5 (by simp))
  have e6 := HV 6 _ rfl (hL 6 (by simp))
  have e7 := HV 7 _ rfl (hL 7 (by simp))
  have hA := s2 (hL 7 (by simp))
  rw [HFR.out, e0, e1, e2, e3, e4, e5, e6, e7]
  clear hL HV HFR e0 e1 e2 e3 e4 e5 e6 e7 s0 s1 s2
  obtain ⟨k, hk⟩ : ∃ k, i + (n - (i + 1)) = k := ⟨_, rfl⟩
  have hnk : n - k = 1 := by omega
  have hkc : k ≤ c := by omega
  have hck : ¬ c - k = 0 := by omega
  have hck2 : ¬ c = k := by omega
  have HK := Lib.hid (show k + 1 = n ∧ i ≤ k by omega)
  have hsz := row1_size cur i (pkf (l.drop (i + 1))) HFIT.out
  obtain ⟨news, hnl, hrun⟩ := run_clear_one W 0 g k (c - k) _ hA.1 (by rw [hsz, HCS.out]; omega)
  have HR2 := Lib.hid (show (W.setRow g (row1 (row1 cur i (pkf (l.drop (i + 1)))) k news)).heap[g]? = some (.cells (row1 (row1 cur i (pkf (l.drop (i + 1)))) k news) 33 (0, 0)) from setRow_heap W g _ _ _ (0, 0) hA.1)
  have HGR := Lib.hid (show w.grownBy (W.setRow g (row1 (row1 cur i (pkf (l.drop (i + 1)))) k news)) (some g) from ⟨hA.2.os, hA.2.tape, hA.2.output, by have := hA.2.size; simpa [World.setRow] using this, fun j hj hne => (setRow_other W g j _ (fun e => hne (by rw [e]))).trans (hA.2.block j hj hne)⟩)
  have HSZ2 := Lib.hid (row1_size (row1 cur i (pkf (l.drop (i + 1)))) k news (by rw [hsz, HCS.out, hnl]; omega))
  have HTK2 := Lib.hid (show (row1 (row1 cur i (pkf (l.drop (i + 1)))) k news).toList.take (k * 8) = pkf (l.take i ++ l.drop (i + 1)) by
   rw [row1_keep _ k k news (by rw [hsz, HCS.out, hnl]; omega) (Nat.le_refl _), row1_take cur i k _ HFIT.out (by rw [HNL.out]; omega), pkf_app', ← pkf_take l i, ← HTK.out, List.take_take, Nat.min_eq_left (by omega)])
  have HSZ3 := Lib.hid (hsz.trans HCS.out)
  have HLN := Lib.hid (show (l.take i ++ l.drop (i + 1)).length = k by rw [List.length_append, List.length_take, List.length_drop]; have := HN.out; omega)
  have HWD := Lib.hid (show ∀ q ∈ l.take i ++ l.drop (i + 1), q.1 < M256 ∧ q.2 < M256 from fun q hq => HS.out.2 q (by
   rcases List.mem_append.1 hq with h | h
   ·exact List.mem_of_mem_take h
   ·exact List.mem_of_mem_drop h))
  rw [hk]
  clear hk hA hsz hnl
  go_wp2_with fail
  refine bodyPost_ret (results_tmp rfl _ _ _) rfl ?_
  exact ⟨k, c, rfl, HK.out.1, ⟨by rw [HLN.out]; exact ⟨by rw [pkf_len, HLN.out], .inr ⟨g, c, _, rfl, HLO.out, HR2.out, hkc, by unfold maxLen; omega, HSZ2.out.trans HSZ3.out, HTK2.out⟩⟩, HWD.out⟩, HGR.out⟩
set_option maxRecDepth 100000 in
set_option maxHeartbeats 4000000 in
theorem deleteB_any (g i : Nat) (l : List (Nat × Nat)) (lo : Nat) (w : World) (hs : OwnK w lo (.slice (some ⟨g, 0, none⟩) (i + 1) (i + 1)) l) (hl : (i + 1) ≤ 100000) :
  Calls Try.prog 126 #[.slice (some ⟨g, 0, none⟩) (i + 1) (i + 1), .int .i64 (i : Nat), .int .i64 ((i + 1 : Nat) : Int)] w fun e w' => ∃ m c', e = .returned (.slice (some ⟨g, 0, none⟩) m c') ∧ m + 1 = (i + 1) ∧ OwnK w' lo (.slice (some ⟨g, 0, none⟩) m c') (l.take i ++ l.drop (i + 1)) ∧ w.grownBy w' (some g) := by
 have HS := Lib.hid hs
 have hcm := own_cap hs.1
 obtain ⟨cur, hnl, hlo, hg, hcs, htk⟩ := own_block2 hs.1
 have HN := Lib.hid hnl
 have hs1 := hs.1
 rw [← hnl] at hs1
 have HG := Lib.hid hg
 have HCS := Lib.hid hcs
 have HTK := Lib.hid htk
 have HLO := Lib.hid hlo
 have hii : ((i : Int) == (i : Int) + 1) = false := by rw [beq_eq_false_iff_ne]; omega
 have hii2 : ((i : Int) == ((i + 1 : Nat) : Int)) = false := by rw [beq_eq_false_iff_ne]; omega
 have HNL := Lib.hid (show (pkf (l.drop (i + 1))).length = 0 * 8 by rw [pkf_len, List.length_drop]; omega)
 have HSRC : Hid (∀ j u, (pkf (l.drop (i + 1)))[j]? = some u → w.cell? ((⟨g, 0, none⟩ : Addr).add j) = some u) := Lib.hid (fun j u hu => by
  have hj := (List.getElem?_eq_some_iff.1 hu).1
  rw [HNL.out] at hj
  have e : (pkf l)[(i + 1) * 8 + j]? = some u := by
   rw [← hu]
   conv => lhs; rw [← List.take_append_drop (i + 1) l, pkf_app']
   have h8 : (pkf (l.take (i + 1))).length = (i + 1) * 8 := by rw [pkf_len, List.length_take]; omega
   rw [List.getElem?_append_right (by omega), h8, Nat.add_sub_cancel_left]
  first
  | (exfalso; omega)
  | (rw [Addr.add_lit]; exact (hs1.cellAt ((i + 1) * 8 + j) (by omega)).trans e))
 have HFIT := Lib.hid (show i * 8 + (pkf (l.drop (i + 1))).length ≤ cur.size by rw [HNL.out, hcs]; have := hcm.1; omega)
 clear hs hs1 hnl hg hcs htk hlo
 go_enter Try.func126, Try.ntmps126
 go_wp2_with fail
 refine wp_named fun a0 ha0 => ?_
 obtain ⟨fr, hfr⟩ : ∃ fr : (Nat → Value) → Act, ∀ V, fr V = ((((((((a0.put (some 20) (V 0)).put (some 21) (V 1)).put (some 22) (V 2)).put (some 23) (V 3)).put (some 24) (V 4)).put (some 25) (V 5)).put (some 26) (V 6)).put (some 0) (V 7)) := ⟨_, fun _ => rfl⟩
 rw [ha0] at hfr
 simp only [Act.put, List.setIfInBounds_toArray, List.set_cons_zero, List.set_cons_succ] at hfr
 have HFR := Lib.hid hfr
 clear hfr
 refine wp_region_inv (by kernel_rfl) (by kernel_rfl) (fun L A W => ∃ V : Nat → Value, A = fr V ∧ Vals (fun j => ([some (.slice (some ⟨g, 0, none⟩) (i + 1) (i + 1)), some (.int .i64 (i : Nat)), some (.slice (some ⟨g, 0, none⟩) i (i + 1)), some (.slice (some ⟨g, 0, none⟩) (i + 1) (i + 1)), some (.int .i64 ((i + 1 : Nat) : Int)), some (.slice (some ⟨g, 0, none⟩) 0 0), some (.slice (some ⟨g, 0, none⟩) (i + 0) (i + 1)), some (.slice (some ⟨g, 0, none⟩) (i + 0) (i + 1))] : List (Option Value)).getD j none) L V ∧ (L 6 = false → Ext w W ∧ V 7 = .slice (some ⟨g, 0, none⟩) (i + 1) (i + 1)) ∧ (L 6 = true → L 7 = false → W.heap[g]? = some (.cells (row1 cur i (pkf (l.drop (i + 1)))) 33 (0, 0)) ∧ w.grownBy W (some g)) ∧ (L 7 = true → W.heap[g]? = some (.cells (row1 cur i (pkf (l.drop (i + 1)))) 33 (0, 0)) ∧ w.grownBy W (some g))) ?_ ⟨?_, ?_, ?_, ?_, ?_, ?_, ?_, ?_, trivial⟩ ?_
 ·refine ⟨fun j => a0.tmps.getD (([20, 21, 22, 23, 24, 25, 26, 0] : List Nat).getD j 0) undef, ?_, Vals.no _ _ _ (far_none _ _ rfl), fun _ => ⟨(Ext.refl _).drew, by show a0.tmps.getD 0 undef = _; rw [ha0]; rfl⟩, fun h0 h1 => absurd h0 (by decide), fun h0 => absurd h0 (by decide)⟩
  rw [HFR.out, ha0]
  rfl
 all_goals clear ha0
 ·rintro L A W K hL hC hW ⟨V, rfl, HV, s0, s1, s2⟩ hK
  have hB := s0 (hC.no (hC.no hL 2 _ rfl rfl) 6 _ rfl rfl)
  have e7 : V 7 = .slice (some ⟨g, 0, none⟩) (i + 1) (i + 1) := hB.2
  have H := Lib.hid (show ∀ W', Ext W W' → K (fr (upd V 0 (.slice (some ⟨g, 0, none⟩) (i + 1) (i + 1)))) W' from fun W' he => hK _ _ ⟨_, rfl, HV.us 0 _ rfl, fun h0 => RegB.ext (s0 (mnf h0 rfl)) he, fun h0 h1 => blk_ext (s1 (more_ne h0 rfl) (mnf h1 rfl)) he, fun h0 => blk_ext (s2 (more_ne h0 rfl)) he⟩)
  have HU := Lib.hid (show (upd V 0 (.slice (some ⟨g, 0, none⟩) (i + 1) (i + 1))) 7 = .slice (some ⟨g, 0, none⟩) (i + 1) (i + 1) from e7)
  clear hK hC hW hL HV s0 s1 s2
  rw [HFR.out, e7]
  clear e7
  clear hB
  go_wp2_with fail
  show K _ _; have := H.out _ (Ext.refl _); rw [HFR.out] at this
  obtain u7 := HU.out
  rw [u7] at this
  exact this
 ·rintro L A W K hL hC hW ⟨V, rfl, HV, s0, s1, s2⟩ hK
  have H := Lib.hid (show ∀ W', Ext W W' → K (fr (upd V 1 (.int .i64 (i : Nat)))) W' from fun W' he => hK _ _ ⟨_, rfl, HV.us 1 _ rfl, fun h0 => RegB.ext (s0 (mnf h0 rfl)) he, fun h0 h1 => blk_ext (s1 (more_ne h0 rfl) (mnf h1 rfl)) he, fun h0 => blk_ext (s2 (more_ne h0 rfl)) he⟩)
  clear hK hC hW hL HV s0 s1 s2
  rw [HFR.out]
  go_wp2_with fail
  show K _ _; have := H.out _ (Ext.refl _); rw [HFR.out] at this
  exact this
 ·rintro L A W K hL hC hW ⟨V, rfl, HV, s0, s1, s2⟩ hK
  have e0 := HV 0 _ rfl (hW 0 rfl)
  have e1 := HV 1 _ rfl (hW 1 rfl)
  have H := Lib.hid (show ∀ W', Ext W W' → K (fr (upd V 2 (.slice (some ⟨g, 0, none⟩) i (i + 1)))) W' from fun W' he => hK _ _ ⟨_, rfl, HV.us 2 _ rfl, fun h0 => RegB.ext (s0 (mnf h0 rfl)) he, fun h0 h1 => blk_ext (s1 (more_ne h0 rfl) (mnf h1 rfl)) he, fun h0 => blk_ext (s2 (more_ne h0 rfl)) he⟩)
  have HU := Lib.hid (show (upd V 2 (.slice (some ⟨g, 0, none⟩) i (i + 1))) 0 = .slice (some ⟨g, 0, none⟩) (i + 1) (i + 1) ∧ (upd V 2 (.slice (some ⟨g, 0, none⟩) i (i + 1))) 1 = .int .i64 (i : Nat) from ⟨e0, e1⟩)
  clear hK hC hW hL HV s0 s1 s2
  rw [HFR.out, e0, e1]
  clear e0 e1
  go_wp2_with fail
  show K _ _; have := H.out _ (Ext.refl _); rw [HFR.out] at this
  obtain ⟨u0, u1⟩ := HU.out
  rw [u0, u1] at this
  exact this
 ·rintro L A W K hL hC hW ⟨V, rfl, HV, s0, s1, s2⟩ hK
  have hB := s0 (hC.no (hC.no hL 5 _ rfl rfl) 6 _ rfl rfl)
  have e7 : V 7 = .slice (some ⟨g, 0, none⟩) (i + 1) (i + 1) := hB.2
  have H := Lib.hid (show ∀ W', Ext W W' → K (fr (upd V 3 (.slice (some ⟨g, 0, none⟩) (i + 1) (i + 1)))) W' from fun W' he => hK _ _ ⟨_, rfl, HV.us 3 _ rfl, fun h0 => RegB.ext (s0 (mnf h0 rfl)) he, fun h0 h1 => blk_ext (s1 (more_ne h0 rfl) (mnf h1 rfl)) he, fun h0 => blk_ext (s2 (more_ne h0 rfl)) he⟩)
  have HU := Lib.hid (show (upd V 3 (.slice (some ⟨g, 0, none⟩) (i + 1) (i + 1))) 7 = .slice (some ⟨g, 0, none⟩) (i + 1) (i + 1) from e7)
  clear hK hC hW hL HV s0 s1 s2
  rw [HFR.out, e7]
  clear e7
  clear hB
  go_wp2_with fail
  show K _ _; have := H.out _ (Ext.refl _); rw [HFR.out] at this
  obtain u7 := HU.out
  rw [u7] at this
  exact this
 ·rintro L A W K hL hC hW ⟨V, rfl, HV, s0, s1, s2⟩ hK
  have H := Lib.hid (show ∀ W', Ext W W' → K (fr (upd V 4 (.int .i64 ((i + 1 : Nat) : Int)))) W' from fun W' he => hK _ _ ⟨_, rfl, HV.us 4 _ rfl, fun h0 => RegB.ext (s0 (mnf h0 rfl)) he, fun h0 h1 => blk_ext (s1 (more_ne h0 rfl) (mnf h1 rfl)) he, fun h0 => blk_ext (s2 (more_ne h0 rfl)) he⟩)
  clear hK hC hW hL HV s0 s1 s2
  rw [HFR.out]
  go_wp2_with fail
  show K _ _; have := H.out _ (Ext.refl _); rw [HFR.out] at this
  exact this
 ·rintro L A W K hL hC hW ⟨V, rfl, HV, s0, s1, s2⟩ hK
  have e3 := HV 3 _ rfl (hW 3 rfl)
  have e4 := HV 4 _ rfl (hW 4 rfl)
  have H := Lib.hid (show ∀ W', Ext W W' → K (fr (upd V 5 (.slice (some ⟨g, 0, none⟩) 0 0))) W' from fun W' he => hK _ _ ⟨_, rfl, HV.us 5 _ rfl, fun h0 => RegB.ext (s0 (mnf h0 rfl)) he, fun h0 h1 => blk_ext (s1 (more_ne h0 rfl) (mnf h1 rfl)) he, fun h0 => blk_ext (s2 (more_ne h0 rfl)) he⟩)
  have HU := Lib.hid (show (upd V 5 (.slice (some ⟨g, 0, none⟩) 0 0)) 3 = .slice (some ⟨g, 0, none⟩) (i + 1) (i + 1) ∧ (upd V 5 (.slice (some ⟨g, 0, none⟩) 0 0)) 4 = .int .i64 ((i + 1 : Nat) : Int) from ⟨e3, e4⟩)
  clear hK hC hW hL HV s0 s1 s2
  rw [HFR.out, e3, e4]
  clear e3 e4
  go_wp2_with fail
  show K _ _; have := H.out _ (Ext.refl _); rw [HFR.out] at this
  obtain ⟨u3, u4⟩ := HU.out
  rw [u3, u4] at this
  exact this
 ·rintro L A W K hL hC hW ⟨V, rfl, HV, s0, s1, s2⟩ hK
  have e2 := HV 2 _ rfl (hW 2 rfl)
  have e5 := HV 5 _ rfl (hW 5 rfl)
  have hB := s0 hL
  have H := Lib.hid (show ∀ W', (W'.heap[g]? = some (.cells (row1 cur i (pkf (l.drop (i + 1)))) 33 (0, 0)) ∧ w.grownBy W' (some g)) → K (fr (upd V 6 (.slice (some ⟨g, 0, none⟩) (i + 0) (i + 1)))) W' from fun W' hA => hK _ _ ⟨_, rfl, HV.us 6 _ rfl, fun h0 => msf h0, fun h0 h1 => hA, fun h0 => mtf (hC.no hL 7 _ rfl rfl) (more_ne h0 rfl)⟩)
  have HU := Lib.hid (show (upd V 6 (.slice (some ⟨g, 0, none⟩) (i + 0) (i + 1))) 2 = .slice (some ⟨g, 0, none⟩) i (i + 1) ∧ (upd V 6 (.slice (some ⟨g, 0, none⟩) (i + 0) (i + 1))) 5 = .slice (some ⟨g, 0, none⟩) 0 0 from ⟨e2, e5⟩)
  clear hK hC hW hL HV s0 s1 s2
  rw [HFR.out, e2, e5]
  clear e2 e5
  have HB := Lib.hid hB
  clear hB
  at_builtin
  refine wpList_append_roomP rfl (.tmp 22) (.tmp 25) rfl g i (i + 1) cur (Ext.block HB.out.1 HG.out) ⟨g, 0, none⟩ 0 0 (pkf (l.drop (i + 1))) HNL.out (fun j u hu => HB.out.1.cell (HSRC.out j u hu)) (pkf_one _) (by omega) HFIT.out rfl rfl ?_
  intro W' hc' hg'
  have HA := Lib.hid (show W'.heap[g]? = some (.cells (row1 cur i (pkf (l.drop (i + 1)))) 33 (0, 0)) ∧ w.grownBy W' (some g) from ⟨hc', grown_then HB.out.1 hg'⟩)
  clear hc' hg'
  show K _ _; have := H.out _ HA.out; rw [HFR.out] at this
  obtain ⟨u2, u5⟩ := HU.out
  rw [u2, u5] at this
  exact this
 ·rintro L A W K hL hC hW ⟨V, rfl, HV, s0, s1, s2⟩ hK
  have e6 := HV 6 _ rfl (hW 6 rfl)
  have hB := s1 (hW 6 rfl) hL
  have H := Lib.hid (show ∀ W', (W'.heap[g]? = some (.cells (row1 cur i (pkf (l.drop (i + 1)))) 33 (0, 0)) ∧ w.grownBy W' (some g)) → K (fr (upd V 7 (.slice (some ⟨g, 0, none⟩) (i + 0) (i + 1)))) W' from fun W' hA => hK _ _ ⟨_, rfl, HV.us 7 _ rfl, fun h0 => mtf (mnf h0 rfl) (hW 6 rfl), fun h0 h1 => msf h1, fun h0 => hA⟩)
  have HU := Lib.hid (show (upd V 7 (.slice (some ⟨g, 0, none⟩) (i + 0) (i + 1))) 6 = .slice (some ⟨g, 0, none⟩) (i + 0) (i + 1) from e6)
  clear hK hC hW hL HV s0 s1 s2
  rw [HFR.out, e6]
  clear e6
  have HA := Lib.hid hB
  clear hB
  go_wp2_with fail
  show K _ _; have := H.out _ HA.out; rw [HFR.out] at this
  obtain u6 := HU.out
  rw [u6] at this
  exact this
 ·rintro L A W hL ⟨V, rfl, HV, s0, s1, s2⟩
  have e0 := HV 0 _ rfl (hL 0 (by simp))
  have e1 := HV 1 _ rfl (hL 1 (by simp))
  have e2 := HV 2 _ rfl (hL 2 (by simp))
  have e3 := HV 3 _ rfl (hL 3 (by simp))
  have e4 := HV 4 _ rfl (hL 4 (by simp))
  have e5 := HV 5 _ rfl (hL 5 (by simp))
  have e6 := HV 6 _ rfl (hL 6 (by simp))
  have e7 := HV 7 _ rfl (hL 7 (by simp))
  have hA := s2 (hL 7 (by simp))
  rw [HFR.out, e0, e1, e2, e3, e4, e5, e6, e7]
  clear hL HV HFR e0 e1 e2 e3 e4 e5 e6 e7 s0 s1 s2
  obtain ⟨k, hk⟩ : ∃ k, i + 0 = k := ⟨_, rfl⟩
  have hnk : (i + 1) - k = 1 := by omega
  have hkc : k ≤ (i + 1) := by omega
  have hck : ¬ (i + 1) - k = 0 := by omega
  have hck2 : ¬ (i + 1) = k := by omega
  have HK := Lib.hid (show k + 1 = (i + 1) ∧ i ≤ k by omega)
  have hsz := row1_size cur i (pkf (l.drop (i + 1))) HFIT.out
  obtain ⟨news, hnl, hrun⟩ := run_clear_one W 0 g k 1 _ hA.1 (by rw [hsz, HCS.out]; omega)
  have HR2 := Lib.hid (show (W.setRow g (row1 (row1 cur i (pkf (l.drop (i + 1)))) k news)).heap[g]? = some (.cells (row1 (row1 cur i (pkf (l.drop (i + 1)))) k news) 33 (0, 0)) from setRow_heap W g _ _ _ (0, 0) hA.1)
  have HGR := Lib.hid (show w.grownBy (W.setRow g (row1 (row1 cur i (pkf (l.drop (i + 1)))) k news)) (some g) from ⟨hA.2.os, hA.2.tape, hA.2.output, by have := hA.2.size; simpa [World.setRow] using this, fun j hj hne => (setRow_other W g j _ (fun e => hne (by rw [e]))).trans (hA.2.block j hj hne)⟩)
  have HSZ2 := Lib.hid (row1_size (row1 cur i (pkf (l.drop (i + 1)))) k news (by rw [hsz, HCS.out, hnl]; omega))
  have HTK2 := Lib.hid (show (row1 (row1 cur i (pkf (l.drop (i + 1)))) k news).toList.take (k * 8) = pkf (l.take i ++ l.drop (i + 1)) by
   rw [row1_keep _ k k news (by rw [hsz, HCS.out, hnl]; omega) (Nat.le_refl _), row1_take cur i k _ HFIT.out (by rw [HNL.out]; omega), pkf_app', ← pkf_take l i, ← HTK.out, List.take_take, Nat.min_eq_left (by omega)])
  have HSZ3 := Lib.hid (hsz.trans HCS.out)
  have HLN := Lib.hid (show (l.take i ++ l.drop (i + 1)).length = k by rw [List.length_append, List.length_take, List.length_drop]; have := HN.out; omega)
  have HWD := Lib.hid (show ∀ q ∈ l.take i ++ l.drop (i + 1), q.1 < M256 ∧ q.2 < M256 from fun q hq => HS.out.2 q (by
   rcases List.mem_append.1 hq with h | h
   ·exact List.mem_of_mem_take h
   ·exact List.mem_of_mem_drop h))
  rw [hk]
  clear hk hA hsz hnl
  go_wp2_with fail
  refine bodyPost_ret (results_tmp rfl _ _ _) rfl ?_
  exact ⟨k, (i + 1), rfl, HK.out.1, ⟨by rw [HLN.out]; exact ⟨by rw [pkf_len, HLN.out], .inr ⟨g, (i + 1), _, rfl, HLO.out, HR2.out, hkc, by unfold maxLen; omega, HSZ2.out.trans HSZ3.out, HTK2.out⟩⟩, HWD.out⟩, HGR.out⟩
set_option maxRecDepth 100000 in
theorem delete_any (g n c i : Nat) (l : List (Nat × Nat)) (lo : Nat) (w : World) (hs : OwnK w lo (.slice (some ⟨g, 0, none⟩) n c) l) (hi : i < n) (hl : n ≤ 100000) :
  Calls Try.prog 126 #[.slice (some ⟨g, 0, none⟩) n c, .int .i64 (i : Nat), .int .i64 ((i + 1 : Nat) : Int)] w fun e w' => ∃ m c', e = .returned (.slice (some ⟨g, 0, none⟩) m c') ∧ m + 1 = n ∧ OwnK w' lo (.slice (some ⟨g, 0, none⟩) m c') (l.take i ++ l.drop (i + 1)) ∧ w.grownBy w' (some g) := by
 by_cases h : c = i + 1
 ·subst h
  have hn : n = i + 1 := by have := (own_cap hs.1).1; omega
  subst hn
  exact deleteB_any g i l lo w hs hl
 ·exact deleteA_any g n c i l lo w hs hi hl h
end Go.Proofs.Ytiojfpdjnblkhaa
