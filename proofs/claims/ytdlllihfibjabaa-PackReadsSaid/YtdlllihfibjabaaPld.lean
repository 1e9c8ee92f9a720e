/- The document's own answers of layer 4: tail. The document's own answers of layer 4: Bytes. -/
import Derived.Test.YtdlllihfibjabaaPky
import Derived.Test.YtdlllihfibjabaaRch
namespace Go.Proofs.Ytdlllihfibjabaa
open Go.RowKit Go.Shelf

set_option maxRecDepth 100000 in
/-- The word of a small number, written out. -/
theorem refBytesS_any (n : Nat) (w : World) (hn : n < 18446744073709551616) : Calls Try.prog 66 #[.agg #[.int .u64 (n : Nat), .int .u64 0, .int .u64 0, .int .u64 0]] w (RetB w (nbL n)) := by
  have := refBytes_any n w
  unfold wv at this
  rw [wc_small n hn] at this
  exact this
def slLen (v : Value) : Nat := match v with
  | .slice _ n _ => n
  | _ => 0
/-- What lies there between the rounds. -/
def TlJ (w : World) (l : List UInt8) (k : Nat) (v : Value) (W : World) : Prop := Own W w.heap.size 5 v (nbL l.length ++ l ++ List.replicate k 0) ∧ Ext w W
set_option maxRecDepth 100000 in
set_option maxHeartbeats 1000000 in
theorem refTail_any (v : Value) (l : List UInt8) (w : World) (hb : Bs w v l) (hl : l.length ≤ 1000000000) : Calls Try.prog 67 #[v] w (RetB w (tlL (true, 0, l))) := by
  have HB := Lib.hid hb
  obtain ⟨A0, c0, rfl, k1, k2, k3⟩ := hb
  unfold maxLen at k2
  clear k3
  have b1 : (l.length : Int) ≤ 1000000000 := by omega
  obtain ⟨pad, hpad⟩ : ∃ p, flN l.length - l.length = p := ⟨_, rfl⟩
  have HP := Lib.hid hpad
  have HPM := Lib.hid (show ∀ k, k < pad → (32 + l.length + k) % 32 ≠ 0 from fun k hk => by unfold flN at hpad; omega)
  have HPN := Lib.hid (show (32 + l.length + pad) % 32 = 0 by unfold flN at hpad; omega)
  have HPL := Lib.hid (show pad ≤ 32 by unfold flN at hpad; omega)
  clear hpad
  go_enter Try.func67, Try.ntmps67
  go_wp2_with fail
  refine (refBytesS_any l.length _ (by omega)).mono ?_
  rintro e w1 ⟨v1, rfl, ho1, he1⟩
  have HO1 := Lib.hid ho1
  have HE1 := Lib.hid he1
  have HB1 := Lib.hid (HB.out.ext he1)
  clear ho1 he1
  go_wp2_with (at_builtin; go_loud ((refine wpList_append_bytes rfl (.tmp 8) (.tmp 9) _ rfl w.heap.size 5 Try.underlying28 u8info _ (nbL l.length) rfl HO1.out _ l rfl HB1.out (by rw [nbL_len]; omega) HE1.out.size ?_); intro v2 w2 ho hg _; have HJ : Hid (TlJ w l 0 v2 w2) := Lib.hid ⟨by rw [List.replicate_zero, List.append_nil]; exact ho, HE1.out.append HO1.out hg⟩; clear ho hg))
  go_loopw [3] (fun u wr => ∃ k : Nat, k ≤ pad ∧ Hid (TlJ w l k u wr)) (fun u _ => 32 + l.length + pad - slLen u)
  case atStart => exact ⟨0, by omega, HJ⟩
  case round =>
    clear HJ HO1 HE1 HB1
    obtain ⟨k, hk, HJ⟩ := hrel
    obtain ⟨A3, c3, rfl, q1, q2, _⟩ := HJ.out.1.bs
    unfold maxLen at q2
    have hlen : (nbL l.length ++ l ++ List.replicate k (0 : UInt8)).length = 32 + l.length + k := by simp [nbL_len]; omega
    rw [hlen] at HJ q1
    rw [hlen]
    clear hlen
    obtain ⟨n, hn⟩ : ∃ n, 32 + l.length + k = n := ⟨_, rfl⟩
    have HN := Lib.hid hn
    have hpl := HPL.out
    rw [hn] at HJ q1
    rw [hn]
    have hnb : (n : Int) ≤ 2000000000 := by omega
    by_cases hlt : k < pad
    · have hm0 : n % 32 ≠ 0 := by have := HPM.out k hlt; rwa [hn] at this
      obtain ⟨m, hm⟩ : ∃ m, n % 32 = m := ⟨_, rfl⟩
      have hm1 : (n : Int).tmod 32 = (m : Int) := by
        rw [Int.tmod_eq_emod_of_nonneg (by omega)]
        omega
      have hd : decide ((0 : Int) < (m : Int)) = true := decide_eq_true (by omega)
      have hd2 : decide (0 < m) = true := decide_eq_true (by omega)
      clear hm0 hm hn
      go_wp2_with (at_builtin; go_loud ((refine wpList_append_bytes rfl (.tmp 15) (.tmp 16) _ rfl w.heap.size 5 Try.underlying28 u8info _ _ rfl (HJ.out.1.ext ((Ext.refl wr).alloc _)) _ [0] rfl (bs_lit _ _ 5 [0] _ _ (heap_alloc_new _ _) rfl rfl (by simp [maxLen])) (by simp [nbL_len]; omega) (HJ.out.2.alloc _).size ?_); intro v5 w5 ho hg _; have HJ5 : Hid (TlJ w l (k + 1) v5 w5) := Lib.hid ⟨by rw [List.replicate_succ', ← List.append_assoc]; exact ho, (HJ.out.2.alloc _).append (HJ.out.1.ext ((Ext.refl wr).alloc _)) hg⟩; clear ho hg))
      have HLN := Lib.hid (show slLen v5 = n + 1 by
        obtain ⟨A5, c5, e5, _⟩ := HJ5.out.1.bs
        rw [e5]
        have := HN.out
        simp [slLen, nbL_len]
        omega)
      exact ⟨⟨k + 1, by omega, HJ5⟩, by rw [HLN.out]; have := HN.out; simp [slLen]; omega⟩
    · obtain rfl : k = pad := by omega
      have hm0 : n % 32 = 0 := by have := HPN.out; rwa [hn] at this
      have hm1 : (n : Int).tmod 32 = 0 := by
        rw [Int.tmod_eq_emod_of_nonneg (by omega)]
        omega
      clear hm0 hn
      go_wp2_with fail
      go_ret
      refine ⟨_, rfl, ?_, HJ.out.2⟩
      have := HJ.out.1
      unfold tlL
      rw [if_pos rfl]
      rw [← HP.out] at this
      exact this
end Go.Proofs.Ytdlllihfibjabaa
namespace Go.Proofs.Ytdlllihfibjabaa
open Go.RowKit Go.Shelf

set_option maxRecDepth 100000 in
theorem layL_head (l : List Pt) (h : errP l = 0) (k : Nat) (hk : k < l.length) : (layL l).take (32 * (k + 1)) = (layL l).take (32 * k) ++ if (l.getD k (false, 0, [])).1 then nbL (32 * l.length + tlS l k) else bytL (l.getD k (false, 0, [])).2.1 (List.range 32) := by
  have h1 := layL_chk l h k hk
  unfold hdV at h1
  have h2 : (layL l).take (32 * (k + 1)) = (layL l).take (32 * k) ++ chk (layL l) k := by
    unfold chk
    rw [show 32 * (k + 1) = 32 * k + 32 by omega, List.take_add]
  rw [h2, h1]
  by_cases hp : (l.getD k (false, 0, [])).1 = true
  · rw [if_pos ⟨hp, hk⟩, if_pos hp]
  · rw [if_neg (fun h => hp h.1), if_neg hp]
set_option maxRecDepth 100000 in
theorem tlA_next (l : List Pt) (k : Nat) (hk : k < l.length) : tlA (l.take (k + 1)) = tlA (l.take k) ++ tlL (l.getD k (false, 0, [])) := by
  rw [take_snocP l k hk, tlA_app]
  simp [tlA]
set_option maxRecDepth 100000 in
theorem layL_all (l : List Pt) (h : errP l = 0) : (layL l).take (32 * l.length) ++ tlA (l.take l.length) = layL l := by
  rw [List.take_length, ← layL_drop l h, List.take_append_drop]
set_option maxRecDepth 100000 in
theorem tlL_long (p : Pt) (h : p.1 = true) : tlL p = tlL (true, 0, p.2.2) := by unfold tlL; rw [h]
set_option maxRecDepth 100000 in
theorem tlL_short (p : Pt) (h : p.1 = false) : tlL p = [] := by unfold tlL; rw [h]; rfl
/-- Two rows of the call's own, apart from one another. -/
def Two (w : World) (a b : List UInt8) (u v : Value) (W : World) : Prop :=
  Own W w.heap.size 5 u a ∧ Own W w.heap.size 5 v b ∧ (∀ g, u.ownBlock = some g → v.ownBlock ≠ some g) ∧ Ext w W
set_option maxRecDepth 100000 in
theorem Two.ext {w : World} {a b : List UInt8} {u v : Value} {W W' : World} (h : Two w a b u v W) (he : Ext W W') : Two w a b u v W' := ⟨h.1.ext he, h.2.1.ext he, h.2.2.1, h.2.2.2.trans he⟩
set_option maxRecDepth 100000 in
theorem Two.fst {w : World} {a b a' : List UInt8} {u v u' : Value} {W W' : World} (h : Two w a b u v W) (ho : Own W' w.heap.size 5 u' a') (hg : W.grownBy W' u.ownBlock) (hu : u'.ownBlock = u.ownBlock ∨ u'.ownBlock = some W.heap.size) : Two w a' b u' v W' :=
  ⟨ho, World.ownsRow.kept h.2.1 hg (by
    cases hv : v.ownBlock with
    | none => exact .inl rfl
    | some g => exact .inr fun e => h.2.2.1 g e.symm hv), fun g hg' hv => by
    rcases hu with hu | hu
    · exact h.2.2.1 g (hu ▸ hg') hv
    · rw [hu] at hg'
      injection hg' with hg'
      have := (h.2.1.lt g hv).2
      omega, h.2.2.2.append h.1 hg⟩
set_option maxRecDepth 100000 in
theorem Two.snd {w : World} {a b b' : List UInt8} {u v v' : Value} {W W' : World} (h : Two w a b u v W) (ho : Own W' w.heap.size 5 v' b') (hg : W.grownBy W' v.ownBlock) (hu : v'.ownBlock = v.ownBlock ∨ v'.ownBlock = some W.heap.size) : Two w a b' u v' W' :=
  ⟨World.ownsRow.kept h.1 hg (by
    cases hv : u.ownBlock with
    | none => exact .inl rfl
    | some g => exact .inr fun e => h.2.2.1 g hv e.symm), ho, fun g hg' hv => by
    rcases hu with hu | hu
    · exact h.2.2.1 g hg' (hu ▸ hv)
    · rw [hu] at hv
      injection hv with hv
      have := (h.1.lt g hg').2
      omega, h.2.2.2.append h.2.1 hg⟩
set_option maxRecDepth 100000 in
set_option maxHeartbeats 1000000 in
theorem refLay_any (v : Value) (l : List Pt) (w : World) (hv : Pts w v l) (he : errP l = 0) : Calls Try.prog 24 #[v] w (RetB w (layL l)) := by
  have HV := Lib.hid hv
  obtain ⟨A0, c0, rfl, k1, k2⟩ := hv.len
  unfold maxLen at k2
  have HLN := Lib.hid (layL_len l he)
  have HTS := Lib.hid (tlS_le l he)
  have h16 := errP_len l he
  have HLA := Lib.hid (layL_all l he)
  have HNX := Lib.hid (layL_head l he)
  have HTX := Lib.hid (tlA_next l)
  have HTL := Lib.hid (tlA_len l)
  have HMB := Lib.hid (fun k hk => mayB_data _ (errP_all l he k hk))
  clear hv he
  go_enter Try.func24, Try.ntmps24
  go_wp2_with fail
  go_loopw [3, 4, 9] (fun u v j wr => ∃ k : Nat, k ≤ l.length ∧ j = .int .i64 k ∧ Hid (Two w ((layL l).take (32 * k)) (tlA (l.take k)) u v wr)) (fun _ _ j _ => l.length - (intOf j).toNat)
  case atStart => exact ⟨0, by omega, rfl, Lib.hid ⟨by simpa [Own] using World.ownsRow_nil w w.heap.size 5 1, by simpa [Own, tlA] using World.ownsRow_nil w w.heap.size 5 1, (fun g h => by cases h), Ext.refl _⟩⟩
  case round =>
    obtain ⟨k, hk, rfl, HJ⟩ := hrel
    by_cases hlt : k < l.length
    · have hd : decide (k < l.length) = true := decide_eq_true hlt
      obtain ⟨bb, oo, u, rfl, hrg, hbu, hpw⟩ := HV.out.at k hlt
      have HN1 := Lib.hid (HNX.out k hlt)
      have HN2 := Lib.hid (HTX.out k hlt)
      have HTK := Lib.hid (HTL.out k)
      have HSK := Lib.hid (HTS.out k hk)
      have HDM := Lib.hid (HMB.out k hlt)
      have HHL := Lib.hid (show ((layL l).take (32 * k)).length ≤ 512 by rw [List.length_take]; omega)
      generalize l.getD k (false, 0, []) = p at *
      have HR := Lib.hid (show wr.rangeAt bb (oo + k * 6) (ptc p u).toList from fun j v hv => HJ.out.2.2.2.cell (hrg j v hv))
      have HU1 := Lib.hid (bs_one hbu)
      have HBU := Lib.hid hbu
      clear hrg hpw hbu
      obtain ⟨pc, hpc⟩ : ∃ pc, ptc p u = pc := ⟨_, rfl⟩
      have HP := Lib.hid hpc
      clear hpc
      obtain ⟨A1, c1, rfl, q1, q2, q3⟩ := HBU.out
      unfold maxLen at q2
      clear q3
      obtain ⟨lg, n, d⟩ := p
      dsimp only at *
      generalize hhd : (layL l).take (32 * k) = hd0 at *
      generalize htl : tlA (l.take k) = tl0 at *
      clear hhd htl
      cases lg with
      | false =>
        rw [if_neg (by simp)] at HN1
        rw [tlL_short _ rfl, List.append_nil] at HN2
        go_wp2_with (first
          | ((with_reducible refine wpList_load_part ?_ (.tmp 11) ?_ bb (oo + k * 6) (false, n, d) (.slice A1 d.length c1) ?_ ?_ ?_); (exact rfl); (exact rfl); (exact rfl); (exact HR.out); rw [HP.out])
          | ((with_reducible refine wpList_store_part ?_ ?_ (.tmp 6) (.tmp 12) ?_ wr.heap.size pz (false, n, d) (.slice A1 d.length c1) ?_ ?_ ?_ ?_ ?_ ?_); (exact rfl); (exact rfl); (exact rfl); (exact HU1.out); (exact rfl); (rw [HP.out]; exact rfl); (exact Cs.new _ _ _ _ rfl); (exact rfl); intro w2 k2 g2; have hc0 := Pb.long k2; have K2 := Lib.hid k2; have HX2 := Lib.hid (((Ext.refl wr).alloc (.cells pz 48)).grown g2 (Nat.le_refl _)); clear k2 g2)
          | ((with_reducible refine wpList_load_wordIn ?_ (.tmp 17) ?_ wr.heap.size 1 n ?_ ?_ ?_); (exact rfl); (exact rfl); (exact rfl); (exact K2.out.word)))
        refine (refBytes_any n _).mono ?_
        rintro e w3 ⟨v3, rfl, ho3, he3⟩
        have HJ3 := Lib.hid (HJ.out.ext (HX2.out.trans he3))
        have HO3 := Lib.hid ho3.bs
        clear ho3 he3 hc0 HX2 K2
        go_wp2_with (at_builtin; go_loud ((refine wpList_append_bytes rfl (.tmp 16) (.tmp 19) _ rfl w.heap.size 5 Try.underlying28 u8info _ _ rfl HJ3.out.1 _ (bytL n (List.range 32)) rfl HO3.out (by have := HHL.out; rw [bytL_len]; simp; omega) HJ3.out.2.2.2.size ?_); intro v4 w4 ho hg hb; have HJ4 := Lib.hid (HJ3.out.fst ho hg hb); clear ho hg hb))
        exact ⟨⟨k + 1, by omega, by go_num, by rw [HN1.out, HN2.out]; exact HJ4⟩, by simp [intOf]; omega⟩
      | true =>
        rw [if_pos rfl] at HN1
        obtain ⟨A4, c4, rfl, q5, q6, q7⟩ := HJ.out.2.1.bs
        unfold maxLen at q6
        clear q7
        obtain ⟨T, hT⟩ : ∃ T, tl0.length = T := ⟨_, rfl⟩
        have HT := Lib.hid hT
        have hTs : T = tlS l k := by have := HTK.out; omega
        rw [← hTs] at HN1 HSK
        rw [hT] at HJ q5
        rw [hT]
        obtain ⟨N, hN⟩ : ∃ N, 32 * l.length + T = N := ⟨_, rfl⟩
        have hsk := HSK.out
        have hw1 : IntKind.i64.wrap (32 * (l.length : Int)) = 32 * (l.length : Int) := IntWalk.i64_in _ (by omega)
        have hw2 : IntKind.i64.wrap (32 * (l.length : Int) + (T : Int)) = (N : Int) := by rw [IntWalk.i64_in _ (by omega)]; omega
        have hNb : (N : Int) ≤ 1000000 := by omega
        have hTb : (T : Int) ≤ 1000000 := by omega
        rw [hN] at HN1
        clear hN hTs hT HTK
        go_wp2_with (first
          | ((with_reducible refine wpList_load_part ?_ (.tmp 11) ?_ bb (oo + k * 6) (true, n, d) (.slice A1 d.length c1) ?_ ?_ ?_); (exact rfl); (exact rfl); (exact rfl); (exact HR.out); rw [HP.out])
          | ((with_reducible refine wpList_store_part ?_ ?_ (.tmp 6) (.tmp 12) ?_ wr.heap.size pz (true, n, d) (.slice A1 d.length c1) ?_ ?_ ?_ ?_ ?_ ?_); (exact rfl); (exact rfl); (exact rfl); (exact HU1.out); (exact rfl); (rw [HP.out]; exact rfl); (exact Cs.new _ _ _ _ rfl); (exact rfl); intro w2 k2 g2; have hc0 := Pb.long k2; have K2 := Lib.hid k2; have HX2 := Lib.hid (((Ext.refl wr).alloc (.cells pz 48)).grown g2 (Nat.le_refl _)); clear k2 g2))
        refine (refBytesS_any N _ (by omega)).mono ?_
        rintro e w3 ⟨v3, rfl, ho3, he3⟩
        have HJ3 := Lib.hid (HJ.out.ext (HX2.out.trans he3))
        have HO3 := Lib.hid ho3.bs
        have K3 := Lib.hid (K2.out.ext he3)
        clear ho3 he3 hc0 HX2 K2
        go_wp2_with (at_builtin; go_loud ((refine wpList_append_bytes rfl (.tmp 21) (.tmp 30) _ rfl w.heap.size 5 Try.underlying28 u8info _ _ rfl HJ3.out.1 _ (nbL N) rfl HO3.out (by have := HHL.out; rw [nbL_len]; omega) HJ3.out.2.2.2.size ?_); intro v4 w4 ho hg hb; have HJ4 := Lib.hid (HJ3.out.fst ho hg hb); have hc5 := Pb.data (Cs.kept K3.out hg (fun e => absurd (HJ.out.1.lt wr.heap.size e.symm).2 (Nat.lt_irrefl _))); clear ho hg hb))
        refine (refTail_any _ d _ (HBU.out.ext HJ4.out.2.2.2) (by have := HDM.out; omega)).mono ?_
        rintro e w5 ⟨v5, rfl, ho5, he5⟩
        have HJ5 := Lib.hid (HJ4.out.ext he5)
        have HO5 := Lib.hid ho5.bs
        have HTN := Lib.hid (show (tlL (true, 0, d)).length ≤ 256 by rw [tlL_len]; exact tlN_le _ (by have := HDM.out; simp [mayB]; omega))
        clear ho5 he5 hc5 HJ4
        go_wp2_with (at_builtin; go_loud ((refine wpList_append_bytes rfl (.tmp 32) (.tmp 35) _ rfl w.heap.size 5 Try.underlying28 u8info _ tl0 rfl HJ5.out.2.1 _ (tlL (true, 0, d)) rfl HO5.out (by have := HTN.out; have := HT.out; omega) HJ5.out.2.2.2.size ?_); intro v6 w6 ho hg hb; have HJ6 := Lib.hid (HJ5.out.snd ho hg hb); clear ho hg hb))
        exact ⟨⟨k + 1, by omega, by go_num, by rw [HN1.out, HN2.out, tlL_long _ rfl]; exact HJ6⟩, by simp [intOf]; omega⟩
    · obtain rfl : k = l.length := by omega
      have HJE := Lib.hid HJ.out.2.2.2
      have hl1 := HLN.out
      have hl2 := HTS.out l.length (Nat.le_refl _)
      have HLB := Lib.hid (show ((layL l).take (32 * l.length)).length + (tlA (l.take l.length)).length ≤ 1000000 by rw [HTL.out, List.length_take]; omega)
      clear hl1 hl2
      go_wp2_with (at_builtin; go_loud ((refine wpList_append_bytes rfl (.tmp 38) (.tmp 39) _ rfl w.heap.size 5 Try.underlying28 u8info _ _ rfl HJ.out.1 _ (tlA (l.take l.length)) rfl HJ.out.2.1.bs (by have := HLB.out; omega) HJ.out.2.2.2.size ?_); intro v6 w6 ho hg hb; have HE6 := Lib.hid (HJE.out.append HJ.out.1 hg); rw [HLA.out] at ho; have HO6 := Lib.hid ho; clear ho hg hb))
      go_ret
      exact ⟨_, rfl, HO6.out, HE6.out⟩
end Go.Proofs.Ytdlllihfibjabaa
