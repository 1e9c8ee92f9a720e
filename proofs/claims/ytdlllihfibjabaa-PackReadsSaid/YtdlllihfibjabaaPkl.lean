/- Package pack: nextWord. Package pack: nextWord, where too little is left; wordPart. -/
import Derived.Test.YtdlllihfibjabaaPkj
import Derived.Test.YtdlllihfibjabaaWrp
namespace Go.Proofs.Ytdlllihfibjabaa
open Go.RowKit Go.Shelf

set_option maxRecDepth 100000 in
theorem grown_past {a b c : World} {g r : Nat} (h : a.grownBy b (some g)) (k : b.grownBy c (some r)) (hr : a.heap.size ≤ r) : a.grownBy c (some g) :=
  ⟨k.os.trans h.os, k.tape.trans h.tape, k.output.trans h.output, Nat.le_trans h.size k.size, fun i hi hne => (k.block i (Nat.lt_of_lt_of_le hi h.size) (by intro e; injection e with e; omega)).trans (h.block i hi hne)⟩
set_option maxRecDepth 100000 in
set_option maxHeartbeats 1000000 in
theorem nextWord_yes (w0 : World) (g : Nat) (t : TypeId) (cs : Array Value) (A : Option Addr) (c : Nat) (l : List UInt8) (w : World) (hg : Cs w g t cs) (h0 : cs[0]? = some (.slice A l.length c)) (hb : Bs w0 (.slice A l.length c) l) (he0 : Ext w0 w) (hg0 : w0.heap.size ≤ g) (h32 : 32 ≤ l.length) :
    Calls Try.prog 70 #[.pointer (some ⟨g, 0, none⟩)] w fun e w' => e = .returned (.tuple #[wv (beN (l.take 32)), .bool true]) ∧ Cs w' g t (cs.setIfInBounds 0 (behV A l.length c 32)) ∧ Ext w0 w' ∧ w.grownBy w' (some g) := by
  have HB := Lib.hid hb
  have hlt := Cs.lt hg
  obtain ⟨_, _, e1, hlc, hcm, _⟩ := hb
  injection e1 with e1 e2 e3
  subst e1; subst e3
  clear e2
  have HZ : Hid (Wd (w.alloc (.cells (wc 0) 46)) w.heap.size 46 0) := Lib.hid (Cs.new _ _ _ _ rfl)
  have HE : Hid (Ext w (w.alloc (.cells (wc 0) 46))) := Lib.hid ((Ext.refl w).alloc _)
  rw [wc_zero] at HZ HE
  have HRV := Lib.hid (show readV (l.take 32) = .tuple #[wv (beN (l.take 32)), .int .i64 0] by unfold readV; rw [if_pos (by simp; omega)])
  go_enter Try.func70, Try.ntmps70
  go_wp2_with fail
  have HG1 := Lib.hid (Cs.ext hg HE.out)
  refine (next_yes g A l.length c 32 _ (Cs.cell HG1.out 0 _ h0) (Cs.frozen HG1.out 0) h32 hlc hcm).mono ?_
  rintro e w1 ⟨rfl, rfl⟩
  have HG2 := Lib.hid (Cs.set HG1.out 0 (behV A l.length c 32))
  have HGR := Lib.hid (grown_trans (grown_of_ext HE.out (some g)) (grown_set _ g 0 (behV A l.length c 32)))
  have HZ2 := Lib.hid (Wd.kept HZ.out (grown_set _ g 0 (behV A l.length c 32)) (some_ne (by omega)))
  have HE2 := Lib.hid (he0.grown HGR.out hg0)
  have hlt2 : g ≠ w.heap.size := by omega
  clear HZ HE HG1 hg h0
  generalize World.setCell _ _ (behV A l.length c 32) = w1 at *
  go_wp2_with fail
  refine (read_any _ (l.take 32) _ ((HB.out.ext HE2.out).take 32 h32)).mono ?_
  rintro e w2 ⟨rfl, he⟩
  rw [HRV.out]
  have HG3 := Lib.hid (Cs.ext HG2.out he)
  have HZ3 := Lib.hid (HZ2.out.ext he)
  have HGR3 := Lib.hid (grown_trans HGR.out (grown_of_ext he (some g)))
  have hsz := he.size
  have hlt3 := Cs.lt HG2.out
  have hlw : w.heap.size < w1.heap.size := Cs.lt HZ2.out
  clear he HG2 HZ2 HGR HE2 HRV HB
  obtain ⟨x, hx⟩ : ∃ x, beN (l.take 32) = x := ⟨_, rfl⟩
  rw [hx]
  have HX := Lib.hid hx
  clear hx
  go_wp2_with (first
    | ((with_reducible refine wpList_store_word ?_ ?_ 46 (.tmp 6) (.tmp 19) ?_ winfo w2.heap.size (wc 0) x ?_ ?_ ?_ ?_ ?_); (exact rfl); (exact rfl); (exact rfl); (exact rfl); (exact rfl); (exact Cs.new _ _ _ _ rfl); (exact rfl); intro w3 k3 g3; have K3 := Lib.hid k3; have G3 := Lib.hid (grown_trans (grown_of_ext ((Ext.refl w2).alloc (.cells (wc 0) 46)) (some w2.heap.size)) g3); clear k3 g3)
    | ((with_reducible refine wpList_load_word ?_ 46 44 (.tmp 6) ?_ Try.underlying46 winfo w2.heap.size x ?_ ?_ ?_); (exact rfl); (exact rfl); (exact rfl); (exact K3.out))
    | ((with_reducible refine wpList_store_word ?_ ?_ 46 (.tmp 2) (.tmp 21) ?_ winfo w.heap.size (wc 0) x ?_ ?_ ?_ ?_ ?_); (exact rfl); (exact rfl); (exact rfl); (exact rfl); (exact rfl); (exact Wd.kept HZ3.out G3.out (some_ne (by omega))); (exact rfl); intro w4 k4 g4; have K4 := Lib.hid k4; have G4 := Lib.hid g4; clear k4 g4))
  have HGE := Lib.hid (grown_past (grown_past HGR3.out G3.out (by omega)) G4.out (Nat.le_refl _))
  refine bodyPost_ret (results_word_tmp Try.results70 _ _ w.heap.size x rfl K4.out Try.underlying46 winfo) rfl ⟨by rw [HX.out]; rfl, Cs.kept (Cs.kept HG3.out G3.out (some_ne (by omega))) G4.out (some_ne (by omega)), he0.grown HGE.out hg0, HGE.out⟩
end Go.Proofs.Ytdlllihfibjabaa
namespace Go.Proofs.Ytdlllihfibjabaa
open Go.RowKit Go.Shelf

set_option maxRecDepth 100000 in
set_option maxHeartbeats 1000000 in
theorem nextWord_no (g : Nat) (A : Option Addr) (m c : Nat) (w : World) (hc : w.cell? ⟨g, 0, none⟩ = some (.slice A m c)) (_hgw : g < w.heap.size) (h32 : m < 32) :
    Calls Try.prog 70 #[.pointer (some ⟨g, 0, none⟩)] w fun e w' => e = .returned (.tuple #[wv 0, .bool false]) ∧ Ext w w' := by
  have HZ : Hid (Wd (w.alloc (.cells (wc 0) 46)) w.heap.size 46 0) := Lib.hid (Cs.new _ _ _ _ rfl)
  have HE : Hid (Ext w (w.alloc (.cells (wc 0) 46))) := Lib.hid ((Ext.refl w).alloc _)
  have HC := Lib.hid (HE.out.cell hc)
  rw [wc_zero] at HZ HE HC
  go_enter Try.func70, Try.ntmps70
  go_wp2_with fail
  refine (next_no g A m c 32 _ HC.out h32 (by omega)).mono ?_
  rintro e w1 ⟨rfl, rfl⟩
  clear hc
  go_wp2_with fail
  exact bodyPost_ret (results_word_tmp Try.results70 _ _ w.heap.size 0 rfl HZ.out Try.underlying46 winfo) rfl ⟨rfl, HE.out⟩
set_option maxRecDepth 100000 in
theorem results_part_tmp {fn : Func} {p q : Tmp} (h : fn.results = #[.cell p 48, .tmp q]) (tmps : Array Value) (w : World) (g : Nat) (x : Pt) (u : Value) (hp : tmps.getD p undef = .pointer (some ⟨g, 0, none⟩)) (hg : Pb w g x u) : (results fn tmps).run Try.prog w = .ok (.tuple #[.agg (ptc x u), tmps.getD q undef]) w := by
  have hp' : tmps[p]?.getD undef = .pointer (some ⟨g, 0, none⟩) := by simpa using hp
  simp [results, h, hp', asAddr, run_loadVar_row w g 48 48 (ptc x u) (0, 0) _ hg Try.underlying48 rfl ptinfo]
set_option maxRecDepth 100000 in
theorem wordPart_any (g n : Nat) (w : World) : Calls Try.prog 109 #[.pointer (some ⟨g, 0, none⟩), wv n] w fun e w' => e = .returned (.tuple #[.agg (ptc (false, n, []) (.slice none 0 0)), .bool true]) ∧ Ext w w' := by
  have hcs := Cs.new w (wc n) 46 _ rfl
  have HZ : Hid (Cs ((w.alloc (.cells (wc n) 46)).alloc (.cells pz 48)) (w.heap.size + 1) 48 pz) := Lib.hid (Cs.new _ _ _ _ (by simp))
  have HE : Hid (Ext w ((w.alloc (.cells (wc n) 46)).alloc (.cells pz 48))) := Lib.hid (((Ext.refl w).alloc _).alloc _)
  unfold pz at HZ HE
  have HK := Lib.hid (hcs.alloc (.cells pz 48))
  unfold pz at HK
  unfold wv
  go_enter Try.func109, Try.ntmps109
  go_wp2_with ((with_reducible refine wpList_load_word rfl 46 44 (.tmp 3) rfl Try.underlying46 winfo w.heap.size n ?_ ?_ ?_); (exact rfl); (exact HK.out))
  refine (packOf_any n _).mono ?_
  rintro e w1 ⟨rfl, he⟩
  have HZ1 := Lib.hid (Cs.ext HZ.out he)
  have HE1 := Lib.hid (HE.out.trans he)
  clear he HZ HE HK hcs
  generalize hp : ptc (false, n, []) (.slice none 0 0) = p at *
  have HP := Lib.hid hp
  go_wp2_with ((with_reducible refine wpList_store_part ?_ ?_ (.tmp 4) (.tmp 7) ?_ (w.heap.size + 1) pz (false, n, []) (.slice none 0 0) ?_ ?_ ?_ ?_ ?_ ?_); (exact rfl); (exact rfl); (exact rfl); (exact rfl); (exact rfl); (rw [HP.out]; exact rfl); (exact HZ1.out); (exact rfl); intro w4 k4 g4; have K4 := Lib.hid k4; have HE4 := Lib.hid (HE1.out.grown g4 (by omega)); clear k4 g4)
  exact bodyPost_ret (results_part_tmp Try.results109 _ _ (w.heap.size + 1) _ _ rfl K4.out) rfl ⟨rfl, HE4.out⟩
end Go.Proofs.Ytdlllihfibjabaa
