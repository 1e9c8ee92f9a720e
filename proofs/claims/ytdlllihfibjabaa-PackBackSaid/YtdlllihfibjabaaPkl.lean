/- Package pack: nextWord, where too little is left; wordPart. -/
import Derived.Test.YtdlllihfibjabaaPkk
namespace Go.Proofs.Ytdlllihfibjabaa
open Go.RowKit Go.Shelf

set_option maxRecDepth 100000 in
set_option maxHeartbeats 1000000 in
theorem nextWord_no (g : Nat) (A : Option Addr) (m c : Nat) (w : World) (hc : w.cell? ⟨g, 0, none⟩ = some (.slice A m c)) (_hgw : g < w.heap.size) (h32 : m < 32) :
    Calls Try.prog 70 #[.pointer (some ⟨g, 0, none⟩)] w fun e w' => e = .returned (.tuple #[wv 0, .bool false]) ∧ Ext w w' := by
  have HZ : Hid (Wd (w.alloc (.cells (wc 0) 46)) w.heap.size 46 0) := Lib.hid (Cs.new _ _ _ _ rfl)
  have HE : Hid (Ext w (w.alloc (.cells (wc 0) 46))) := Lib.hid ((Ext.refl w).alloc _)
  have HC := Lib.hid (HE.out.cell hc)
  rw [wc_zero] at HZ HE HC
  go_enter Try.func70, Try.ntmps70
  go_wp2_with fail
  refine (next_no g A m c 32 _ HC.out h32 (by omega)).mono ?_
  rintro e w1 ⟨rfl, rfl⟩
  clear hc
  go_wp2_with fail
  exact bodyPost_ret (results_word_tmp Try.results70 _ _ w.heap.size 0 rfl HZ.out Try.underlying46 winfo) rfl ⟨rfl, HE.out⟩
set_option maxRecDepth 100000 in
theorem results_part_tmp {fn : Func} {p q : Tmp} (h : fn.results = #[.cell p 48, .tmp q]) (tmps : Array Value) (w : World) (g : Nat) (x : Pt) (u : Value) (hp : tmps.getD p undef = .pointer (some ⟨g, 0, none⟩)) (hg : Pb w g x u) : (results fn tmps).run Try.prog w = .ok (.tuple #[.agg (ptc x u), tmps.getD q undef]) w := by
  have hp' : tmps[p]?.getD undef = .pointer (some ⟨g, 0, none⟩) := by simpa using hp
  simp [results, h, hp', asAddr, run_loadVar_row w g 48 48 (ptc x u) (0, 0) _ hg Try.underlying48 rfl ptinfo]
set_option maxRecDepth 100000 in
theorem wordPart_any (g n : Nat) (w : World) : Calls Try.prog 109 #[.pointer (some ⟨g, 0, none⟩), wv n] w fun e w' => e = .returned (.tuple #[.agg (ptc (false, n, []) (.slice none 0 0)), .bool true]) ∧ Ext w w' := by
  have hcs := Cs.new w (wc n) 46 _ rfl
  have HZ : Hid (Cs ((w.alloc (.cells (wc n) 46)).alloc (.cells pz 48)) (w.heap.size + 1) 48 pz) := Lib.hid (Cs.new _ _ _ _ (by simp))
  have HE : Hid (Ext w ((w.alloc (.cells (wc n) 46)).alloc (.cells pz 48))) := Lib.hid (((Ext.refl w).alloc _).alloc _)
  unfold pz at HZ HE
  have HK := Lib.hid (hcs.alloc (.cells pz 48))
  unfold pz at HK
  unfold wv
  go_enter Try.func109, Try.ntmps109
  go_wp2_with ((with_reducible refine wpList_load_word rfl 46 44 (.tmp 3) rfl Try.underlying46 winfo w.heap.size n ?_ ?_ ?_); (exact rfl); (exact HK.out))
  refine (packOf_any n _).mono ?_
  rintro e w1 ⟨rfl, he⟩
  have HZ1 := Lib.hid (Cs.ext HZ.out he)
  have HE1 := Lib.hid (HE.out.trans he)
  clear he HZ HE HK hcs
  generalize hp : ptc (false, n, []) (.slice none 0 0) = p at *
  have HP := Lib.hid hp
  go_wp2_with ((with_reducible refine wpList_store_part ?_ ?_ (.tmp 4) (.tmp 7) ?_ (w.heap.size + 1) pz (false, n, []) (.slice none 0 0) ?_ ?_ ?_ ?_ ?_ ?_); (exact rfl); (exact rfl); (exact rfl); (exact rfl); (exact rfl); (rw [HP.out]; exact rfl); (exact HZ1.out); (exact rfl); intro w4 k4 g4; have K4 := Lib.hid k4; have HE4 := Lib.hid (HE1.out.grown g4 (by omega)); clear k4 g4)
  exact bodyPost_ret (results_part_tmp Try.results109 _ _ (w.heap.size + 1) _ _ rfl K4.out) rfl ⟨rfl, HE4.out⟩
end Go.Proofs.Ytdlllihfibjabaa
