/- The document's own answers of layer 2: Sum. -/
import Derived.Test.YtiojfpdjnblkhaaQRcd
namespace Go.Proofs.Ytiojfpdjnblkhaa
open Go.RowKit

set_option maxRecDepth 100000 in
set_option maxHeartbeats 2000000 in
theorem refSum_any (v : Value) (l : List Nat) (w : World) (hv : Ws w v l) (hl : l.length ≤ 1000000) :
  Calls Try.prog 134 #[v] w (RetWB w (sumW l).1 (sumW l).2) := by
 obtain ⟨A, c, rfl, h1, h2, h3, h4⟩ := hv
 have H3 := Lib.hid h3
 have H4 := Lib.hid h4
 clear h3 h4
 go_enter Try.func134, Try.ntmps134
 go_wp2_with fail
 go_loopw [5, 12] (fun bv iv wr => ∃ k : Nat, k ≤ l.length ∧ iv = .int .i64 k ∧ bv = .bool (sumW (l.take k)).2 ∧ Hid (Ks w [(w.heap.size, 0), (w.heap.size + 1, (sumW (l.take k)).1)] wr)) (fun _ iv _ => l.length - (intOf iv).toNat)
 case atStart =>
  refine ⟨0, Nat.zero_le _, rfl, rfl, ?_⟩
  refine ⟨fun x hx => ?_, ((Ext.refl w).alloc _).alloc _⟩
  simp only [List.mem_cons, List.not_mem_nil, or_false] at hx
  rcases hx with rfl | rfl
  ·exact ((Cs.new w (wc 0) _ _ rfl).alloc _).wd
  ·exact (Cs.new _ (wc 0) _ _ (by simp)).wd
 case round =>
  obtain ⟨k, hk, rfl, rfl, HS⟩ := hrel
  by_cases hlt : k < l.length
  ·have HT := Lib.hid (sumW_take l k hlt)
   have hx := H4.out k hlt
   have hs := sumW_lt (l.take k)
   obtain ⟨b, o, rfl, hc⟩ := H3.out (by omega)
   have q0 : wr.cell? ⟨b, o + k * 4, none⟩ = some (.int .u64 (lb (l.getD k 0) 0 : Nat)) := HS.out.2.cell (hc k hlt 0 (by omega))
   have q1 : wr.cell? ⟨b, o + k * 4 + 1, none⟩ = some (.int .u64 (lb (l.getD k 0) 1 : Nat)) := HS.out.2.cell (hc k hlt 1 (by omega))
   have q2 : wr.cell? ⟨b, o + k * 4 + 2, none⟩ = some (.int .u64 (lb (l.getD k 0) 2 : Nat)) := HS.out.2.cell (hc k hlt 2 (by omega))
   have q3 : wr.cell? ⟨b, o + k * 4 + 3, none⟩ = some (.int .u64 (lb (l.getD k 0) 3 : Nat)) := HS.out.2.cell (hc k hlt 3 (by omega))
   clear hc
   generalize l.getD k 0 = x at *
   generalize hss : sumW (l.take k) = ss at *
   obtain ⟨s, bo⟩ := ss
   dsimp only at hs HS
   have HSS := Lib.hid hss
   clear hss
   go_wp2_with ((with_reducible refine wpList_load_wordG ?_ 31 28 (.tmp 4) rfl Try.underlying31 winfo (w.heap.size + 1) s ?_ ?_ ?_); (exact rfl); (exact rfl); (exact (HS.out.at (w.heap.size + 1) s (by simp)).cs.alloc _))
   refine (refAdd_any s x _ hs hx).mono ?_
   rintro e w3 ⟨rfl, ka, he⟩
   have HS3 := (HS.out.al _).ext he
   have HA := Lib.hid (show sumS (s, bo) x = (addN s x, bo || ovr s x) from rfl)
   clear he q0 q1 q2 q3 HS
   generalize addN s x = s' at *
   generalize ovr s x = b' at *
   go_wp2_with (first
    | ((with_reducible refine wpList_store_word rfl rfl 31 (.tmp 8) (.tmp 20) rfl winfo w3.heap.size (wc 0) s' ?_ ?_ ?_ ?_ ?_); (exact rfl); (exact rfl); (exact heap_alloc_new _ _); (exact rfl); intro w4 k4 g4; have HS4 := HS3.put g4 k4; clear k4 g4)
    | ((with_reducible refine wpList_load_wordG ?_ 31 28 (.tmp 8) rfl Try.underlying31 winfo w3.heap.size s' ?_ ?_ ?_); (exact rfl); (exact rfl); (exact HS4.at _ s' List.mem_cons_self))
    | ((with_reducible refine wpList_store_word rfl rfl 31 (.tmp 4) (.tmp 22) rfl winfo (w.heap.size + 1) (wc s) s' ?_ ?_ ?_ ?_ ?_); (exact rfl); (exact rfl); (exact (HS4.at (w.heap.size + 1) s (by simp)).cs); (exact rfl); intro w5 k5 g5))
   all_goals
    refine ⟨⟨k + 1, by omega, by go_num, ?_, ?_⟩, by simp [intOf]; omega⟩
    ·rw [HT.out, HA.out]
     simp_all
    ·rw [HT.out, HA.out]
     refine ⟨fun x hx => ?_, HS4.2.grown g5 (by omega)⟩
     simp only [List.mem_cons, List.not_mem_nil, or_false] at hx
     rcases hx with rfl | rfl
     ·exact (HS4.at w.heap.size 0 (by simp)).kept g5 (some_ne (by omega))
     ·exact k5
  ·obtain rfl : k = l.length := by omega
   have HK : Hid (Ks w [(w.heap.size, 0), (w.heap.size + 1, (sumW l).1)] wr) := by
    have := HS.out
    rw [List.take_length] at this
    exact this
   rw [List.take_length]
   clear HS H3 H4
   have hsl := sumW_lt l
   generalize hss : sumW l = ss at *
   obtain ⟨s, bo⟩ := ss
   dsimp only at HK ⊢
   have HSS := Lib.hid hss
   clear hss
   go_wp2_with (first
    | ((with_reducible refine wpList_load_wordG ?_ 31 28 (.tmp 4) rfl Try.underlying31 winfo (w.heap.size + 1) s ?_ ?_ ?_); (exact rfl); (exact rfl); (exact HK.out.at (w.heap.size + 1) s (by simp)))
    | ((with_reducible refine wpList_store_word rfl rfl 31 (.tmp 2) (.tmp 28) rfl winfo w.heap.size (wc 0) s ?_ ?_ ?_ ?_ ?_); (exact rfl); (exact rfl); (exact (HK.out.at w.heap.size 0 (by simp)).cs); (exact rfl); intro w5 k5 g5))
   refine bodyPost_ret (results_word_tmp Try.results134 _ _ w.heap.size s rfl k5 Try.underlying31 winfo) rfl ⟨?_, hsl, HK.out.2.grown g5 (Nat.le_refl _)⟩
   first | rfl | (rw [HSS.out]; rfl)
end Go.Proofs.Ytiojfpdjnblkhaa
