/- JournalTurns: what is laid, and touched, is there, in whichever order. -/
import Derived.Test.YtnjpdchmdimaaaaGreatQJoe
import Derived.Test.YtnjpdchmdimaaaaGreatQJod
namespace Go.Proofs.YtnjpdchmdimaaaaGreat
open Go.ChangeShapes Go.WideShapes Go.ChangeAt Go.RowKit Go.Shelf

set_option maxRecDepth 100000 in
theorem journalTurns_told (W : World) (args : Array Value) (h : Told Tryz.f6 W args) : Calls Tryz.prog 6 args W (RetT W) := by
 obtain ⟨H, enc, base, ds, p, hval, hA⟩ := h
 rw [Tryz.params6] at hA hval
 obtain ⟨v0, v1, v2, d0, d1, d2, p0, p1, p2, rfl, rfl, rfl, h0, h1, h2⟩ := trodAll_three hA
 obtain ⟨xu, xv, xz, xa, xs, xq, xm, j, rfl, hj⟩ := journal_came (hval 0 _ v0 rfl rfl) h0
 obtain ⟨u, x, z, o, rfl, ho⟩ := world_came (hval 1 _ v1 rfl rfl) h1
 obtain ⟨a, s, q, y, rfl, hy⟩ := access_cameJ (hval 2 _ v2 rfl rfl) h2
 exact journalTurns_any xu xv xz xa xs xq xm u x z a s q j o y W hj ho hy

set_option maxRecDepth 100000 in
theorem journalTurns_spec (H : Type) : ∀ ds : List (DataW H), ds.length = Tryz.f6.params.toList.length → Rows.journalTurnsSpec.fn H ds = { results := [.lit (.bool true)], args := ds }
 | [_, _, _], _ => rfl
 | [], h | [_], h | [_, _], h | _ :: _ :: _ :: _ :: _, h => by rw [Tryz.params6] at h; simp at h

set_option maxRecDepth 100000 in
theorem journalTurns_holds : Rows.JournalTurnsSaid :=
 OpenClaim.holds_of_wide 6 Tryz.f6 rfl rfl rfl rfl rfl rfl rfl ⟨rfl, rfl, rfl, rfl, rfl⟩ rfl rfl rfl rfl rfl (by kernel_rfl) Tryz.func6 (by kernel_rfl)
  (of_decide_eq_true (by kernel_rfl)) (by unfold Func.isWrapper; first | (rw [if_pos (by decide +kernel)]; kernel_rfl) | (rw [if_neg (by decide +kernel)]; exact ⟨rfl, rfl⟩))
  (fun os started H enc _ => law_lifted started (by kernel_rfl) Tryz.func6 rfl rfl (journalTurns_spec H) (of_decide_eq_true (by kernel_rfl))
   (ChangeSpec.witness6 (enc := enc) (C := Tryz.checked) false ⟨#[], #[.agg #[.slice none 0 0, .slice none 0 0, .slice none 0 0, .slice none 0 0, .slice none 0 0, .slice none 0 0, .slice none 0 0], .agg #[.slice none 0 0, .slice none 0 0, .slice none 0 0], .agg #[.slice none 0 0, .slice none 0 0, .slice none 0 0]], []⟩ 8 (by kernel_rfl) (by kernel_rfl) (by kernel_rfl) (by kernel_rfl)) journalTurns_told)
end Go.Proofs.YtnjpdchmdimaaaaGreat
