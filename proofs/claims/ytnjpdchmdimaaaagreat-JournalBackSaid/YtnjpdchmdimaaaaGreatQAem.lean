/- Package access: what deeds come to, by mathematics. Package access: what deeds leave, by mathematics. -/
import Derived.Test.YtnjpdchmdimaaaaGreatQAcq
import Derived.Test.YtnjpdchmdimaaaaGreatQAch
import Derived.Test.YtnjpdchmdimaaaaGreatQAcz
namespace Go.Proofs.YtnjpdchmdimaaaaGreat
open Go.ChangeShapes Go.WideShapes Go.ChangeAt Go.RowKit Go.Shelf

end Go.Proofs.YtnjpdchmdimaaaaGreat
namespace Go.Proofs.YtnjpdchmdimaaaaGreat
open Go.ChangeShapes Go.WideShapes Go.ChangeAt Go.RowKit Go.Shelf

end Go.Proofs.YtnjpdchmdimaaaaGreat
namespace Go.Proofs.YtnjpdchmdimaaaaGreat
open Go.ChangeShapes Go.WideShapes Go.ChangeAt Go.RowKit Go.Shelf

end Go.Proofs.YtnjpdchmdimaaaaGreat
namespace Go.Proofs.YtnjpdchmdimaaaaGreat
open Go.ChangeShapes Go.WideShapes Go.ChangeAt Go.RowKit Go.Shelf

end Go.Proofs.YtnjpdchmdimaaaaGreat
namespace Go.Proofs.YtnjpdchmdimaaaaGreat
open Go.ChangeShapes Go.WideShapes Go.ChangeAt Go.RowKit Go.Shelf

end Go.Proofs.YtnjpdchmdimaaaaGreat
namespace Go.Proofs.YtnjpdchmdimaaaaGreat
open Go.ChangeShapes Go.WideShapes Go.ChangeAt Go.RowKit Go.Shelf

end Go.Proofs.YtnjpdchmdimaaaaGreat
namespace Go.Proofs.YtnjpdchmdimaaaaGreat
open Go.ChangeShapes Go.WideShapes Go.ChangeAt Go.RowKit Go.Shelf

set_option maxRecDepth 100000 in
theorem results_ax2 {fn : Func} {p q : Tmp} (h : fn.results = #[.cell p 35, .tmp q]) (tmps : Array Value) (w : World) (g : Nat) (u v z : Value) (hp : tmps.getD p undef = .pointer (some ⟨g, 0, none⟩)) (hg : Cs w g 35 #[u, v, z]) : (results fn tmps).run Tryz.prog w = .ok (.tuple #[.agg #[u, v, z], tmps.getD q undef]) w := by
 have hp' : tmps[p]?.getD undef = .pointer (some ⟨g, 0, none⟩) := by simpa using hp
 simp [results, h, hp', asAddr, run_loadVar_row w g 35 35 #[u, v, z] (0, 0) _ hg Tryz.underlying35 rfl axinfo]
end Go.Proofs.YtnjpdchmdimaaaaGreat
namespace Go.Proofs.YtnjpdchmdimaaaaGreat
open Go.ChangeShapes Go.WideShapes Go.ChangeAt Go.RowKit Go.Shelf

theorem RetX.kept {lo g : Nat} {W W' : World} {v : Value} {x : Ax} {cs : Array Value} (h : RetX lo W v x) (hg : W.grownBy W' (some g)) (hs : Cs W g 35 cs) : RetX lo W' v x := by
 obtain ⟨a, s, p, e, h1, h2, h3⟩ := h
 exact ⟨a, s, p, e, h1.keptT hg hs (by decide), h2.keptT hg hs (by decide), h3.keptT hg hs (by decide)⟩
end Go.Proofs.YtnjpdchmdimaaaaGreat
namespace Go.Proofs.YtnjpdchmdimaaaaGreat
open Go.RowKit

end Go.Proofs.YtnjpdchmdimaaaaGreat
namespace Go.Proofs.YtnjpdchmdimaaaaGreat
open Go.RowKit

end Go.Proofs.YtnjpdchmdimaaaaGreat
