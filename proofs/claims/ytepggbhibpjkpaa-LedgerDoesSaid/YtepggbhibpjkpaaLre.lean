/- The document's put of layer 7. -/
import Derived.Test.YtepggbhibpjkpaaLrd
import Derived.BigQuiet
namespace Go.Proofs.Ytepggbhibpjkpaa
open Go.ChangeShapes Go.WideShapes Go.ChangeAt Go.RowKit Go.Shelf

def PuE (lo g2 g3 g4 g6 : Nat) (w : World) (l0 : Value) (h : Hd) (out : List Hd) (W : World) : Prop := ∃ v, PuM lo g2 g3 g4 g6 w l0 h v v out W
theorem PuE.ext {lo g2 g3 g4 g6 : Nat} {w : World} {l0 : Value} {h : Hd} {out : List Hd} {W W' : World} (k : PuE lo g2 g3 g4 g6 w l0 h out W) (he : Ext W W') : PuE lo g2 g3 g4 g6 w l0 h out W' := by
  obtain ⟨v, k⟩ := k
  exact ⟨v, k.ext he⟩
def PlH (q : Hd) (W : World) (v : Value) : Prop := ∃ g, v = .slice (some ⟨g, 0, none⟩) 1 1 ∧ Cs W g 97 (hdc q)
theorem PlH.ext {q : Hd} {W W' : World} {v : Value} (k : PlH q W v) (he : Ext W W') : PlH q W' v := by
  obtain ⟨g, e, k⟩ := k
  exact ⟨g, e, Cs.ext k he⟩
def SlG (n : Nat) (_W : World) (v : Value) : Prop := ∃ A c, v = .slice A n c
theorem SlG.ext {n : Nat} {W W' : World} {v : Value} (k : SlG n W v) (_he : Ext W W') : SlG n W' v := k
def putR (l : List Hd) (h : Hd) : List Hd × Int := if (sumW (flatH (plR l h))).2 then ([], 171) else if 24 < (plR l h).length then ([], 6) else (plR l h, 0)
end Go.Proofs.Ytepggbhibpjkpaa
