/- Package nonce: where a key stands. -/
import Derived.Test.YtnjpdchmdimaaaaGreatQNoc
namespace Go.Proofs.YtnjpdchmdimaaaaGreat
open Go.ChangeShapes Go.WideShapes Go.ChangeAt Go.RowKit Go.Shelf

end Go.Proofs.YtnjpdchmdimaaaaGreat
