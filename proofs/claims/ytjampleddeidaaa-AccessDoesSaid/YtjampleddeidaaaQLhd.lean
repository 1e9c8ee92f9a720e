/- Package ledger: where a row stands. -/
import Derived.Test.YtjampleddeidaaaQLhc
namespace Go.Proofs.Ytjampleddeidaaa
open Go.ChangeShapes Go.WideShapes Go.ChangeAt Go.RowKit Go.Shelf

end Go.Proofs.Ytjampleddeidaaa
