/- Package ledger: which rows may be; tellers. -/
import Derived.Test.YtjampleddeidaaaQLha
namespace Go.Proofs.Ytjampleddeidaaa
open Go.ChangeShapes Go.WideShapes Go.ChangeAt Go.RowKit Go.Shelf

end Go.Proofs.Ytjampleddeidaaa
