/- Package ledger: all that is held; which ledgers may be. -/
import Derived.Test.YtjampleddeidaaaQLhb
import Derived.Great.BuildSlice
import Derived.Lib.SliceRun
namespace Go.Proofs.Ytjampleddeidaaa
open Go.ChangeShapes Go.WideShapes Go.ChangeAt Go.RowKit Go.Shelf

end Go.Proofs.Ytjampleddeidaaa
