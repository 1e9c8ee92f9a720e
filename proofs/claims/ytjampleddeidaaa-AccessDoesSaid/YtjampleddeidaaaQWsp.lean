/- Slices of words: what came in, parts of it, a copy of the call's own; and the mathematics of sums. -/
import Derived.Test.YtjampleddeidaaaQRcd
import Derived.Deep.Slices
import Derived.Maps.AppendAt
namespace Go.Proofs.Ytjampleddeidaaa
open Go.ChangeShapes Go.WideShapes Go.ChangeAt Go.RowKit

end Go.Proofs.Ytjampleddeidaaa
