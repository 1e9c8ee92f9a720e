/- Package state: the document's RightAccount. -/
import Derived.Test.YteidmoilldheeaaQStq
namespace Go.Proofs.Yteidmoilldheeaa
open Go.ChangeShapes Go.WideShapes Go.ChangeAt Go.RowKit Go.Shelf

end Go.Proofs.Yteidmoilldheeaa
