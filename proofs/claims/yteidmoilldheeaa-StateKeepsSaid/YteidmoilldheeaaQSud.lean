/- The document's own answers of layer 6: Same, Right. -/
import Derived.Test.YteidmoilldheeaaQSub
namespace Go.Proofs.Yteidmoilldheeaa
open Go.ChangeShapes Go.WideShapes Go.ChangeAt Go.RowKit Go.Shelf

end Go.Proofs.Yteidmoilldheeaa
