/- The document's own answers of layer 2: Sum. -/
import Derived.Test.YteidmoilldheeaaQRcd
namespace Go.Proofs.Yteidmoilldheeaa
open Go.RowKit

end Go.Proofs.Yteidmoilldheeaa
