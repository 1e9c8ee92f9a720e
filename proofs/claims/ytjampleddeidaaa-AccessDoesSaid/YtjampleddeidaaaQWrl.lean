/- The helper of the statements of layer 2: the layer does something. Contracts of package word: products. Contract of Mul. What the laws of layer 2 share: words that come in, answers under names of their own, and what a region that draws its order keeps. -/
import Derived.Test.YtjampleddeidaaaQWri
import Derived.Test.YtjampleddeidaaaQFrm
import Derived.Test.YtjampleddeidaaaQWre
import Derived.Lib.Mul64
import Derived.Laws.Bits64b
import Derived.Deep.RegionHeld3
namespace Go.Proofs.Ytjampleddeidaaa
open Go.RowKit

end Go.Proofs.Ytjampleddeidaaa
namespace Go.Proofs.Ytjampleddeidaaa
open Go.RowKit

namespace Mu
end Mu

def pc (n : Nat) : Array Value := ((List.range 8).map fun i => lv (lb n i)).toArray
end Go.Proofs.Ytjampleddeidaaa
namespace Go.Proofs.Ytjampleddeidaaa
open Go.RowKit

end Go.Proofs.Ytjampleddeidaaa
namespace Go.Proofs.Ytjampleddeidaaa
open Go.ChangeShapes Go.WideShapes Go.ChangeAt Go.RowKit

abbrev lit (n : Nat) : Value := .agg #[.int .u64 (lb n 0 : Nat), .int .u64 (lb n 1 : Nat), .int .u64 (lb n 2 : Nat), .int .u64 (lb n 3 : Nat)]

def F4 (W : World) (g n : Nat) : Prop := W.cell? ⟨g, 0, none⟩ = some (.int .u64 (lb n 0 : Nat)) ∧ W.cell? ⟨g, 1, none⟩ = some (.int .u64 (lb n 1 : Nat)) ∧ W.cell? ⟨g, 2, none⟩ = some (.int .u64 (lb n 2 : Nat)) ∧ W.cell? ⟨g, 3, none⟩ = some (.int .u64 (lb n 3 : Nat))
set_option maxRecDepth 100000 in
theorem Wd.f4 {W : World} {g : Nat} {t : TypeId} {n : Nat} (h : Wd W g t n) : F4 W g n := h.cs.four
def Ks (w : World) (l : List (Nat × Nat)) (W : World) : Prop := (∀ x ∈ l, Wd W x.1 30 x.2) ∧ Ext w W
set_option maxRecDepth 100000 in
theorem Ks.ext {w : World} {l : List (Nat × Nat)} {W W' : World} (h : Ks w l W) (he : Ext W W') : Ks w l W' := ⟨fun x hx => (h.1 x hx).ext he, h.2.trans he⟩
set_option maxRecDepth 100000 in
theorem Ks.drew {w : World} {l : List (Nat × Nat)} {W : World} (h : Ks w l W) : Ks w l W.drew := h.ext (Ext.refl W).drew
set_option maxRecDepth 100000 in
theorem Ks.at {w : World} {l : List (Nat × Nat)} {W : World} (h : Ks w l W) (g n : Nat) (hx : (g, n) ∈ l) : Wd W g 30 n := h.1 _ hx
end Go.Proofs.Ytjampleddeidaaa
