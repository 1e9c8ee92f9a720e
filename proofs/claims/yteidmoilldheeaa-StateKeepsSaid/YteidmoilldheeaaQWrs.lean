/- Contracts of package word: moves (limbAt, move, Shl, Shr). -/
import Derived.Test.YteidmoilldheeaaQWrl
namespace Go.Proofs.Yteidmoilldheeaa
open Go.RowKit

/-! ### Mathematics of moves -/
/-- The limb at the place j, nought where there is none. -/
def la (a : Nat) (j : Int) : Nat := if 0 ≤ j ∧ j < 4 then lb a j.toNat else 0
/-! ### The functions -/
def MvS (u : World) (ga gq gr a q r : Nat) (W : World) : Prop := Wd W ga 31 a ∧ Cs W gq 3 #[.int .i64 q] ∧ Cs W gr 28 #[.int .u64 r] ∧ Ext u W
set_option maxRecDepth 100000 in
theorem MvS.ext {u : World} {ga gq gr a q r : Nat} {W W' : World} (h : MvS u ga gq gr a q r W) (he : Ext W W') : MvS u ga gq gr a q r W' := ⟨h.1.ext he, h.2.1.ext he, h.2.2.1.ext he, h.2.2.2.trans he⟩
set_option maxRecDepth 100000 in
theorem MvS.drew {u : World} {ga gq gr a q r : Nat} {W : World} (h : MvS u ga gq gr a q r W) : MvS u ga gq gr a q r W.drew := h.ext (Ext.refl W).drew

end Go.Proofs.Yteidmoilldheeaa
