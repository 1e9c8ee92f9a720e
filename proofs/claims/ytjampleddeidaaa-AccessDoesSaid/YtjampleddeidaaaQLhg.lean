/- Package ledger: a row put in wherever; the ledger of a teller. -/
import Derived.Test.YtjampleddeidaaaQLhf
namespace Go.Proofs.Ytjampleddeidaaa
open Go.ChangeShapes Go.WideShapes Go.ChangeAt Go.RowKit Go.Shelf

set_option maxRecDepth 100000 in
theorem own_addrH {W : World} {lo s n c m : Nat} {e : TypeId} {A : Option Addr} {cs : List Value} (h : W.ownsRow lo e s (.slice A n c) m cs) (hn : 0 < m) : ∃ b, A = some ⟨b, 0, none⟩ := by
  rcases h.2 with ⟨_, h0⟩ | ⟨b, cap, cur, e, _⟩
  · omega
  · injection e with e
    exact ⟨b, e⟩
end Go.Proofs.Ytjampleddeidaaa
