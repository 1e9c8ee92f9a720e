/- The law's run, for whatever is done. -/
import Derived.Test.YteidmoilldheeaaQSav
namespace Go.Proofs.Yteidmoilldheeaa
open Go.ChangeShapes Go.WideShapes Go.ChangeAt Go.RowKit Go.Shelf

set_option maxRecDepth 100000 in
theorem runOp_any (sv : Value) (l : List Ac) (o : Opn) (uo vo : Value) (w : World) (hs : Acs w sv l) (hl : l.length ≤ 1000) (hsz : ∀ q ∈ l, q.code.length ≤ 1000000 ∧ q.store.length ≤ 1000000) (hok : o.ok) (hu : Bs w uo o.ac.code) (hv : Pks w vo o.ac.store) :
    Calls Try.prog 11 #[.agg (opc o uo vo), .agg #[sv]] w (RetS w (runS l o)) :=
  run_any sv l o uo vo w hs hl hsz hok hu hv (fun hr => saved_all _ _ (accF_right hr o.a).1 (by have := (accF_right hr o.a).2.1; omega) ⟨hok.2.2.2.2.1, hok.2.2.2.2.2.1⟩)
end Go.Proofs.Yteidmoilldheeaa
