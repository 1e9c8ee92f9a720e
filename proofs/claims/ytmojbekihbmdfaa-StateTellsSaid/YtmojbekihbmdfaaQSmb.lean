/- What comes of states by what is done (plain mathematics). -/
import Derived.Test.YtmojbekihbmdfaaQSma
namespace Go.Proofs.Ytmojbekihbmdfaa
open Go.ChangeShapes Go.WideShapes Go.ChangeAt Go.RowKit Go.Shelf

/-- An account with another balance. -/
def setB (p : Ac) (n : Nat) : Ac := ⟨p.addr, n, p.nonce, p.code, p.store⟩
@[simp] theorem setB_bal (p : Ac) (n : Nat) : (setB p n).bal = n := rfl
def OkL (l : List Ac) : Prop := ∀ p ∈ l, p.ok
theorem OkL.acc {l : List Ac} (h : OkL l) {a : Nat} (ha : a < 18446744073709551616) : (accF l a).1.ok := by
  cases hf : (accF l a).2 with
  | true => exact h _ (accF_mem2 hf)
  | false => rw [accF_no hf]; exact ⟨ha, show 0 < M256 by decide, show 0 < 18446744073709551616 by decide⟩
end Go.Proofs.Ytmojbekihbmdfaa
