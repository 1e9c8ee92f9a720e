/- Package ledger: which rows may be; tellers. -/
import Derived.Test.YtjampleddeidaaaLha
namespace Go.Proofs.Ytjampleddeidaaa
open Go.ChangeShapes Go.WideShapes Go.ChangeAt Go.RowKit Go.Shelf

/-- A row may be, but for its address. -/
def Hd.rowB (h : Hd) : Bool := if h.stk = 0 then decide (h.dep ≠ 0) && (decide (h.dly = 0) && decide (h.fre = 0)) else decide (0 < h.dly) && (decide (h.dly ≤ 1073741824) && decide (h.fre ≤ 1100585369600))
set_option maxRecDepth 100000 in
theorem lit_hd (a : Nat) : Value.agg #[.int .u64 (a : Int), .int .u64 0, .int .u64 0, .int .u64 0, .int .u64 0, .int .u64 0, .int .u64 0, .int .u64 0, .int .u64 0, .int .u64 0, .int .u64 0] = .agg (hdc ⟨a, 0, 0, 0, 0⟩) := by simp [hdc, lv, lb]
set_option maxRecDepth 100000 in
theorem M256_pos : 0 < M256 := by decide
/-- There is a stake; it is locked; the row holds something. -/
def Hd.stkB (h : Hd) : Bool := h.stk != 0
def Hd.lckB (h : Hd) : Bool := h.stkB && h.fre == 0
def Hd.hasB (h : Hd) : Bool := !h.eqB ⟨h.addr, 0, 0, 0, 0⟩
end Go.Proofs.Ytjampleddeidaaa
