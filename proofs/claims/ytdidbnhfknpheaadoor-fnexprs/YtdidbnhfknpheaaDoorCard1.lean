/- From a row's list of laid tables to the table of powers of ten; a world that holds the tables. -/
import Derived.Test.YtdidbnhfknpheaaDoorTxA
import Derived.Test.YtdidbnhfknpheaaDoorCards
import Derived.Test.YtdidbnhfknpheaaDoorTie
import Derived.ShutString
import Derived.ChangeOld
import Derived.Below
import Derived.OpenVars
import Derived.Deep.DeepHandedRow
import Derived.Lib.LaidTab
import Derived.LaidSub
namespace Go.Proofs.YtdidbnhfknpheaaDoor
open Go.ChangeShapes Go.WideShapes Go.ChangeAt Go.RowKit
set_option linter.unusedVariables false
namespace Crd
open Ex
theorem own : ownKnob Tryd.prog.godebug = none := by kernel_rfl
theorem laidOut : laidOutB Tryd.prog = true := by kernel_rfl
theorem gTab : Tryd.prog.globalNamed "internal/strconv.uint64pow10" = some 0 := by kernel_rfl
theorem gTabType : (Tryd.prog.globals[0]?).map (·.type) = some 111 := by kernel_rfl
theorem cellsT : Tryd.prog.cellsOf 111 = 20 := by kernel_rfl
theorem cellsE : Tryd.prog.cellsOf 101 = 1 := by kernel_rfl
theorem tab_is : Rows.laid_internal_strconv_uint64pow10 = (Lib.tabData .u64 Lib.pow10Tab : DataW Unit) := by kernel_rfl
def isPow (x : String × DataW Unit) : Bool := x.1 == "internal/strconv.uint64pow10"
/-- From the row's list to the table that the walk reads. -/
theorem tab_of {W : World} {l : List (String × DataW Unit)} (h : laidMetH Tryd.prog l W) (hl : l.filter isPow = [("internal/strconv.uint64pow10", Rows.laid_internal_strconv_uint64pow10)]) : Tab W := by
  have h1 := h.filter isPow
  rw [hl, tab_is] at h1
  have h2 : laidMet Tryd.prog [("internal/strconv.uint64pow10", Lib.tabData .u64 Lib.pow10Tab)] W := h1
  exact Lib.tabIs_of_head gTab gTabType Tryd.underlying111 Tryd.underlying101 cellsE cellsT h2
/-- A world for the witness: the settled one, the tables holding what their initialisers lay. -/
def one : DataW Unit → Value
  | .lit (.int k z) => .int k z
  | _ => .bool false
def flat1 : DataW Unit → List Value
  | .agg l => l.map one
  | _ => []
def flat2 : DataW Unit → List Value
  | .agg l => l.flatMap flat1
  | _ => []
def put (a : List Value) : Obj → Obj
  | .cells _ t frozen => .cells a.toArray t frozen
  | o => o
def laidHeap (h0 : Array Obj) : Array Obj :=
  let h1 := h0.modify 0 (put (flat1 Rows.laid_internal_strconv_uint64pow10))
  let h2 := h1.modify 3 (put (flat1 Rows.laid_math_bits_deBruijn32tab))
  let h3 := h2.modify 4 (put (flat1 Rows.laid_math_bits_deBruijn64tab))
  let h4 := h3.modify 2 (put (flat2 Rows.laid_unicode_utf8_acceptRanges))
  h4.modify 1 (put (flat1 Rows.laid_unicode_utf8_first))
def laidOver (w : World) : World := { w with heap := laidHeap w.heap }
end Crd
end Go.Proofs.YtdidbnhfknpheaaDoor
