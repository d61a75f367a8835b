/- The law's marks in a row of records (Flow): they are written into that row and its nodes alone. -/
import Derived.Test.YtijjepgoejgaiaaFlB
namespace Go.Proofs.Ytijjepgoejgaiaa
open Go.RowKit Go.Deep
set_option linter.unusedVariables false
namespace Fl
open Ex (hid)
open Nd (NodeD)
open Rc
end Fl
end Go.Proofs.Ytijjepgoejgaiaa
