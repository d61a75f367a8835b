/- The law's marks in a row of records (Flow): they are written into that row and its nodes alone. -/
import Derived.Test.YtepfkfhbkbkepaaDoorFlB
namespace Go.Proofs.YtepfkfhbkbkepaaDoor
open Go.RowKit Go.Deep
set_option linter.unusedVariables false
namespace Fl
open Ex (hid)
open Nd (NodeD)
open Rc
end Fl
end Go.Proofs.YtepfkfhbkbkepaaDoor
