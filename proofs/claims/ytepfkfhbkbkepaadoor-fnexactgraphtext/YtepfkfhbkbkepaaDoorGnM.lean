/- The law's marks in a row of records (GNode): they are written into that row and its nodes alone. -/
import Derived.Test.YtepfkfhbkbkepaaDoorGnB
namespace Go.Proofs.YtepfkfhbkbkepaaDoor
open Go.RowKit Go.Deep
set_option linter.unusedVariables false
namespace Gn
open Ex (hid)
open Nd (NodeD)
open Rc
end Gn
end Go.Proofs.YtepfkfhbkbkepaaDoor
