/- The specification's line of a step. -/
import Derived.Test.YtgghigfflpbjiaaGreatDoorPrA
import Derived.Test.YtgghigfflpbjiaaGreatDoorPsC
import Derived.Test.YtgghigfflpbjiaaGreatDoorTxB
import Derived.Test.YtgghigfflpbjiaaGreatDoorTxC
import Derived.Test.YtgghigfflpbjiaaGreatDoorPqA
namespace Go.Proofs.YtgghigfflpbjiaaGreatDoor
open Go.RowKit
set_option linter.unusedVariables false
set_option linter.unusedSimpArgs false
namespace Pf
open Ex (hid inR eFault str str_app str_size textOf text_ok top_of_e of_e topF add_str specText specDigits)
open Nd (NodeD)
open St (StepD)
open Go.Lib (decDigits)
set_option maxRecDepth 100000 in
set_option maxHeartbeats 2000000 in
theorem specETxt (B : Nat) (ns : List NodeD) (v : Value) (w : World) (hf : eFault ns = 0) (ha : Nd.At w B v ns) :
    Calls Tryz.prog 37 #[v] w fun e w' => e = .returned (.string (str (textOf ns))) ∧ Below w.heap.size w w' := by
  obtain ⟨a, cap, rfl⟩ := ha.slice
  obtain ⟨t, ht⟩ := top_of_e hf
  obtain ⟨h0, h16, hok⟩ := of_e hf
  have HI := hid (specText ns _ B hok h16 ns.length (ns.length - 1) t 0 w (by omega) (by omega) ht ha)
  have hcast : (((ns.length - 1 : Nat) : Nat) : Int) = (ns.length : Int) - 1 := by omega
  rw [hcast] at HI
  rw [text_ok hf ht]
  clear hf ht hok hcast ha
  go_enter Tryz.func37, Tryz.ntmps37
  go_wp2_with fail
  refine HI.out.mono ?_
  rintro e w1 ⟨rfl, hb1⟩
  go_wp2
  go_ret
  exact ⟨rfl, hb1⟩
theorem b_str (l : List UInt8) : ByteArray.mk l.toArray = str l := rfl
theorem name_str (b : ByteArray) : str b.data.toList = b := by cases b; rfl
end Pf
end Go.Proofs.YtgghigfflpbjiaaGreatDoor
