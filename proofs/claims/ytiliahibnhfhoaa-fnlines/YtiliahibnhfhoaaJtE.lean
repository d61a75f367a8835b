/- What a packed line reads as, once and twice; the draw of a line to pack. No condition. -/
import Derived.Test.YtiliahibnhfhoaaJtC
import Derived.Test.YtiliahibnhfhoaaJdH
namespace Go.Proofs.Ytiliahibnhfhoaa
open Go.RowKit
set_option linter.unusedVariables false
namespace Jn
structure LineF (x pr : List UInt8) : Prop where
  len : pr.length ≤ 43
  one : linesL pr = [x]
  two : linesL (pr ++ pr) = [x, x]
  br : linesB (pr ++ pr) = false
theorem packed {x : List UInt8} (h : faultC x = 0) : LineF x (packR x) := by
  have e : packR x = packL x := by unfold packR; rw [if_pos h]
  have hp := read_pack h
  have hl := fault_len h
  have hpl := pack_len x
  have e2 : readL (packL x ++ packL x) = ([x, x], (packL x).length + (packL x).length) := by
    rw [read_app (by rw [hp]), hp]
    rfl
  rw [e]
  refine ⟨by omega, ?_, ?_, ?_⟩
  · rw [(lines_ok (by omega)).2.2, hp]
  · rw [(lines_ok (by rw [List.length_append]; omega)).2.2, e2]
  · rw [(lines_ok (by rw [List.length_append]; omega)).2.1]
    unfold brokenC
    rw [e2]
    exact hasB_nil (by rw [List.length_drop, List.length_append]; omega)
set_option maxRecDepth 100000 in
set_option maxHeartbeats 1000000 in
theorem packD (len cap : Nat) (a : Option Addr) (w : World) (hln : len ≤ 1048576) (hc : Drw.CodeAt w.heap.size w a len) :
    Calls Try.prog 44 #[.slice a len cap] w fun e w' => ∃ x : List UInt8, x.length ≤ 41 ∧ e = .returned (.string (str x)) ∧ Below w.heap.size w w' := by
  have HD := hid (lineFaultD len cap a w hln hc)
  clear hc
  go_enter Try.func44, Try.ntmps44
  go_wp2_with fail
  refine HD.out.mono ?_
  rintro e w1 ⟨x, hx, rfl, hb⟩
  go_wp2
  go_ret
  exact ⟨x, hx, rfl, hb⟩
end Jn
end Go.Proofs.Ytiliahibnhfhoaa
