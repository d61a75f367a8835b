/- The specification's small functions of expressions. -/
import Derived.Test.YtepfkfhbkbkepaaDoorExM
import Derived.Test.YtepfkfhbkbkepaaDoorNu
namespace Go.Proofs.YtepfkfhbkbkepaaDoor
open Go.RowKit
set_option linter.unusedVariables false
namespace Ex
open Nd (NodeD)
set_option maxRecDepth 100000 in
set_option maxHeartbeats 400000 in
theorem specIn (v a b : Int) (w : World) : Calls Tryd.prog 27 #[.int .i64 v, .int .i64 a, .int .i64 b] w fun e w' => e = .returned (.bool (inR v a b)) ∧ w' = w := by
  unfold inR
  by_cases h1 : a ≤ v
  · by_cases h2 : v ≤ b
    · go_enter Tryd.func27, Tryd.ntmps27
      go_wp2
      go_ret
      exact ⟨by simp [h1, h2], rfl⟩
    · go_enter Tryd.func27, Tryd.ntmps27
      go_wp2
      go_ret
      exact ⟨by simp [h2], rfl⟩
  · go_enter Tryd.func27, Tryd.ntmps27
    go_wp2
    go_ret
    exact ⟨by simp; omega, rfl⟩
end Ex
end Go.Proofs.YtepfkfhbkbkepaaDoor
