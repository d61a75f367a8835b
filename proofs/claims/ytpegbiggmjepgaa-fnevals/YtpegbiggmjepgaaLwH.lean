/- The law's own question whether a list has a number. -/
import Derived.Test.YtpegbiggmjepgaaNu
import Derived.Test.YtpegbiggmjepgaaExM
import Derived.WalkKit
import Derived.ProofKit
namespace Go.Proofs.Ytpegbiggmjepgaa
open Go.RowKit
set_option linter.unusedVariables false
namespace DrE
open Ex
def hasN (xs : List Int) (v : Int) : Bool := xs.any (· == v)
theorem hasN_no {xs : List Int} {v : Int} (h : ∀ j (hj : j < xs.length), (xs[j] == v) = false) : hasN xs v = false := by
  unfold hasN
  rw [List.any_eq_false]
  intro x hx
  obtain ⟨j, hj, rfl⟩ := List.getElem_of_mem hx
  simp [h j hj]
theorem hasN_yes {xs : List Int} {v : Int} {j : Nat} (hj : j < xs.length) (h : (xs[j] == v) = true) : hasN xs v = true := by
  unfold hasN
  rw [List.any_eq_true]
  exact ⟨xs[j], List.getElem_mem hj, h⟩
set_option maxRecDepth 100000 in
set_option maxHeartbeats 2000000 in
theorem lwHas (B : Nat) (xs : List Int) (v : Value) (x : Int) (w : World) (hl : xs.length ≤ 1048576) (ha : Nu.At w B v xs) :
    Calls Try.prog 11 #[v, .int .i64 x] w fun e w' => e = .returned (.bool (hasN xs x)) ∧ w' = w := by
  obtain ⟨a, cap, rfl⟩ := ha.slice
  have HA := hid ha
  clear ha
  go_enter Try.func11, Try.ntmps11
  go_wp2
  go_loop [5] (fun i => ∃ k : Nat, i = .int .i64 k ∧ k ≤ xs.length ∧ Hid (∀ j (hj : j < xs.length), j < k → (xs[j] == x) = false)) (fun i => xs.length - (intOf i).toNat)
  case atStart => exact ⟨0, rfl, Nat.zero_le _, hid (fun j _ h => by omega)⟩
  case round =>
    obtain ⟨k, rfl, hk, HN⟩ := hrel
    by_cases hlt : k < xs.length
    · have q1 : (k : Int) < (xs.length : Int) := by omega
      obtain ⟨g, o, rfl, hg, c0⟩ := HA.out.at hlt
      cases he : (xs[k] == x)
      · have HN2 : Hid (∀ j (hj : j < xs.length), j < k + 1 → (xs[j] == x) = false) := hid (fun j hj h => by
          by_cases e : j = k
          · subst e; exact he
          · exact HN.out j hj (by omega))
        go_wp2
        exact ⟨⟨k + 1, by simp, by omega, HN2⟩, by simp [intOf]; omega⟩
      · have HV := hid (hasN_yes hlt he)
        go_wp2
        go_ret
        exact ⟨by rw [HV.out]; rfl, rfl⟩
    · have HV := hid (hasN_no (fun j hj => HN.out j hj (by omega)))
      have q1 : ¬ (k : Int) < (xs.length : Int) := by omega
      go_wp2
      go_ret
      exact ⟨by rw [HV.out]; rfl, rfl⟩
end DrE
end Go.Proofs.Ytpegbiggmjepgaa
