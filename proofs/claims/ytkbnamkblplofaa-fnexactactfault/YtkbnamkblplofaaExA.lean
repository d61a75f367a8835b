/- The specification's small functions of expressions. -/
import Derived.Test.YtkbnamkblplofaaExM
import Derived.Test.YtkbnamkblplofaaNu
namespace Go.Proofs.Ytkbnamkblplofaa
open Go.RowKit
set_option linter.unusedVariables false
namespace Ex
open Nd (NodeD)
set_option maxRecDepth 100000 in
set_option maxHeartbeats 400000 in
theorem specIn (v a b : Int) (w : World) : Calls Try.prog 10 #[.int .i64 v, .int .i64 a, .int .i64 b] w fun e w' => e = .returned (.bool (inR v a b)) ∧ w' = w := by
  unfold inR
  by_cases h1 : a ≤ v
  · by_cases h2 : v ≤ b
    · go_enter Try.func10, Try.ntmps10
      go_wp2
      go_ret
      exact ⟨by simp [h1, h2], rfl⟩
    · go_enter Try.func10, Try.ntmps10
      go_wp2
      go_ret
      exact ⟨by simp [h2], rfl⟩
  · go_enter Try.func10, Try.ntmps10
    go_wp2
    go_ret
    exact ⟨by simp; omega, rfl⟩
set_option maxRecDepth 100000 in
set_option maxHeartbeats 1000000 in
theorem specVars (B : Nat) (xs : List Int) (v : Value) (w : World) (hl : xs.length ≤ 1048576) (ha : Nu.At w B v xs) :
    Calls Try.prog 11 #[v] w fun e w' => e = .returned (.int .i64 (vFault xs)) ∧ w' = w := by
  obtain ⟨a, cap, rfl⟩ := ha.slice
  have HA := hid ha
  clear ha
  by_cases h4 : xs.length = 4
  · have b1 : ((xs.length : Int) != 4) = false := by simp [h4]
    have H4 := hid h4
    have hlt4 : xs.length ≤ 4 := by omega
    clear h4
    go_enter Try.func11, Try.ntmps11
    go_wp2
    go_loop [3] (fun i => ∃ k : Nat, k ≤ xs.length ∧ i = .int .i64 k ∧ Hid (∀ j (h : j < xs.length), j < k → inR xs[j] (-1000000) 1000000 = true)) (fun i => xs.length - (intOf i).toNat)
    case atStart => exact ⟨0, Nat.zero_le _, rfl, fun j _ h => by omega⟩
    case round =>
      obtain ⟨k, hk, rfl, HJ⟩ := hrel
      by_cases hlt : k < xs.length
      · obtain ⟨g, o, rfl, hg, c0⟩ := HA.out.at hlt
        have q1 : (k : Int) < (xs.length : Int) := by omega
        have HI := hid (fun w' => specIn xs[k] (-1000000) 1000000 w')
        cases hin : inR xs[k] (-1000000) 1000000
        · have HV := hid (v_bad H4.out hlt hin)
          rw [hin] at HI
          clear hin
          go_wp2_with (go_at_call 10; refine (HI.out _).mono ?_; rintro e w' ⟨rfl, rfl⟩)
          go_ret
          exact ⟨by rw [HV.out]; rfl, rfl⟩
        · rw [hin] at HI
          have HJ2 : Hid (∀ j (h : j < xs.length), j < k + 1 → inR xs[j] (-1000000) 1000000 = true) := hid (fun j h hj => by
            by_cases e : j = k
            · subst e; exact hin
            · exact HJ.out j h (by omega))
          clear hin
          go_wp2_with (go_at_call 10; refine (HI.out _).mono ?_; rintro e w' ⟨rfl, rfl⟩)
          exact ⟨⟨k + 1, by omega, by simp, HJ2⟩, by simp [intOf]; omega⟩
      · have HV := hid (v_ok H4.out (fun j h => HJ.out j h (by omega)))
        go_wp2
        go_ret
        exact ⟨by rw [HV.out]; rfl, rfl⟩
  · have b1 : ((xs.length : Int) != 4) = true := by simp; omega
    have HV := hid (v_len h4)
    clear h4
    go_enter Try.func11, Try.ntmps11
    go_wp2
    go_ret
    exact ⟨by rw [HV.out]; rfl, rfl⟩
theorem specVarsB (B : Nat) (xs : List Int) (v : Value) (w : World) (hl : xs.length ≤ 1048576) (ha : Nu.At w B v xs) :
    Calls Try.prog 11 #[v] w fun e w' => e = .returned (.int .i64 (vFault xs)) ∧ Below w.heap.size w w' :=
  (specVars B xs v w hl ha).mono (fun e w' ⟨h1, h2⟩ => ⟨h1, by rw [h2]; exact Below.refl _ _⟩)
end Ex
end Go.Proofs.Ytkbnamkblplofaa
