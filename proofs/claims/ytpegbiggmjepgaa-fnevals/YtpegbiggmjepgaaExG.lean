/- The specification's EvalExpr: one node of two numbers. -/
import Derived.Test.YtpegbiggmjepgaaExF
namespace Go.Proofs.Ytpegbiggmjepgaa
open Go.RowKit
set_option linter.unusedVariables false
namespace Ex
open Nd (NodeD)
def bit (b : Bool) : Int := if b then 1 else 0
def oneVal (k a b : Int) : Int :=
  if k = 3 then a + b else if k = 4 then a - b else if k = 5 then a * b else if k = 6 then (if b = 0 then 0 else a.tdiv b) else if k = 7 then bit (decide (a < b)) else if k = 8 then bit (a == b) else if k = 9 then a * b else 1 - a
def oneOk (k a b : Int) : Bool := !((k == 6) && (b == 0)) && inR (oneVal k a b) (-1000000) 1000000
set_option maxRecDepth 100000 in
set_option maxHeartbeats 400000 in
theorem specBool (b : Bool) (w : World) : Calls Try.prog 46 #[.bool b] w fun e w' => e = .returned (.int .i64 (bit b)) ∧ w' = w := by
  cases b
  · go_enter Try.func46, Try.ntmps46
    go_wp2
    go_ret
    exact ⟨rfl, rfl⟩
  · go_enter Try.func46, Try.ntmps46
    go_wp2
    go_ret
    exact ⟨rfl, rfl⟩
theorem mul_le {a b : Int} (h1 : -1000000 ≤ a) (h2 : a ≤ 1000000) (h3 : -1000000 ≤ b) (h4 : b ≤ 1000000) : -1000000000000 ≤ a * b ∧ a * b ≤ 1000000000000 := by
  have h : (a * b).natAbs ≤ 1000000 * 1000000 := by
    rw [Int.natAbs_mul]
    exact Nat.mul_le_mul (by omega) (by omega)
  omega
theorem div_le {a b : Int} (h1 : -1000000 ≤ a) (h2 : a ≤ 1000000) : -1000000 ≤ a.tdiv b ∧ a.tdiv b ≤ 1000000 := by
  have h : (a.tdiv b).natAbs ≤ a.natAbs := by
    rw [Int.natAbs_tdiv]
    exact Nat.div_le_self _ _
  omega
set_option maxRecDepth 100000 in
set_option maxHeartbeats 4000000 in
theorem specOne (k a b : Int) (w : World) (hk : 3 ≤ k ∧ k ≤ 10) (h1 : -1000000 ≤ a) (h2 : a ≤ 1000000) (h3 : -1000000 ≤ b) (h4 : b ≤ 1000000) :
    Calls Try.prog 38 #[.int .i64 k, .int .i64 a, .int .i64 b] w fun e w' => e = .returned (.tuple #[.int .i64 (oneVal k a b), .bool (oneOk k a b)]) ∧ w' = w := by
  obtain ⟨hm1, hm2⟩ := mul_le h1 h2 h3 h4
  obtain ⟨hd1, hd2⟩ := div_le (b := b) h1 h2
  have hkk : k = 3 ∨ k = 4 ∨ k = 5 ∨ k = 6 ∨ k = 7 ∨ k = 8 ∨ k = 9 ∨ k = 10 := by omega
  clear hk
  rcases hkk with rfl | rfl | rfl | rfl | rfl | rfl | rfl | rfl
  · have HV : Hid (oneVal 3 a b = a + b) := hid rfl
    have HW : Hid (oneOk 3 a b = inR (a + b) (-1000000) 1000000) := hid rfl
    go_enter Try.func38, Try.ntmps38
    go_wp2_with (go_at_call 37; refine (specIn _ _ _ _).mono ?_; rintro e w1 ⟨rfl, rfl⟩)
    go_ret2
    exact ⟨by rw [HV.out, HW.out]; rfl, rfl⟩
  · have HV : Hid (oneVal 4 a b = a - b) := hid rfl
    have HW : Hid (oneOk 4 a b = inR (a - b) (-1000000) 1000000) := hid rfl
    go_enter Try.func38, Try.ntmps38
    go_wp2_with (go_at_call 37; refine (specIn _ _ _ _).mono ?_; rintro e w1 ⟨rfl, rfl⟩)
    go_ret2
    exact ⟨by rw [HV.out, HW.out]; rfl, rfl⟩
  · have HV : Hid (oneVal 5 a b = a * b) := hid rfl
    have HW : Hid (oneOk 5 a b = inR (a * b) (-1000000) 1000000) := hid rfl
    go_enter Try.func38, Try.ntmps38
    go_wp2_with (go_at_call 37; refine (specIn _ _ _ _).mono ?_; rintro e w1 ⟨rfl, rfl⟩)
    go_ret2
    exact ⟨by rw [HV.out, HW.out]; rfl, rfl⟩
  · by_cases hb : b = 0
    · have HV : Hid (oneVal 6 a b = 0) := hid (by simp [oneVal, hb])
      have HW : Hid (oneOk 6 a b = false) := hid (by simp [oneOk, hb])
      have e1 : (b == 0) = true := beq_iff_eq.2 hb
      clear hb
      go_enter Try.func38, Try.ntmps38
      go_wp2
      go_ret2
      exact ⟨by rw [HV.out, HW.out]; rfl, rfl⟩
    · have HV : Hid (oneVal 6 a b = a.tdiv b) := hid (by simp [oneVal, hb])
      have HW : Hid (oneOk 6 a b = inR (a.tdiv b) (-1000000) 1000000) := hid (by simp [oneOk, oneVal, hb])
      have e1 : (b == 0) = false := beq_eq_false_iff_ne.2 hb
      go_enter Try.func38, Try.ntmps38
      go_wp2_with (go_at_call 37; refine (specIn _ _ _ _).mono ?_; rintro e w1 ⟨rfl, rfl⟩)
      go_ret2
      exact ⟨by rw [HV.out, HW.out]; rfl, rfl⟩
  · have HV : Hid (oneVal 7 a b = bit (decide (a < b))) := hid rfl
    have HW : Hid (oneOk 7 a b = inR (bit (decide (a < b))) (-1000000) 1000000) := hid rfl
    go_enter Try.func38, Try.ntmps38
    go_wp2_with (first | (go_at_call 37; refine (specIn _ _ _ _).mono ?_; rintro e w1 ⟨rfl, rfl⟩) | (go_at_call 46; refine (specBool _ _).mono ?_; rintro e w1 ⟨rfl, rfl⟩))
    go_ret2
    exact ⟨by rw [HV.out, HW.out]; rfl, rfl⟩
  · have HV : Hid (oneVal 8 a b = bit (a == b)) := hid rfl
    have HW : Hid (oneOk 8 a b = inR (bit (a == b)) (-1000000) 1000000) := hid rfl
    go_enter Try.func38, Try.ntmps38
    go_wp2_with (first | (go_at_call 37; refine (specIn _ _ _ _).mono ?_; rintro e w1 ⟨rfl, rfl⟩) | (go_at_call 46; refine (specBool _ _).mono ?_; rintro e w1 ⟨rfl, rfl⟩))
    go_ret2
    exact ⟨by rw [HV.out, HW.out]; rfl, rfl⟩
  · have HV : Hid (oneVal 9 a b = a * b) := hid rfl
    have HW : Hid (oneOk 9 a b = inR (a * b) (-1000000) 1000000) := hid rfl
    go_enter Try.func38, Try.ntmps38
    go_wp2_with (go_at_call 37; refine (specIn _ _ _ _).mono ?_; rintro e w1 ⟨rfl, rfl⟩)
    go_ret2
    exact ⟨by rw [HV.out, HW.out]; rfl, rfl⟩
  · have HV : Hid (oneVal 10 a b = 1 - a) := hid rfl
    have HW : Hid (oneOk 10 a b = inR (1 - a) (-1000000) 1000000) := hid rfl
    go_enter Try.func38, Try.ntmps38
    go_wp2_with (go_at_call 37; refine (specIn _ _ _ _).mono ?_; rintro e w1 ⟨rfl, rfl⟩)
    go_ret2
    exact ⟨by rw [HV.out, HW.out]; rfl, rfl⟩
end Ex
end Go.Proofs.Ytpegbiggmjepgaa
