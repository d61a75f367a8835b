/- The sum of bytes, as the program keeps it: a complex number; LineFault, of the program and of the specification. No condition. -/
import Derived.Test.YtiliahibnhfhoaaJnA
namespace Go.Proofs.Ytiliahibnhfhoaa
open Go.RowKit
set_option linter.unusedVariables false
namespace Jn
theorem cv_f (n : Nat) (w : World) : Sem.run Try.prog (convert 2 89 (.int .i64 (n : Int))) w = .ok (.float .f64 (fl n)) w := run_convert_int_float (P := Try.prog) w 2 89 .i64 .f64 (n : Int) (by kernel_rfl) (by kernel_rfl)
theorem cv_i (n : Nat) (h : n < 256) (w : World) : Sem.run Try.prog (convert 89 2 (.float .f64 (fl n))) w = .ok (.int .i64 (n : Int)) w := run_convert_float_int (P := Try.prog) w 89 2 .f64 .i64 (fl n) (n : Int) (by kernel_rfl) (by kernel_rfl) (fl_back n h).1
theorem cv_b (n : Nat) (h : n < 256) (w : World) : Sem.run Try.prog (convert 89 5 (.float .f64 (fl n))) w = .ok (.int .u8 (n : Int)) w := run_convert_float_int (P := Try.prog) w 89 5 .f64 .u8 (fl n) (n : Int) (by kernel_rfl) (by kernel_rfl) (fl_back n h).2
theorem implOfV (n : Nat) (w : World) (h : n < 65536) : Calls Try.prog 79 #[.int .i64 (n : Int)] w fun e w' => e = .returned (cx n) ∧ w' = w := by
  have e1 : (n : Int).tdiv 256 = ((n / 256 : Nat) : Int) := by rw [Int.tdiv_eq_ediv_of_nonneg (by omega)]; omega
  have e2 : (n : Int).tmod 256 = ((n % 256 : Nat) : Int) := by rw [Int.tmod_eq_emod_of_nonneg (by omega)]; omega
  have c1 := cv_f (n / 256) w
  have c2 := cv_f (n % 256) w
  unfold cx
  have hq : n / 256 < 256 := by omega
  generalize n / 256 = q at *
  generalize n % 256 = r at *
  go_enter Try.func79, Try.ntmps79
  go_wp2
  go_ret
  exact ⟨rfl, rfl⟩
theorem implVal (n : Nat) (w : World) (h : n < 65536) : Calls Try.prog 84 #[cx n] w fun e w' => e = .returned (.int .i64 (n : Int)) ∧ w' = w := by
  have hq : n / 256 < 256 := by omega
  have hr : n % 256 < 256 := by omega
  have c1 := cv_i (n / 256) hq w
  have c2 := cv_i (n % 256) hr w
  have e1 : ((n / 256 : Nat) : Int) * 256 + ((n % 256 : Nat) : Int) = (n : Int) := by omega
  unfold cx
  generalize n / 256 = q at *
  generalize n % 256 = r at *
  have E1 := hid e1
  have e2 : (q : Int) ≤ 255 := by omega
  have e3 : (r : Int) ≤ 255 := by omega
  clear e1 h
  go_enter Try.func84, Try.ntmps84
  go_wp2
  go_ret
  exact ⟨by rw [← E1.out]; rfl, rfl⟩
theorem implHi (n : Nat) (w : World) (h : n < 65536) : Calls Try.prog 52 #[cx n] w fun e w' => e = .returned (.int .u8 ((n / 256 : Nat) : Int)) ∧ w' = w := by
  have c1 := cv_b (n / 256) (by omega) w
  unfold cx
  generalize n / 256 = q at *
  generalize n % 256 = r at *
  go_enter Try.func52, Try.ntmps52
  go_wp2
  go_ret
  exact ⟨rfl, rfl⟩
theorem implLo (n : Nat) (w : World) (h : n < 65536) : Calls Try.prog 53 #[cx n] w fun e w' => e = .returned (.int .u8 ((n % 256 : Nat) : Int)) ∧ w' = w := by
  have c1 := cv_b (n % 256) (by omega) w
  unfold cx
  generalize n / 256 = q at *
  generalize n % 256 = r at *
  go_enter Try.func53, Try.ntmps53
  go_wp2
  go_ret
  exact ⟨rfl, rfl⟩
theorem implWith (n : Nat) (b : UInt8) (w : World) (h : n < 65536) : Calls Try.prog 80 #[cx n, vb b] w fun e w' => e = .returned (cx (stepV n b)) ∧ w' = w := by
  have hb := b.toNat_lt
  have HV := hid (fun w' => implVal n w' h)
  have e1 : ((n : Int) * 251 + (b.toNat : Int)).tmod 65521 = ((stepV n b : Nat) : Int) := by
    unfold stepV
    rw [Int.tmod_eq_emod_of_nonneg (by omega)]
    omega
  have HS := hid (fun w' => implOfV (stepV n b) w' (by have := step_lt n b; omega))
  have hs := step_lt n b
  generalize stepV n b = s at *
  unfold vb
  generalize b.toNat = d at *
  generalize cx n = c1 at *
  generalize cx s = c2 at *
  go_enter Try.func80, Try.ntmps80
  go_wp2_with fail
  refine (HV.out _).mono ?_
  rintro e w1 ⟨rfl, hw⟩
  replace hw := hw.symm
  subst hw
  go_wp2_with fail
  refine (HS.out _).mono ?_
  rintro e w1 ⟨rfl, hw⟩
  replace hw := hw.symm
  subst hw
  go_wp2
  go_ret
  exact ⟨rfl, rfl⟩
set_option maxRecDepth 100000 in
set_option maxHeartbeats 1000000 in
theorem implSum (B : Nat) (l : List UInt8) (v : Value) (w : World) (hl : l.length ≤ 100) (ha : At w B v l) : Calls Try.prog 51 #[v] w fun e w' => e = .returned (cx (sumV l)) ∧ w' = w := by
  obtain ⟨a, cap, rfl, hcap⟩ := ha.slice
  have HA := hid ha
  clear ha
  have HS := hid (fun w' => implOfV 1 w' (by omega))
  have H0 : Hid (cx 1 = cx (sumV (l.take 0))) := hid rfl
  have HT : Hid (sumV (l.take l.length) = sumV l) := hid (by rw [List.take_length])
  change Hid (∀ w', Calls Try.prog 79 #[.int .i64 1] w' fun e w'' => e = .returned (cx 1) ∧ w'' = w') at HS
  generalize cx 1 = c1 at *
  obtain ⟨cl, hcl⟩ : ∃ cl, Hid (cl = cx (sumV l)) := ⟨_, hid rfl⟩
  rw [← hcl.out]
  go_enter Try.func51, Try.ntmps51
  go_wp2_with fail
  refine (HS.out _).mono ?_
  rintro e w1 ⟨rfl, hw⟩
  replace hw := hw.symm
  subst hw
  go_wp2
  go_loopw [3, 9] (fun s x wr => ∃ j : Nat, x = .int .i64 (j : Int) ∧ j ≤ l.length ∧ Hid (s = cx (sumV (l.take j))) ∧ Hid (wr = w)) (fun _ x _ => l.length - (intOf x).toNat)
  case atStart => exact ⟨0, rfl, Nat.zero_le _, H0, hid rfl⟩
  case round =>
    obtain ⟨j, rfl, hj, hs, HW⟩ := hrel
    have hw := HW.out.symm
    subst hw
    by_cases hlt : j < l.length
    · obtain ⟨g, o, rfl, hg, hc⟩ := HA.out.at hlt
      have q1 : (j : Int) < (l.length : Int) := by omega
      have HWI := hid (fun w' => implWith (sumV (l.take j)) l[j] w' (by have := sum_lt (l.take j); omega))
      have HST := hid (sum_take hlt)
      rw [← hs.out] at HWI
      rw [← HST.out] at HWI
      generalize vb l[j] = bj at *
      clear HST
      go_wp2_with fail
      refine (HWI.out _).mono ?_
      rintro e w1 ⟨rfl, hw⟩
      replace hw := hw.symm
      subst hw
      go_wp2
      exact ⟨⟨j + 1, by simp, by omega, hid rfl, hid trivial⟩, by simp [intOf]; omega⟩
    · obtain rfl : j = l.length := by omega
      have q1 : ¬ (l.length : Int) < (l.length : Int) := by omega
      go_wp2
      go_ret
      exact ⟨by rw [hcl.out, hs.out, HT.out]; rfl, rfl⟩
end Jn
end Go.Proofs.Ytiliahibnhfhoaa
