/- Whether an act has a fault, by the program and by the specification. -/
import Derived.Test.YtkbnamkblplofaaAcA
import Derived.Test.YtkbnamkblplofaaExA
import Derived.Test.YtkbnamkblplofaaImV
namespace Go.Proofs.Ytkbnamkblplofaa
open Go.RowKit Go.Deep
set_option linter.unusedVariables false
namespace Ac
open Ex (inR vFault hid)
def actC (r : ActD) : Int :=
  if r.kind < 1 ∨ 3 < r.kind ∨ (r.kind ≠ 1 ∧ 0 < r.vars.length) then 1 else if r.pos < 0 ∨ 9999 < r.pos then 3 else if r.kind = 1 then vFault r.vars else 0
theorem c_form {r : ActD} (h : r.kind < 1 ∨ 3 < r.kind ∨ (r.kind ≠ 1 ∧ 0 < r.vars.length)) : actC r = 1 := by unfold actC; rw [if_pos h]
theorem c_pos {r : ActD} (h : ¬ (r.kind < 1 ∨ 3 < r.kind ∨ (r.kind ≠ 1 ∧ 0 < r.vars.length))) (h2 : r.pos < 0 ∨ 9999 < r.pos) : actC r = 3 := by unfold actC; rw [if_neg h, if_pos h2]
theorem c_vars {r : ActD} (h : ¬ (r.kind < 1 ∨ 3 < r.kind ∨ (r.kind ≠ 1 ∧ 0 < r.vars.length))) (h2 : ¬ (r.pos < 0 ∨ 9999 < r.pos)) (h3 : r.kind = 1) : actC r = vFault r.vars := by unfold actC; rw [if_neg h, if_neg h2, if_pos h3]
theorem c_ok {r : ActD} (h : ¬ (r.kind < 1 ∨ 3 < r.kind ∨ (r.kind ≠ 1 ∧ 0 < r.vars.length))) (h2 : ¬ (r.pos < 0 ∨ 9999 < r.pos)) (h3 : r.kind ≠ 1) : actC r = 0 := by unfold actC; rw [if_neg h, if_neg h2, if_neg h3]
set_option maxRecDepth 100000 in
set_option maxHeartbeats 4000000 in
theorem implAct (B : Nat) (r : ActD) (v1 : Value) (w : World) (hl : (r.vars.length : Int) ≤ 1048576) (ha : Nu.At w B v1 r.vars) :
    Calls Try.prog 7 #[.agg #[.int .i64 r.kind, .int .i64 r.pos, v1]] w fun e w' => e = .returned (.int .i64 (actC r)) ∧ Below w.heap.size w w' := by
  obtain ⟨kd, ps, xs⟩ := r
  dsimp only at hl ha ⊢
  obtain ⟨a1, k1, rfl⟩ := ha.slice
  obtain ⟨w0, e0⟩ : ∃ w0, w0 = w.alloc (.cells #[.int .i64 kd, .int .i64 ps, .slice a1 xs.length k1] 27) := ⟨_, rfl⟩
  have HB0 : Hid (Below w.heap.size w w0) := hid (by rw [e0]; exact (Below.refl _ w).alloc (Nat.le_refl _) _)
  have hk0 : w0.heap[w.heap.size]? = some (.cells #[.int .i64 kd, .int .i64 ps, .slice a1 xs.length k1] 27) := by rw [e0]; exact Ch.new_blk _ _
  have d0 : w0.cell? ⟨w.heap.size, 0, none⟩ = some (.int .i64 kd) := Ch.blk_cell hk0 0
  have d1 : w0.cell? ⟨w.heap.size, 1, none⟩ = some (.int .i64 ps) := Ch.blk_cell hk0 1
  have d2 : w0.cell? ⟨w.heap.size, 2, none⟩ = some (.slice a1 xs.length k1) := Ch.blk_cell hk0 2
  have d3 := Ch.blk_lt hk0
  have HV := hid (Ex.implVarsB B xs _ w0 (by omega) (ha.below HB0.out))
  clear ha hk0
  by_cases h1 : kd < 1
  · have n0 : Hid True := hid trivial
    have HX := hid (c_form (r := ⟨kd, ps, xs⟩) (.inl h1))
    generalize actC ⟨kd, ps, xs⟩ = tgt at *
    go_enter Try.func7, Try.ntmps7
    go_wp2_with fail
    rw [← e0]
    clear e0
    go_wp2
    go_ret
    exact ⟨by rw [HX.out]; rfl, HB0.out⟩
  by_cases h2 : 3 < kd
  · have n0 : Hid True := hid trivial
    have HX := hid (c_form (r := ⟨kd, ps, xs⟩) (.inr (.inl h2)))
    generalize actC ⟨kd, ps, xs⟩ = tgt at *
    go_enter Try.func7, Try.ntmps7
    go_wp2_with fail
    rw [← e0]
    clear e0
    go_wp2
    go_ret
    exact ⟨by rw [HX.out]; rfl, HB0.out⟩
  by_cases h3 : kd = 1
  · by_cases h4 : ps < 0
    · have n0 : Hid True := hid trivial
      have HX := hid (c_pos (r := ⟨kd, ps, xs⟩) (show ¬ (kd < 1 ∨ 3 < kd ∨ (kd ≠ 1 ∧ 0 < xs.length)) by omega) (.inl h4))
      have b1 : (kd != 1) = false := by simp [h3]
      have b2 : (kd == 1) = true := by simp [h3]
      clear h3
      generalize actC ⟨kd, ps, xs⟩ = tgt at *
      go_enter Try.func7, Try.ntmps7
      go_wp2_with fail
      rw [← e0]
      clear e0
      go_wp2
      go_ret
      exact ⟨by rw [HX.out]; rfl, HB0.out⟩
    by_cases h5 : 9999 < ps
    · have n0 : Hid True := hid trivial
      have HX := hid (c_pos (r := ⟨kd, ps, xs⟩) (show ¬ (kd < 1 ∨ 3 < kd ∨ (kd ≠ 1 ∧ 0 < xs.length)) by omega) (.inr h5))
      have b1 : (kd != 1) = false := by simp [h3]
      have b2 : (kd == 1) = true := by simp [h3]
      clear h3
      generalize actC ⟨kd, ps, xs⟩ = tgt at *
      go_enter Try.func7, Try.ntmps7
      go_wp2_with fail
      rw [← e0]
      clear e0
      go_wp2
      go_ret
      exact ⟨by rw [HX.out]; rfl, HB0.out⟩
    have HX := hid (c_vars (r := ⟨kd, ps, xs⟩) (show ¬ (kd < 1 ∨ 3 < kd ∨ (kd ≠ 1 ∧ 0 < xs.length)) by omega) (show ¬ (ps < 0 ∨ 9999 < ps) by omega) h3)
    have b1 : (kd != 1) = false := by simp [h3]
    have b2 : (kd == 1) = true := by simp [h3]
    clear h3
    generalize actC ⟨kd, ps, xs⟩ = tgt at *
    generalize vFault xs = vf at *
    go_enter Try.func7, Try.ntmps7
    go_wp2_with fail
    rw [← e0]
    clear e0
    go_wp2_with (first | (go_at_call 13; refine HV.out.mono ?_; rintro e w2 ⟨rfl, hb2⟩))
    go_ret
    exact ⟨by rw [HX.out]; rfl, HB0.out.trans (hb2.mono HB0.out.size)⟩
  by_cases h6 : (0 : Int) < (xs.length : Int)
  · have n0 : Hid True := hid trivial
    have HX := hid (c_form (r := ⟨kd, ps, xs⟩) (.inr (.inr ⟨h3, by dsimp only; omega⟩)))
    have b1 : (kd != 1) = true := bne_iff_ne.2 h3
    have b2 : (kd == 1) = false := beq_eq_false_iff_ne.2 h3
    generalize actC ⟨kd, ps, xs⟩ = tgt at *
    go_enter Try.func7, Try.ntmps7
    go_wp2_with fail
    rw [← e0]
    clear e0
    go_wp2
    go_ret
    exact ⟨by rw [HX.out]; rfl, HB0.out⟩
  by_cases h4 : ps < 0
  · have n0 : Hid True := hid trivial
    have HX := hid (c_pos (r := ⟨kd, ps, xs⟩) (show ¬ (kd < 1 ∨ 3 < kd ∨ (kd ≠ 1 ∧ 0 < xs.length)) by omega) (.inl h4))
    have b1 : (kd != 1) = true := bne_iff_ne.2 h3
    have b2 : (kd == 1) = false := beq_eq_false_iff_ne.2 h3
    generalize actC ⟨kd, ps, xs⟩ = tgt at *
    go_enter Try.func7, Try.ntmps7
    go_wp2_with fail
    rw [← e0]
    clear e0
    go_wp2
    go_ret
    exact ⟨by rw [HX.out]; rfl, HB0.out⟩
  by_cases h5 : 9999 < ps
  · have n0 : Hid True := hid trivial
    have HX := hid (c_pos (r := ⟨kd, ps, xs⟩) (show ¬ (kd < 1 ∨ 3 < kd ∨ (kd ≠ 1 ∧ 0 < xs.length)) by omega) (.inr h5))
    have b1 : (kd != 1) = true := bne_iff_ne.2 h3
    have b2 : (kd == 1) = false := beq_eq_false_iff_ne.2 h3
    generalize actC ⟨kd, ps, xs⟩ = tgt at *
    go_enter Try.func7, Try.ntmps7
    go_wp2_with fail
    rw [← e0]
    clear e0
    go_wp2
    go_ret
    exact ⟨by rw [HX.out]; rfl, HB0.out⟩
  have HX := hid (c_ok (r := ⟨kd, ps, xs⟩) (show ¬ (kd < 1 ∨ 3 < kd ∨ (kd ≠ 1 ∧ 0 < xs.length)) by omega) (show ¬ (ps < 0 ∨ 9999 < ps) by omega) h3)
  have b1 : (kd != 1) = true := bne_iff_ne.2 h3
  have b2 : (kd == 1) = false := beq_eq_false_iff_ne.2 h3
  generalize actC ⟨kd, ps, xs⟩ = tgt at *
  go_enter Try.func7, Try.ntmps7
  go_wp2_with fail
  rw [← e0]
  clear e0
  go_wp2
  go_ret
  exact ⟨by rw [HX.out]; rfl, HB0.out⟩
set_option maxRecDepth 100000 in
set_option maxHeartbeats 4000000 in
theorem specAct (B : Nat) (r : ActD) (v1 : Value) (w : World) (hl : (r.vars.length : Int) ≤ 1048576) (ha : Nu.At w B v1 r.vars) :
    Calls Try.prog 5 #[.agg #[.int .i64 r.kind, .int .i64 r.pos, v1]] w fun e w' => e = .returned (.int .i64 (actC r)) ∧ Below w.heap.size w w' := by
  obtain ⟨kd, ps, xs⟩ := r
  dsimp only at hl ha ⊢
  obtain ⟨a1, k1, rfl⟩ := ha.slice
  obtain ⟨w0, e0⟩ : ∃ w0, w0 = w.alloc (.cells #[.int .i64 kd, .int .i64 ps, .slice a1 xs.length k1] 27) := ⟨_, rfl⟩
  have HB0 : Hid (Below w.heap.size w w0) := hid (by rw [e0]; exact (Below.refl _ w).alloc (Nat.le_refl _) _)
  have hk0 : w0.heap[w.heap.size]? = some (.cells #[.int .i64 kd, .int .i64 ps, .slice a1 xs.length k1] 27) := by rw [e0]; exact Ch.new_blk _ _
  have d0 : w0.cell? ⟨w.heap.size, 0, none⟩ = some (.int .i64 kd) := Ch.blk_cell hk0 0
  have d1 : w0.cell? ⟨w.heap.size, 1, none⟩ = some (.int .i64 ps) := Ch.blk_cell hk0 1
  have d2 : w0.cell? ⟨w.heap.size, 2, none⟩ = some (.slice a1 xs.length k1) := Ch.blk_cell hk0 2
  have d3 := Ch.blk_lt hk0
  have HV := hid (Ex.specVarsB B xs _ w0 (by omega) (ha.below HB0.out))
  clear ha hk0
  by_cases h1 : kd < 1
  · have n0 : Hid True := hid trivial
    have HX := hid (c_form (r := ⟨kd, ps, xs⟩) (.inl h1))
    have f1 : inR kd 1 3 = false := Ex.inR_not.2 (by omega)
    generalize actC ⟨kd, ps, xs⟩ = tgt at *
    go_enter Try.func5, Try.ntmps5
    go_wp2_with fail
    rw [← e0]
    clear e0
    go_wp2_with (first | (go_at_call 10; refine (Ex.specIn _ _ _ _).mono ?_; rintro e w2 ⟨rfl, hw2⟩; replace hw2 := hw2.symm; subst hw2; (try rw [f1]); (try rw [f2])))
    go_ret
    exact ⟨by rw [HX.out]; rfl, HB0.out⟩
  by_cases h2 : 3 < kd
  · have n0 : Hid True := hid trivial
    have HX := hid (c_form (r := ⟨kd, ps, xs⟩) (.inr (.inl h2)))
    have f1 : inR kd 1 3 = false := Ex.inR_not.2 (by omega)
    generalize actC ⟨kd, ps, xs⟩ = tgt at *
    go_enter Try.func5, Try.ntmps5
    go_wp2_with fail
    rw [← e0]
    clear e0
    go_wp2_with (first | (go_at_call 10; refine (Ex.specIn _ _ _ _).mono ?_; rintro e w2 ⟨rfl, hw2⟩; replace hw2 := hw2.symm; subst hw2; (try rw [f1]); (try rw [f2])))
    go_ret
    exact ⟨by rw [HX.out]; rfl, HB0.out⟩
  by_cases h3 : kd = 1
  · by_cases h4 : ps < 0
    · have n0 : Hid True := hid trivial
      have HX := hid (c_pos (r := ⟨kd, ps, xs⟩) (show ¬ (kd < 1 ∨ 3 < kd ∨ (kd ≠ 1 ∧ 0 < xs.length)) by omega) (.inl h4))
      have f1 : inR kd 1 3 = true := Ex.inR_iff.2 (by omega)
      have f2 : inR ps 0 9999 = false := Ex.inR_not.2 (by omega)
      have b1 : (kd != 1) = false := by simp [h3]
      have b2 : (kd == 1) = true := by simp [h3]
      clear h3
      generalize actC ⟨kd, ps, xs⟩ = tgt at *
      go_enter Try.func5, Try.ntmps5
      go_wp2_with fail
      rw [← e0]
      clear e0
      go_wp2_with (first | (go_at_call 10; refine (Ex.specIn _ _ _ _).mono ?_; rintro e w2 ⟨rfl, hw2⟩; replace hw2 := hw2.symm; subst hw2; (try rw [f1]); (try rw [f2])))
      go_ret
      exact ⟨by rw [HX.out]; rfl, HB0.out⟩
    by_cases h5 : 9999 < ps
    · have n0 : Hid True := hid trivial
      have HX := hid (c_pos (r := ⟨kd, ps, xs⟩) (show ¬ (kd < 1 ∨ 3 < kd ∨ (kd ≠ 1 ∧ 0 < xs.length)) by omega) (.inr h5))
      have f1 : inR kd 1 3 = true := Ex.inR_iff.2 (by omega)
      have f2 : inR ps 0 9999 = false := Ex.inR_not.2 (by omega)
      have b1 : (kd != 1) = false := by simp [h3]
      have b2 : (kd == 1) = true := by simp [h3]
      clear h3
      generalize actC ⟨kd, ps, xs⟩ = tgt at *
      go_enter Try.func5, Try.ntmps5
      go_wp2_with fail
      rw [← e0]
      clear e0
      go_wp2_with (first | (go_at_call 10; refine (Ex.specIn _ _ _ _).mono ?_; rintro e w2 ⟨rfl, hw2⟩; replace hw2 := hw2.symm; subst hw2; (try rw [f1]); (try rw [f2])))
      go_ret
      exact ⟨by rw [HX.out]; rfl, HB0.out⟩
    have HX := hid (c_vars (r := ⟨kd, ps, xs⟩) (show ¬ (kd < 1 ∨ 3 < kd ∨ (kd ≠ 1 ∧ 0 < xs.length)) by omega) (show ¬ (ps < 0 ∨ 9999 < ps) by omega) h3)
    have f1 : inR kd 1 3 = true := Ex.inR_iff.2 (by omega)
    have f2 : inR ps 0 9999 = true := Ex.inR_iff.2 (by omega)
    have b1 : (kd != 1) = false := by simp [h3]
    have b2 : (kd == 1) = true := by simp [h3]
    clear h3
    generalize actC ⟨kd, ps, xs⟩ = tgt at *
    generalize vFault xs = vf at *
    go_enter Try.func5, Try.ntmps5
    go_wp2_with fail
    rw [← e0]
    clear e0
    go_wp2_with (first | (go_at_call 10; refine (Ex.specIn _ _ _ _).mono ?_; rintro e w2 ⟨rfl, hw2⟩; replace hw2 := hw2.symm; subst hw2; (try rw [f1]); (try rw [f2])) | (go_at_call 11; refine HV.out.mono ?_; rintro e w2 ⟨rfl, hb2⟩))
    go_ret
    exact ⟨by rw [HX.out]; rfl, HB0.out.trans (hb2.mono HB0.out.size)⟩
  by_cases h6 : (0 : Int) < (xs.length : Int)
  · have n0 : Hid True := hid trivial
    have HX := hid (c_form (r := ⟨kd, ps, xs⟩) (.inr (.inr ⟨h3, by dsimp only; omega⟩)))
    have f1 : inR kd 1 3 = true := Ex.inR_iff.2 (by omega)
    have b1 : (kd != 1) = true := bne_iff_ne.2 h3
    have b2 : (kd == 1) = false := beq_eq_false_iff_ne.2 h3
    generalize actC ⟨kd, ps, xs⟩ = tgt at *
    go_enter Try.func5, Try.ntmps5
    go_wp2_with fail
    rw [← e0]
    clear e0
    go_wp2_with (first | (go_at_call 10; refine (Ex.specIn _ _ _ _).mono ?_; rintro e w2 ⟨rfl, hw2⟩; replace hw2 := hw2.symm; subst hw2; (try rw [f1]); (try rw [f2])))
    go_ret
    exact ⟨by rw [HX.out]; rfl, HB0.out⟩
  by_cases h4 : ps < 0
  · have n0 : Hid True := hid trivial
    have HX := hid (c_pos (r := ⟨kd, ps, xs⟩) (show ¬ (kd < 1 ∨ 3 < kd ∨ (kd ≠ 1 ∧ 0 < xs.length)) by omega) (.inl h4))
    have f1 : inR kd 1 3 = true := Ex.inR_iff.2 (by omega)
    have f2 : inR ps 0 9999 = false := Ex.inR_not.2 (by omega)
    have b1 : (kd != 1) = true := bne_iff_ne.2 h3
    have b2 : (kd == 1) = false := beq_eq_false_iff_ne.2 h3
    generalize actC ⟨kd, ps, xs⟩ = tgt at *
    go_enter Try.func5, Try.ntmps5
    go_wp2_with fail
    rw [← e0]
    clear e0
    go_wp2_with (first | (go_at_call 10; refine (Ex.specIn _ _ _ _).mono ?_; rintro e w2 ⟨rfl, hw2⟩; replace hw2 := hw2.symm; subst hw2; (try rw [f1]); (try rw [f2])))
    go_ret
    exact ⟨by rw [HX.out]; rfl, HB0.out⟩
  by_cases h5 : 9999 < ps
  · have n0 : Hid True := hid trivial
    have HX := hid (c_pos (r := ⟨kd, ps, xs⟩) (show ¬ (kd < 1 ∨ 3 < kd ∨ (kd ≠ 1 ∧ 0 < xs.length)) by omega) (.inr h5))
    have f1 : inR kd 1 3 = true := Ex.inR_iff.2 (by omega)
    have f2 : inR ps 0 9999 = false := Ex.inR_not.2 (by omega)
    have b1 : (kd != 1) = true := bne_iff_ne.2 h3
    have b2 : (kd == 1) = false := beq_eq_false_iff_ne.2 h3
    generalize actC ⟨kd, ps, xs⟩ = tgt at *
    go_enter Try.func5, Try.ntmps5
    go_wp2_with fail
    rw [← e0]
    clear e0
    go_wp2_with (first | (go_at_call 10; refine (Ex.specIn _ _ _ _).mono ?_; rintro e w2 ⟨rfl, hw2⟩; replace hw2 := hw2.symm; subst hw2; (try rw [f1]); (try rw [f2])))
    go_ret
    exact ⟨by rw [HX.out]; rfl, HB0.out⟩
  have HX := hid (c_ok (r := ⟨kd, ps, xs⟩) (show ¬ (kd < 1 ∨ 3 < kd ∨ (kd ≠ 1 ∧ 0 < xs.length)) by omega) (show ¬ (ps < 0 ∨ 9999 < ps) by omega) h3)
  have f1 : inR kd 1 3 = true := Ex.inR_iff.2 (by omega)
  have f2 : inR ps 0 9999 = true := Ex.inR_iff.2 (by omega)
  have b1 : (kd != 1) = true := bne_iff_ne.2 h3
  have b2 : (kd == 1) = false := beq_eq_false_iff_ne.2 h3
  generalize actC ⟨kd, ps, xs⟩ = tgt at *
  go_enter Try.func5, Try.ntmps5
  go_wp2_with fail
  rw [← e0]
  clear e0
  go_wp2_with (first | (go_at_call 10; refine (Ex.specIn _ _ _ _).mono ?_; rintro e w2 ⟨rfl, hw2⟩; replace hw2 := hw2.symm; subst hw2; (try rw [f1]); (try rw [f2])))
  go_ret
  exact ⟨by rw [HX.out]; rfl, HB0.out⟩
end Ac
end Go.Proofs.Ytkbnamkblplofaa
