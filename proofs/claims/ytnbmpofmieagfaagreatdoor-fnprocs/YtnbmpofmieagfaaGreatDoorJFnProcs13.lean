/- The specification's look at one node. -/
import Derived.Test.YtnbmpofmieagfaaGreatDoorJFnProcs3
namespace Go.Proofs.YtnbmpofmieagfaaGreatDoor
open Go.RowKit
set_option linter.unusedVariables false
namespace Ex
open Nd (NodeD)
set_option maxRecDepth 100000 in
set_option maxHeartbeats 4000000 in
theorem specNode (n : NodeD) (i : Int) (g off : Nat) (w : World) (hi : 0 ≤ i) (hi2 : i ≤ 1000000) (c0 : w.cell? ⟨g, off, none⟩ = some (.int .i64 n.kind)) (c1 : w.cell? ⟨g, off + 1, none⟩ = some (.int .i64 n.value)) (c2 : w.cell? ⟨g, off + 2, none⟩ = some (.int .i64 n.left)) (c3 : w.cell? ⟨g, off + 3, none⟩ = some (.int .i64 n.right)) :
    Calls Tryz.prog 95 #[.pointer (some ⟨g, off, none⟩), .int .i64 i] w fun e w' => e = .returned (.int .i64 (nCode n i)) ∧ w' = w := by
  generalize hk : n.kind = kind at *
  generalize hv : n.value = value at *
  generalize hl : n.left = left at *
  generalize hr : n.right = right at *
  cases h0 : inR kind 1 10
  · skip
    have HV := hid (n_kind (n := n) (i := i) (by rw [hk]; exact h0))
    clear hk hv hl hr 
    go_enter Tryz.func95, Tryz.ntmps95
    go_wp2_with (first | (go_at_call 23; refine (specIn _ _ _ _).mono ?_; rintro e w1 ⟨rfl, rfl⟩; try rw [h0]) | (go_at_call 109; refine (specTwo _ _).mono ?_; rintro e w1 ⟨rfl, rfl⟩; try rw [tt]))
    go_ret
    exact ⟨by rw [HV.out]; rfl, rfl⟩
  · skip
    have hb := inR_iff.1 h0
    have N1 : (kind == 10) = true ∨ (kind == 10) = false := by cases (kind == 10) <;> simp
    by_cases hle : kind ≤ 2
    · have t10 : (kind == 10) = false := beq_eq_false_iff_ne.2 (by omega)
      have tt : two kind = false := inR_not.2 (by omega)
      cases b1 : (left != 0)
      · cases b2 : (right != 0)
        · by_cases k1 : kind = 1
          · have t1 : (kind == 1) = true := beq_iff_eq.2 k1
            have t2 : (kind == 2) = false := beq_eq_false_iff_ne.2 (by omega)
            cases b3 : inR value 0 9999
            · skip
              have HV := hid (n_wide (n := n) (i := i) (by rw [hk]; exact h0) (by simp [has, hk, hv, hl, hr, hle, t10, b1, b2]) (by simp [wide, hk, hv, t1, b3]))
              clear hk hv hl hr k1 hb N1
              go_enter Tryz.func95, Tryz.ntmps95
              go_wp2_with (first | (go_at_call 23; refine (specIn _ _ _ _).mono ?_; rintro e w1 ⟨rfl, rfl⟩; try rw [b3]; try rw [h0]) | (go_at_call 109; refine (specTwo _ _).mono ?_; rintro e w1 ⟨rfl, rfl⟩; try rw [tt]))
              go_ret
              exact ⟨by rw [HV.out]; rfl, rfl⟩
            · skip
              have HV := hid (n_ok (n := n) (i := i) (by rw [hk]; exact h0) (by simp [has, hk, hv, hl, hr, hle, t10, b1, b2]) (by simp [wide, hk, hv, t1, t2, b3]) (by simp [far, hk, hle, tt]))
              clear hk hv hl hr k1 hb N1
              go_enter Tryz.func95, Tryz.ntmps95
              go_wp2_with (first | (go_at_call 23; refine (specIn _ _ _ _).mono ?_; rintro e w1 ⟨rfl, rfl⟩; try rw [b3]; try rw [h0]) | (go_at_call 109; refine (specTwo _ _).mono ?_; rintro e w1 ⟨rfl, rfl⟩; try rw [tt]))
              go_ret
              exact ⟨by rw [HV.out]; rfl, rfl⟩
          · have t1 : (kind == 1) = false := beq_eq_false_iff_ne.2 k1
            have t2 : (kind == 2) = true := beq_iff_eq.2 (by omega)
            cases b3 : inR value 0 3
            · skip
              have HV := hid (n_wide (n := n) (i := i) (by rw [hk]; exact h0) (by simp [has, hk, hv, hl, hr, hle, t10, b1, b2]) (by simp [wide, hk, hv, t1, t2, b3]))
              clear hk hv hl hr k1 hb N1
              go_enter Tryz.func95, Tryz.ntmps95
              go_wp2_with (first | (go_at_call 23; refine (specIn _ _ _ _).mono ?_; rintro e w1 ⟨rfl, rfl⟩; try rw [b3]; try rw [h0]) | (go_at_call 109; refine (specTwo _ _).mono ?_; rintro e w1 ⟨rfl, rfl⟩; try rw [tt]))
              go_ret
              exact ⟨by rw [HV.out]; rfl, rfl⟩
            · skip
              have HV := hid (n_ok (n := n) (i := i) (by rw [hk]; exact h0) (by simp [has, hk, hv, hl, hr, hle, t10, b1, b2]) (by simp [wide, hk, hv, t1, t2, b3]) (by simp [far, hk, hle, tt]))
              clear hk hv hl hr k1 hb N1
              go_enter Tryz.func95, Tryz.ntmps95
              go_wp2_with (first | (go_at_call 23; refine (specIn _ _ _ _).mono ?_; rintro e w1 ⟨rfl, rfl⟩; try rw [b3]; try rw [h0]) | (go_at_call 109; refine (specTwo _ _).mono ?_; rintro e w1 ⟨rfl, rfl⟩; try rw [tt]))
              go_ret
              exact ⟨by rw [HV.out]; rfl, rfl⟩
        · skip
          have HV := hid (n_has (n := n) (i := i) (by rw [hk]; exact h0) (by simp [has, hk, hv, hl, hr, hle, b1, b2]))
          clear hk hv hl hr hb N1
          go_enter Tryz.func95, Tryz.ntmps95
          go_wp2_with (first | (go_at_call 23; refine (specIn _ _ _ _).mono ?_; rintro e w1 ⟨rfl, rfl⟩; try rw [h0]) | (go_at_call 109; refine (specTwo _ _).mono ?_; rintro e w1 ⟨rfl, rfl⟩; try rw [tt]))
          go_ret
          exact ⟨by rw [HV.out]; rfl, rfl⟩
      · skip
        have HV := hid (n_has (n := n) (i := i) (by rw [hk]; exact h0) (by simp [has, hk, hv, hl, hr, hle, b1]))
        clear hk hv hl hr hb N1
        go_enter Tryz.func95, Tryz.ntmps95
        go_wp2_with (first | (go_at_call 23; refine (specIn _ _ _ _).mono ?_; rintro e w1 ⟨rfl, rfl⟩; try rw [h0]) | (go_at_call 109; refine (specTwo _ _).mono ?_; rintro e w1 ⟨rfl, rfl⟩; try rw [tt]))
        go_ret
        exact ⟨by rw [HV.out]; rfl, rfl⟩
    · have t1 : (kind == 1) = false := beq_eq_false_iff_ne.2 (by omega)
      have t2 : (kind == 2) = false := beq_eq_false_iff_ne.2 (by omega)
      cases b1 : (value != 0)
      · by_cases k10 : kind = 10
        · have t10 : (kind == 10) = true := beq_iff_eq.2 k10
          have tt : two kind = false := inR_not.2 (by omega)
          cases b2 : (right != 0)
          · cases b3 : inR left 0 (i - 1)
            · skip
              have HV := hid (n_far (n := n) (i := i) (by rw [hk]; exact h0) (by simp [has, hk, hv, hl, hr, hle, t10, b1, b2]) (by simp [wide, hk, hv, t1, t2]) (by simp [far, hk, hl, hle, b3]))
              clear hk hv hl hr k10 hb N1
              go_enter Tryz.func95, Tryz.ntmps95
              go_wp2_with (first | (go_at_call 23; refine (specIn _ _ _ _).mono ?_; rintro e w1 ⟨rfl, rfl⟩; try rw [b3]; try rw [h0]) | (go_at_call 109; refine (specTwo _ _).mono ?_; rintro e w1 ⟨rfl, rfl⟩; try rw [tt]))
              go_ret
              exact ⟨by rw [HV.out]; rfl, rfl⟩
            · skip
              have HV := hid (n_ok (n := n) (i := i) (by rw [hk]; exact h0) (by simp [has, hk, hv, hl, hr, hle, t10, b1, b2]) (by simp [wide, hk, hv, t1, t2]) (by simp [far, hk, hl, hle, b3, tt]))
              clear hk hv hl hr k10 hb N1
              go_enter Tryz.func95, Tryz.ntmps95
              go_wp2_with (first | (go_at_call 23; refine (specIn _ _ _ _).mono ?_; rintro e w1 ⟨rfl, rfl⟩; try rw [b3]; try rw [h0]) | (go_at_call 109; refine (specTwo _ _).mono ?_; rintro e w1 ⟨rfl, rfl⟩; try rw [tt]))
              go_ret
              exact ⟨by rw [HV.out]; rfl, rfl⟩
          · skip
            have HV := hid (n_has (n := n) (i := i) (by rw [hk]; exact h0) (by simp [has, hk, hv, hl, hr, hle, t10, b1, b2]))
            clear hk hv hl hr k10 hb N1
            go_enter Tryz.func95, Tryz.ntmps95
            go_wp2_with (first | (go_at_call 23; refine (specIn _ _ _ _).mono ?_; rintro e w1 ⟨rfl, rfl⟩; try rw [h0]) | (go_at_call 109; refine (specTwo _ _).mono ?_; rintro e w1 ⟨rfl, rfl⟩; try rw [tt]))
            go_ret
            exact ⟨by rw [HV.out]; rfl, rfl⟩
        · have t10 : (kind == 10) = false := beq_eq_false_iff_ne.2 k10
          have tt : two kind = true := inR_iff.2 (by omega)
          cases b3 : inR left 0 (i - 1)
          · skip
            have HV := hid (n_far (n := n) (i := i) (by rw [hk]; exact h0) (by simp [has, hk, hv, hl, hr, hle, t10, b1]) (by simp [wide, hk, hv, t1, t2]) (by simp [far, hk, hl, hle, b3]))
            clear hk hv hl hr k10 hb N1
            go_enter Tryz.func95, Tryz.ntmps95
            go_wp2_with (first | (go_at_call 23; refine (specIn _ _ _ _).mono ?_; rintro e w1 ⟨rfl, rfl⟩; try rw [b3]; try rw [h0]) | (go_at_call 109; refine (specTwo _ _).mono ?_; rintro e w1 ⟨rfl, rfl⟩; try rw [tt]))
            go_ret
            exact ⟨by rw [HV.out]; rfl, rfl⟩
          · skip
            cases b4 : inR right 0 (i - 1)
            · skip
              have HV := hid (n_far (n := n) (i := i) (by rw [hk]; exact h0) (by simp [has, hk, hv, hl, hr, hle, t10, b1]) (by simp [wide, hk, hv, t1, t2]) (by simp [far, hk, hl, hr, hle, b3, b4, tt]))
              clear hk hv hl hr k10 hb N1
              go_enter Tryz.func95, Tryz.ntmps95
              go_wp2_with (first | (go_at_call 23; refine (specIn _ _ _ _).mono ?_; rintro e w1 ⟨rfl, rfl⟩; try rw [b3]; try rw [b4]; try rw [h0]) | (go_at_call 109; refine (specTwo _ _).mono ?_; rintro e w1 ⟨rfl, rfl⟩; try rw [tt]))
              go_ret
              exact ⟨by rw [HV.out]; rfl, rfl⟩
            · skip
              have HV := hid (n_ok (n := n) (i := i) (by rw [hk]; exact h0) (by simp [has, hk, hv, hl, hr, hle, t10, b1]) (by simp [wide, hk, hv, t1, t2]) (by simp [far, hk, hl, hr, hle, b3, b4, tt]))
              clear hk hv hl hr k10 hb N1
              go_enter Tryz.func95, Tryz.ntmps95
              go_wp2_with (first | (go_at_call 23; refine (specIn _ _ _ _).mono ?_; rintro e w1 ⟨rfl, rfl⟩; try rw [b3]; try rw [b4]; try rw [h0]) | (go_at_call 109; refine (specTwo _ _).mono ?_; rintro e w1 ⟨rfl, rfl⟩; try rw [tt]))
              go_ret
              exact ⟨by rw [HV.out]; rfl, rfl⟩
      · skip
        have HV := hid (n_has (n := n) (i := i) (by rw [hk]; exact h0) (by simp [has, hk, hv, hl, hr, hle, b1]))
        clear hk hv hl hr hb N1
        go_enter Tryz.func95, Tryz.ntmps95
        go_wp2_with (first | (go_at_call 23; refine (specIn _ _ _ _).mono ?_; rintro e w1 ⟨rfl, rfl⟩; try rw [h0]) | (go_at_call 109; refine (specTwo _ _).mono ?_; rintro e w1 ⟨rfl, rfl⟩; try rw [tt]))
        go_ret
        exact ⟨by rw [HV.out]; rfl, rfl⟩
end Ex
end Go.Proofs.YtnbmpofmieagfaaGreatDoor
