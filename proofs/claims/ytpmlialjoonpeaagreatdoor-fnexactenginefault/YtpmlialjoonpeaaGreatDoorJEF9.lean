/- The program's look at one node: hasFormOfKind, isWithinBounds. -/
import Derived.Test.YtpmlialjoonpeaaGreatDoorJEF4
namespace Go.Proofs.YtpmlialjoonpeaaGreatDoor
open Go.RowKit
set_option linter.unusedVariables false
namespace Ex
open Nd (NodeD)
def NodeD.val (n : NodeD) : Value := .agg #[.int .i64 n.kind, .int .i64 n.value, .int .i64 n.left, .int .i64 n.right]
def form (n : NodeD) : Bool := inR n.kind 1 10 && !has n
def inside (n : NodeD) (i : Int) : Bool := !wide n && !far n i
theorem n_code_eq (n : NodeD) (i : Int) : nCode n i = if form n = false then 1 else if inside n i = false then 3 else 0 := by
  unfold form inside
  cases h1 : inR n.kind 1 10
  · rw [n_kind h1]; rfl
  · cases h2 : has n
    · cases h3 : wide n
      · cases h4 : far n i
        · rw [n_ok h1 h2 h3 h4]; rfl
        · rw [n_far h1 h2 h3 h4]; rfl
      · rw [n_wide h1 h2 h3]; rfl
    · rw [n_has h1 h2]; rfl
set_option maxRecDepth 100000 in
set_option maxHeartbeats 4000000 in
theorem implForm (n : NodeD) (w : World) :
    Calls Tryz.prog 195 #[.agg #[.int .i64 n.kind, .int .i64 n.value, .int .i64 n.left, .int .i64 n.right]] w fun e w' => e = .returned (.bool (form n)) ∧ Below w.heap.size w w' := by
  obtain ⟨k, v, l, r⟩ := n
  have HB : Hid (Below w.heap.size w (w.alloc (.cells #[.int .i64 k, .int .i64 v, .int .i64 l, .int .i64 r] 169))) := hid ((Below.refl _ w).alloc (Nat.le_refl _) _)
  by_cases hk : inR k 1 10 = true
  · have hk2 := inR_iff.1 hk
    have hkk : k = 1 ∨ k = 2 ∨ k = 3 ∨ k = 4 ∨ k = 5 ∨ k = 6 ∨ k = 7 ∨ k = 8 ∨ k = 9 ∨ k = 10 := by omega
    clear hk hk2
    rcases hkk with rfl | rfl | rfl | rfl | rfl | rfl | rfl | rfl | rfl | rfl
    · cases b1 : (l == 0)
      · have HV : Hid (form ⟨1, v, l, r⟩ = false) := hid (by have := beq_eq_false_iff_ne.1 b1; simp [form, has, inR, this])
        go_enter Tryz.func195, Tryz.ntmps195
        go_wp2
        go_ret
        exact ⟨by rw [HV.out]; rfl, HB.out⟩
      · cases b2 : (r == 0)
        · have HV : Hid (form ⟨1, v, l, r⟩ = false) := hid (by have := beq_eq_false_iff_ne.1 b2; simp [form, has, inR, this])
          go_enter Tryz.func195, Tryz.ntmps195
          go_wp2
          go_ret
          exact ⟨by rw [HV.out]; rfl, HB.out⟩
        · have HV : Hid (form ⟨1, v, l, r⟩ = true) := hid (by have h1 := beq_iff_eq.1 b1; have h2 := beq_iff_eq.1 b2; subst h1 h2; rfl)
          go_enter Tryz.func195, Tryz.ntmps195
          go_wp2
          go_ret
          exact ⟨by rw [HV.out]; rfl, HB.out⟩
    · cases b1 : (l == 0)
      · have HV : Hid (form ⟨2, v, l, r⟩ = false) := hid (by have := beq_eq_false_iff_ne.1 b1; simp [form, has, inR, this])
        go_enter Tryz.func195, Tryz.ntmps195
        go_wp2
        go_ret
        exact ⟨by rw [HV.out]; rfl, HB.out⟩
      · cases b2 : (r == 0)
        · have HV : Hid (form ⟨2, v, l, r⟩ = false) := hid (by have := beq_eq_false_iff_ne.1 b2; simp [form, has, inR, this])
          go_enter Tryz.func195, Tryz.ntmps195
          go_wp2
          go_ret
          exact ⟨by rw [HV.out]; rfl, HB.out⟩
        · have HV : Hid (form ⟨2, v, l, r⟩ = true) := hid (by have h1 := beq_iff_eq.1 b1; have h2 := beq_iff_eq.1 b2; subst h1 h2; rfl)
          go_enter Tryz.func195, Tryz.ntmps195
          go_wp2
          go_ret
          exact ⟨by rw [HV.out]; rfl, HB.out⟩
    · cases b1 : (v == 0)
      · have HV : Hid (form ⟨3, v, l, r⟩ = false) := hid (by have := beq_eq_false_iff_ne.1 b1; simp [form, has, inR, this])
        go_enter Tryz.func195, Tryz.ntmps195
        go_wp2
        go_ret
        exact ⟨by rw [HV.out]; rfl, HB.out⟩
      · have HV : Hid (form ⟨3, v, l, r⟩ = true) := hid (by have h1 := beq_iff_eq.1 b1; subst h1; rfl)
        go_enter Tryz.func195, Tryz.ntmps195
        go_wp2
        go_ret
        exact ⟨by rw [HV.out]; rfl, HB.out⟩
    · cases b1 : (v == 0)
      · have HV : Hid (form ⟨4, v, l, r⟩ = false) := hid (by have := beq_eq_false_iff_ne.1 b1; simp [form, has, inR, this])
        go_enter Tryz.func195, Tryz.ntmps195
        go_wp2
        go_ret
        exact ⟨by rw [HV.out]; rfl, HB.out⟩
      · have HV : Hid (form ⟨4, v, l, r⟩ = true) := hid (by have h1 := beq_iff_eq.1 b1; subst h1; rfl)
        go_enter Tryz.func195, Tryz.ntmps195
        go_wp2
        go_ret
        exact ⟨by rw [HV.out]; rfl, HB.out⟩
    · cases b1 : (v == 0)
      · have HV : Hid (form ⟨5, v, l, r⟩ = false) := hid (by have := beq_eq_false_iff_ne.1 b1; simp [form, has, inR, this])
        go_enter Tryz.func195, Tryz.ntmps195
        go_wp2
        go_ret
        exact ⟨by rw [HV.out]; rfl, HB.out⟩
      · have HV : Hid (form ⟨5, v, l, r⟩ = true) := hid (by have h1 := beq_iff_eq.1 b1; subst h1; rfl)
        go_enter Tryz.func195, Tryz.ntmps195
        go_wp2
        go_ret
        exact ⟨by rw [HV.out]; rfl, HB.out⟩
    · cases b1 : (v == 0)
      · have HV : Hid (form ⟨6, v, l, r⟩ = false) := hid (by have := beq_eq_false_iff_ne.1 b1; simp [form, has, inR, this])
        go_enter Tryz.func195, Tryz.ntmps195
        go_wp2
        go_ret
        exact ⟨by rw [HV.out]; rfl, HB.out⟩
      · have HV : Hid (form ⟨6, v, l, r⟩ = true) := hid (by have h1 := beq_iff_eq.1 b1; subst h1; rfl)
        go_enter Tryz.func195, Tryz.ntmps195
        go_wp2
        go_ret
        exact ⟨by rw [HV.out]; rfl, HB.out⟩
    · cases b1 : (v == 0)
      · have HV : Hid (form ⟨7, v, l, r⟩ = false) := hid (by have := beq_eq_false_iff_ne.1 b1; simp [form, has, inR, this])
        go_enter Tryz.func195, Tryz.ntmps195
        go_wp2
        go_ret
        exact ⟨by rw [HV.out]; rfl, HB.out⟩
      · have HV : Hid (form ⟨7, v, l, r⟩ = true) := hid (by have h1 := beq_iff_eq.1 b1; subst h1; rfl)
        go_enter Tryz.func195, Tryz.ntmps195
        go_wp2
        go_ret
        exact ⟨by rw [HV.out]; rfl, HB.out⟩
    · cases b1 : (v == 0)
      · have HV : Hid (form ⟨8, v, l, r⟩ = false) := hid (by have := beq_eq_false_iff_ne.1 b1; simp [form, has, inR, this])
        go_enter Tryz.func195, Tryz.ntmps195
        go_wp2
        go_ret
        exact ⟨by rw [HV.out]; rfl, HB.out⟩
      · have HV : Hid (form ⟨8, v, l, r⟩ = true) := hid (by have h1 := beq_iff_eq.1 b1; subst h1; rfl)
        go_enter Tryz.func195, Tryz.ntmps195
        go_wp2
        go_ret
        exact ⟨by rw [HV.out]; rfl, HB.out⟩
    · cases b1 : (v == 0)
      · have HV : Hid (form ⟨9, v, l, r⟩ = false) := hid (by have := beq_eq_false_iff_ne.1 b1; simp [form, has, inR, this])
        go_enter Tryz.func195, Tryz.ntmps195
        go_wp2
        go_ret
        exact ⟨by rw [HV.out]; rfl, HB.out⟩
      · have HV : Hid (form ⟨9, v, l, r⟩ = true) := hid (by have h1 := beq_iff_eq.1 b1; subst h1; rfl)
        go_enter Tryz.func195, Tryz.ntmps195
        go_wp2
        go_ret
        exact ⟨by rw [HV.out]; rfl, HB.out⟩
    · cases b2 : (r != 0)
      · cases b1 : (v == 0)
        · have HV : Hid (form ⟨10, v, l, r⟩ = false) := hid (by have := beq_eq_false_iff_ne.1 b1; simp [form, has, inR, this])
          go_enter Tryz.func195, Tryz.ntmps195
          go_wp2
          go_ret
          exact ⟨by rw [HV.out]; rfl, HB.out⟩
        · have HV : Hid (form ⟨10, v, l, r⟩ = true) := hid (by have h1 := beq_iff_eq.1 b1; have h2 := bne_eq_false_iff_eq.1 b2; subst h1 h2; rfl)
          go_enter Tryz.func195, Tryz.ntmps195
          go_wp2
          go_ret
          exact ⟨by rw [HV.out]; rfl, HB.out⟩
      · have HV : Hid (form ⟨10, v, l, r⟩ = false) := hid (by have := bne_iff_ne.1 b2; simp [form, has, inR, this])
        go_enter Tryz.func195, Tryz.ntmps195
        go_wp2
        go_ret
        exact ⟨by rw [HV.out]; rfl, HB.out⟩
  · have HV : Hid (form ⟨k, v, l, r⟩ = false) := hid (by unfold form; simp only [Bool.not_eq_true] at hk; rw [hk]; rfl)
    rw [inR_iff] at hk
    have b1 : (k == 1) = false := beq_eq_false_iff_ne.2 (by omega)
    have b2 : (k == 2) = false := beq_eq_false_iff_ne.2 (by omega)
    have b3 : (k == 3) = false := beq_eq_false_iff_ne.2 (by omega)
    have b4 : (k == 4) = false := beq_eq_false_iff_ne.2 (by omega)
    have b5 : (k == 5) = false := beq_eq_false_iff_ne.2 (by omega)
    have b6 : (k == 6) = false := beq_eq_false_iff_ne.2 (by omega)
    have b7 : (k == 7) = false := beq_eq_false_iff_ne.2 (by omega)
    have b8 : (k == 8) = false := beq_eq_false_iff_ne.2 (by omega)
    have b9 : (k == 9) = false := beq_eq_false_iff_ne.2 (by omega)
    have b10 : (k == 10) = false := beq_eq_false_iff_ne.2 (by omega)
    clear hk
    go_enter Tryz.func195, Tryz.ntmps195
    go_wp2
    go_ret
    exact ⟨by rw [HV.out]; rfl, HB.out⟩
set_option maxRecDepth 100000 in
set_option maxHeartbeats 4000000 in
theorem implInside (n : NodeD) (i : Int) (w : World) (hf : form n = true) :
    Calls Tryz.prog 196 #[.agg #[.int .i64 n.kind, .int .i64 n.value, .int .i64 n.left, .int .i64 n.right], .int .i64 i] w fun e w' => e = .returned (.bool (inside n i)) ∧ Below w.heap.size w w' := by
  obtain ⟨k, v, l, r⟩ := n
  have HB : Hid (Below w.heap.size w (w.alloc (.cells #[.int .i64 k, .int .i64 v, .int .i64 l, .int .i64 r] 169))) := hid ((Below.refl _ w).alloc (Nat.le_refl _) _)
  have hk2 : 1 ≤ k ∧ k ≤ 10 := by
    unfold form at hf
    simp only [Bool.and_eq_true] at hf
    exact inR_iff.1 hf.1
  have hkk : k = 1 ∨ k = 2 ∨ k = 3 ∨ k = 4 ∨ k = 5 ∨ k = 6 ∨ k = 7 ∨ k = 8 ∨ k = 9 ∨ k = 10 := by omega
  clear hf hk2
  rcases hkk with rfl | rfl | rfl | rfl | rfl | rfl | rfl | rfl | rfl | rfl
  · by_cases q1 : 0 ≤ v
    · by_cases q2 : v ≤ 9999
      · have HV : Hid (inside ⟨1, v, l, r⟩ i = true) := hid (by simp [inside, wide, far, two, inR]; omega)
        go_enter Tryz.func196, Tryz.ntmps196
        go_wp2
        go_ret
        exact ⟨by rw [HV.out]; rfl, HB.out⟩
      · have HV : Hid (inside ⟨1, v, l, r⟩ i = false) := hid (by simp [inside, wide, far, two, inR]; omega)
        go_enter Tryz.func196, Tryz.ntmps196
        go_wp2
        go_ret
        exact ⟨by rw [HV.out]; rfl, HB.out⟩
    · have HV : Hid (inside ⟨1, v, l, r⟩ i = false) := hid (by simp [inside, wide, far, two, inR]; omega)
      go_enter Tryz.func196, Tryz.ntmps196
      go_wp2
      go_ret
      exact ⟨by rw [HV.out]; rfl, HB.out⟩
  · by_cases q1 : 0 ≤ v
    · by_cases q2 : v < 4
      · have HV : Hid (inside ⟨2, v, l, r⟩ i = true) := hid (by simp [inside, wide, far, two, inR]; omega)
        go_enter Tryz.func196, Tryz.ntmps196
        go_wp2
        go_ret
        exact ⟨by rw [HV.out]; rfl, HB.out⟩
      · have HV : Hid (inside ⟨2, v, l, r⟩ i = false) := hid (by simp [inside, wide, far, two, inR]; omega)
        go_enter Tryz.func196, Tryz.ntmps196
        go_wp2
        go_ret
        exact ⟨by rw [HV.out]; rfl, HB.out⟩
    · have HV : Hid (inside ⟨2, v, l, r⟩ i = false) := hid (by simp [inside, wide, far, two, inR]; omega)
      go_enter Tryz.func196, Tryz.ntmps196
      go_wp2
      go_ret
      exact ⟨by rw [HV.out]; rfl, HB.out⟩
  · by_cases p1 : r < 0
    · have HV : Hid (inside ⟨3, v, l, r⟩ i = false) := hid (by simp [inside, wide, far, two, inR]; omega)
      go_enter Tryz.func196, Tryz.ntmps196
      go_wp2
      go_ret
      exact ⟨by rw [HV.out]; rfl, HB.out⟩
    by_cases p2 : i ≤ r
    · have HV : Hid (inside ⟨3, v, l, r⟩ i = false) := hid (by simp [inside, wide, far, two, inR]; omega)
      go_enter Tryz.func196, Tryz.ntmps196
      go_wp2
      go_ret
      exact ⟨by rw [HV.out]; rfl, HB.out⟩
    · by_cases q1 : 0 ≤ l
      · by_cases q2 : l < i
        · have HV : Hid (inside ⟨3, v, l, r⟩ i = true) := hid (by simp [inside, wide, far, two, inR]; omega)
          go_enter Tryz.func196, Tryz.ntmps196
          go_wp2
          go_ret
          exact ⟨by rw [HV.out]; rfl, HB.out⟩
        · have HV : Hid (inside ⟨3, v, l, r⟩ i = false) := hid (by simp [inside, wide, far, two, inR]; omega)
          go_enter Tryz.func196, Tryz.ntmps196
          go_wp2
          go_ret
          exact ⟨by rw [HV.out]; rfl, HB.out⟩
      · have HV : Hid (inside ⟨3, v, l, r⟩ i = false) := hid (by simp [inside, wide, far, two, inR]; omega)
        go_enter Tryz.func196, Tryz.ntmps196
        go_wp2
        go_ret
        exact ⟨by rw [HV.out]; rfl, HB.out⟩
  · by_cases p1 : r < 0
    · have HV : Hid (inside ⟨4, v, l, r⟩ i = false) := hid (by simp [inside, wide, far, two, inR]; omega)
      go_enter Tryz.func196, Tryz.ntmps196
      go_wp2
      go_ret
      exact ⟨by rw [HV.out]; rfl, HB.out⟩
    by_cases p2 : i ≤ r
    · have HV : Hid (inside ⟨4, v, l, r⟩ i = false) := hid (by simp [inside, wide, far, two, inR]; omega)
      go_enter Tryz.func196, Tryz.ntmps196
      go_wp2
      go_ret
      exact ⟨by rw [HV.out]; rfl, HB.out⟩
    · by_cases q1 : 0 ≤ l
      · by_cases q2 : l < i
        · have HV : Hid (inside ⟨4, v, l, r⟩ i = true) := hid (by simp [inside, wide, far, two, inR]; omega)
          go_enter Tryz.func196, Tryz.ntmps196
          go_wp2
          go_ret
          exact ⟨by rw [HV.out]; rfl, HB.out⟩
        · have HV : Hid (inside ⟨4, v, l, r⟩ i = false) := hid (by simp [inside, wide, far, two, inR]; omega)
          go_enter Tryz.func196, Tryz.ntmps196
          go_wp2
          go_ret
          exact ⟨by rw [HV.out]; rfl, HB.out⟩
      · have HV : Hid (inside ⟨4, v, l, r⟩ i = false) := hid (by simp [inside, wide, far, two, inR]; omega)
        go_enter Tryz.func196, Tryz.ntmps196
        go_wp2
        go_ret
        exact ⟨by rw [HV.out]; rfl, HB.out⟩
  · by_cases p1 : r < 0
    · have HV : Hid (inside ⟨5, v, l, r⟩ i = false) := hid (by simp [inside, wide, far, two, inR]; omega)
      go_enter Tryz.func196, Tryz.ntmps196
      go_wp2
      go_ret
      exact ⟨by rw [HV.out]; rfl, HB.out⟩
    by_cases p2 : i ≤ r
    · have HV : Hid (inside ⟨5, v, l, r⟩ i = false) := hid (by simp [inside, wide, far, two, inR]; omega)
      go_enter Tryz.func196, Tryz.ntmps196
      go_wp2
      go_ret
      exact ⟨by rw [HV.out]; rfl, HB.out⟩
    · by_cases q1 : 0 ≤ l
      · by_cases q2 : l < i
        · have HV : Hid (inside ⟨5, v, l, r⟩ i = true) := hid (by simp [inside, wide, far, two, inR]; omega)
          go_enter Tryz.func196, Tryz.ntmps196
          go_wp2
          go_ret
          exact ⟨by rw [HV.out]; rfl, HB.out⟩
        · have HV : Hid (inside ⟨5, v, l, r⟩ i = false) := hid (by simp [inside, wide, far, two, inR]; omega)
          go_enter Tryz.func196, Tryz.ntmps196
          go_wp2
          go_ret
          exact ⟨by rw [HV.out]; rfl, HB.out⟩
      · have HV : Hid (inside ⟨5, v, l, r⟩ i = false) := hid (by simp [inside, wide, far, two, inR]; omega)
        go_enter Tryz.func196, Tryz.ntmps196
        go_wp2
        go_ret
        exact ⟨by rw [HV.out]; rfl, HB.out⟩
  · by_cases p1 : r < 0
    · have HV : Hid (inside ⟨6, v, l, r⟩ i = false) := hid (by simp [inside, wide, far, two, inR]; omega)
      go_enter Tryz.func196, Tryz.ntmps196
      go_wp2
      go_ret
      exact ⟨by rw [HV.out]; rfl, HB.out⟩
    by_cases p2 : i ≤ r
    · have HV : Hid (inside ⟨6, v, l, r⟩ i = false) := hid (by simp [inside, wide, far, two, inR]; omega)
      go_enter Tryz.func196, Tryz.ntmps196
      go_wp2
      go_ret
      exact ⟨by rw [HV.out]; rfl, HB.out⟩
    · by_cases q1 : 0 ≤ l
      · by_cases q2 : l < i
        · have HV : Hid (inside ⟨6, v, l, r⟩ i = true) := hid (by simp [inside, wide, far, two, inR]; omega)
          go_enter Tryz.func196, Tryz.ntmps196
          go_wp2
          go_ret
          exact ⟨by rw [HV.out]; rfl, HB.out⟩
        · have HV : Hid (inside ⟨6, v, l, r⟩ i = false) := hid (by simp [inside, wide, far, two, inR]; omega)
          go_enter Tryz.func196, Tryz.ntmps196
          go_wp2
          go_ret
          exact ⟨by rw [HV.out]; rfl, HB.out⟩
      · have HV : Hid (inside ⟨6, v, l, r⟩ i = false) := hid (by simp [inside, wide, far, two, inR]; omega)
        go_enter Tryz.func196, Tryz.ntmps196
        go_wp2
        go_ret
        exact ⟨by rw [HV.out]; rfl, HB.out⟩
  · by_cases p1 : r < 0
    · have HV : Hid (inside ⟨7, v, l, r⟩ i = false) := hid (by simp [inside, wide, far, two, inR]; omega)
      go_enter Tryz.func196, Tryz.ntmps196
      go_wp2
      go_ret
      exact ⟨by rw [HV.out]; rfl, HB.out⟩
    by_cases p2 : i ≤ r
    · have HV : Hid (inside ⟨7, v, l, r⟩ i = false) := hid (by simp [inside, wide, far, two, inR]; omega)
      go_enter Tryz.func196, Tryz.ntmps196
      go_wp2
      go_ret
      exact ⟨by rw [HV.out]; rfl, HB.out⟩
    · by_cases q1 : 0 ≤ l
      · by_cases q2 : l < i
        · have HV : Hid (inside ⟨7, v, l, r⟩ i = true) := hid (by simp [inside, wide, far, two, inR]; omega)
          go_enter Tryz.func196, Tryz.ntmps196
          go_wp2
          go_ret
          exact ⟨by rw [HV.out]; rfl, HB.out⟩
        · have HV : Hid (inside ⟨7, v, l, r⟩ i = false) := hid (by simp [inside, wide, far, two, inR]; omega)
          go_enter Tryz.func196, Tryz.ntmps196
          go_wp2
          go_ret
          exact ⟨by rw [HV.out]; rfl, HB.out⟩
      · have HV : Hid (inside ⟨7, v, l, r⟩ i = false) := hid (by simp [inside, wide, far, two, inR]; omega)
        go_enter Tryz.func196, Tryz.ntmps196
        go_wp2
        go_ret
        exact ⟨by rw [HV.out]; rfl, HB.out⟩
  · by_cases p1 : r < 0
    · have HV : Hid (inside ⟨8, v, l, r⟩ i = false) := hid (by simp [inside, wide, far, two, inR]; omega)
      go_enter Tryz.func196, Tryz.ntmps196
      go_wp2
      go_ret
      exact ⟨by rw [HV.out]; rfl, HB.out⟩
    by_cases p2 : i ≤ r
    · have HV : Hid (inside ⟨8, v, l, r⟩ i = false) := hid (by simp [inside, wide, far, two, inR]; omega)
      go_enter Tryz.func196, Tryz.ntmps196
      go_wp2
      go_ret
      exact ⟨by rw [HV.out]; rfl, HB.out⟩
    · by_cases q1 : 0 ≤ l
      · by_cases q2 : l < i
        · have HV : Hid (inside ⟨8, v, l, r⟩ i = true) := hid (by simp [inside, wide, far, two, inR]; omega)
          go_enter Tryz.func196, Tryz.ntmps196
          go_wp2
          go_ret
          exact ⟨by rw [HV.out]; rfl, HB.out⟩
        · have HV : Hid (inside ⟨8, v, l, r⟩ i = false) := hid (by simp [inside, wide, far, two, inR]; omega)
          go_enter Tryz.func196, Tryz.ntmps196
          go_wp2
          go_ret
          exact ⟨by rw [HV.out]; rfl, HB.out⟩
      · have HV : Hid (inside ⟨8, v, l, r⟩ i = false) := hid (by simp [inside, wide, far, two, inR]; omega)
        go_enter Tryz.func196, Tryz.ntmps196
        go_wp2
        go_ret
        exact ⟨by rw [HV.out]; rfl, HB.out⟩
  · by_cases p1 : r < 0
    · have HV : Hid (inside ⟨9, v, l, r⟩ i = false) := hid (by simp [inside, wide, far, two, inR]; omega)
      go_enter Tryz.func196, Tryz.ntmps196
      go_wp2
      go_ret
      exact ⟨by rw [HV.out]; rfl, HB.out⟩
    by_cases p2 : i ≤ r
    · have HV : Hid (inside ⟨9, v, l, r⟩ i = false) := hid (by simp [inside, wide, far, two, inR]; omega)
      go_enter Tryz.func196, Tryz.ntmps196
      go_wp2
      go_ret
      exact ⟨by rw [HV.out]; rfl, HB.out⟩
    · by_cases q1 : 0 ≤ l
      · by_cases q2 : l < i
        · have HV : Hid (inside ⟨9, v, l, r⟩ i = true) := hid (by simp [inside, wide, far, two, inR]; omega)
          go_enter Tryz.func196, Tryz.ntmps196
          go_wp2
          go_ret
          exact ⟨by rw [HV.out]; rfl, HB.out⟩
        · have HV : Hid (inside ⟨9, v, l, r⟩ i = false) := hid (by simp [inside, wide, far, two, inR]; omega)
          go_enter Tryz.func196, Tryz.ntmps196
          go_wp2
          go_ret
          exact ⟨by rw [HV.out]; rfl, HB.out⟩
      · have HV : Hid (inside ⟨9, v, l, r⟩ i = false) := hid (by simp [inside, wide, far, two, inR]; omega)
        go_enter Tryz.func196, Tryz.ntmps196
        go_wp2
        go_ret
        exact ⟨by rw [HV.out]; rfl, HB.out⟩
  · by_cases q1 : 0 ≤ l
    · by_cases q2 : l < i
      · have HV : Hid (inside ⟨10, v, l, r⟩ i = true) := hid (by simp [inside, wide, far, two, inR]; omega)
        go_enter Tryz.func196, Tryz.ntmps196
        go_wp2
        go_ret
        exact ⟨by rw [HV.out]; rfl, HB.out⟩
      · have HV : Hid (inside ⟨10, v, l, r⟩ i = false) := hid (by simp [inside, wide, far, two, inR]; omega)
        go_enter Tryz.func196, Tryz.ntmps196
        go_wp2
        go_ret
        exact ⟨by rw [HV.out]; rfl, HB.out⟩
    · have HV : Hid (inside ⟨10, v, l, r⟩ i = false) := hid (by simp [inside, wide, far, two, inR]; omega)
      go_enter Tryz.func196, Tryz.ntmps196
      go_wp2
      go_ret
      exact ⟨by rw [HV.out]; rfl, HB.out⟩
end Ex
end Go.Proofs.YtpmlialjoonpeaaGreatDoor
