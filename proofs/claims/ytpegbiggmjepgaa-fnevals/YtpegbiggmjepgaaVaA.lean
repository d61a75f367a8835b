/- VarsIn: which variables an expression has: the program's and the specification's. -/
import Derived.Test.YtpegbiggmjepgaaImE
import Derived.Test.YtpegbiggmjepgaaIntsX
import Derived.Laws.StructEq
namespace Go.Proofs.Ytpegbiggmjepgaa
open Go.RowKit
set_option linter.unusedVariables false
namespace Ex
open Nd (NodeD)
def eqN (a b : NodeD) : Bool := (a.kind == b.kind) && ((a.value == b.value) && ((a.left == b.left) && (a.right == b.right)))
set_option maxRecDepth 10000 in
theorem runEqN (a b : NodeD) (w : World) : (binOp .eql 54 (.agg #[.int .i64 a.kind, .int .i64 a.value, .int .i64 a.left, .int .i64 a.right]) (.agg #[.int .i64 b.kind, .int .i64 b.value, .int .i64 b.left, .int .i64 b.right])).run Try.prog w = .ok (.bool (eqN a b)) w := by
  unfold eqN
  cases h0 : (a.kind == b.kind) <;> cases h1 : (a.value == b.value) <;> cases h2 : (a.left == b.left) <;> cases h3 : (a.right == b.right) <;> go_simp
def isVar (v : Int) (n : NodeD) : Bool := (n.kind == 2) && (n.value == v)
def hasVar (ns : List NodeD) (v : Int) : Bool := ns.any (isVar v)
def varsTo (ns : List NodeD) : Nat → List Int
  | 0 => []
  | v + 1 => if hasVar ns v = true then varsTo ns v ++ [(v : Int)] else varsTo ns v
def varList (ns : List NodeD) : List Int := if eFault ns = 0 then varsTo ns 4 else []
theorem varsTo_len (ns : List NodeD) : ∀ v, (varsTo ns v).length ≤ v
  | 0 => by simp [varsTo]
  | v + 1 => by
    rw [varsTo]
    have := varsTo_len ns v
    split
    · simp; omega
    · omega
theorem varList_len (ns : List NodeD) : (varList ns).length ≤ 4 := by
  unfold varList
  split
  · exact varsTo_len ns 4
  · simp
theorem vars_yes {ns : List NodeD} {v : Nat} (h : hasVar ns v = true) : varsTo ns (v + 1) = varsTo ns v ++ [(v : Int)] := by rw [varsTo, if_pos h]
theorem vars_no {ns : List NodeD} {v : Nat} (h : hasVar ns v = false) : varsTo ns (v + 1) = varsTo ns v := by rw [varsTo, if_neg (by simp [h])]
theorem any_eqN {ns : List NodeD} (hok : ∀ k, k < ns.length → nCode (NJ ns k) k = 0) (v : Int) : ns.any (eqN ⟨2, v, 0, 0⟩) = hasVar ns v := by
  unfold hasVar
  rw [Bool.eq_iff_iff, List.any_eq_true, List.any_eq_true]
  constructor
  · rintro ⟨n, hn, h⟩
    refine ⟨n, hn, ?_⟩
    simp only [eqN, Bool.and_eq_true, beq_iff_eq] at h
    simp only [isVar, Bool.and_eq_true, beq_iff_eq]
    exact ⟨h.1.symm, h.2.1.symm⟩
  · rintro ⟨n, hn, h⟩
    refine ⟨n, hn, ?_⟩
    obtain ⟨i, hi, rfl⟩ := List.getElem_of_mem hn
    simp only [isVar, Bool.and_eq_true, beq_iff_eq] at h
    have h2 := hok i hi
    rw [NJ_eq hi] at h2
    have h3 := n_leaf h2 (by omega)
    simp only [eqN, Bool.and_eq_true, beq_iff_eq]
    exact ⟨h.1.symm, h.2.symm, h3.1.symm, h3.2.symm⟩
theorem any_at {ns : List NodeD} {p : NodeD → Bool} {i : Nat} (hi : i < ns.length) (h : p ns[i] = true) : ns.any p = true := by
  rw [List.any_eq_true]
  exact ⟨ns[i], List.getElem_mem hi, h⟩
theorem any_none {ns : List NodeD} {p : NodeD → Bool} (h : ∀ j (hj : j < ns.length), p ns[j] = false) : ns.any p = false := by
  rw [List.any_eq_false]
  intro x hx
  obtain ⟨i, hi, rfl⟩ := List.getElem_of_mem hx
  rw [h i hi]
  decide
--[?f slices.Index[[]impl.Node,impl.Node]]
set_option maxRecDepth 100000 in
set_option maxHeartbeats 2000000 in
theorem implIndex (B : Nat) (ns : List NodeD) (nd : NodeD) (v : Value) (w : World) (hl : ns.length ≤ 1048576) (ha : Nd.At w B v ns) :
    Calls Try.prog 39 #[v, .agg #[.int .i64 nd.kind, .int .i64 nd.value, .int .i64 nd.left, .int .i64 nd.right]] w fun e w' => (∃ r : Int, e = .returned (.int .i64 r) ∧ (decide (0 ≤ r) = ns.any (eqN nd)) ∧ -1 ≤ r ∧ r ≤ 1048576) ∧ Below w.heap.size w w' := by
  obtain ⟨a, cap, rfl⟩ := ha.slice
  have HA := hid ha
  clear ha
  have hb0 : Below w.heap.size w (w.alloc (.cells #[.int .i64 nd.kind, .int .i64 nd.value, .int .i64 nd.left, .int .i64 nd.right] 54)) := (Below.refl _ w).alloc (Nat.le_refl _) _
  have hsz : (w.alloc (.cells #[.int .i64 nd.kind, .int .i64 nd.value, .int .i64 nd.left, .int .i64 nd.right] 54)).heap.size = w.heap.size + 1 := by simp
  have r0 : (w.alloc (.cells #[.int .i64 nd.kind, .int .i64 nd.value, .int .i64 nd.left, .int .i64 nd.right] 54)).cell? ⟨w.heap.size, 0, none⟩ = some (.int .i64 nd.kind) := by go_simp
  have r1 : (w.alloc (.cells #[.int .i64 nd.kind, .int .i64 nd.value, .int .i64 nd.left, .int .i64 nd.right] 54)).cell? ⟨w.heap.size, 1, none⟩ = some (.int .i64 nd.value) := by go_simp
  have r2 : (w.alloc (.cells #[.int .i64 nd.kind, .int .i64 nd.value, .int .i64 nd.left, .int .i64 nd.right] 54)).cell? ⟨w.heap.size, 2, none⟩ = some (.int .i64 nd.left) := by go_simp
  have r3 : (w.alloc (.cells #[.int .i64 nd.kind, .int .i64 nd.value, .int .i64 nd.left, .int .i64 nd.right] 54)).cell? ⟨w.heap.size, 3, none⟩ = some (.int .i64 nd.right) := by go_simp
  go_enter Try.func39, Try.ntmps39
  go_wp2
  generalize w.alloc (.cells #[.int .i64 nd.kind, .int .i64 nd.value, .int .i64 nd.left, .int .i64 nd.right] 54) = w0 at *
  go_loopw [5, 8] (fun _ x wr => ∃ i : Nat, x = .int .i64 i ∧ i ≤ ns.length ∧ Hid (∀ j (hj : j < ns.length), j < i → eqN nd ns[j] = false) ∧ Hid (Below w0.heap.size w0 wr)) (fun _ x _ => ns.length - (intOf x).toNat)
  case atStart => exact ⟨0, rfl, Nat.zero_le _, hid (fun j _ h => by omega), hid (Below.refl _ _)⟩
  case round =>
    obtain ⟨i, rfl, hi, HJ, HB⟩ := hrel
    have hB := hb0.trans (HB.out.mono hb0.size)
    by_cases hlt : i < ns.length
    · obtain ⟨g, o, rfl, hg, c0, c1, c2, c3⟩ := (HA.out.below hB).at hlt
      have q1 : (i : Int) < (ns.length : Int) := by omega
      have u0 := kept_cell HB.out (b := w.heap.size) (by omega) r0
      have u1 := kept_cell HB.out (b := w.heap.size) (by omega) r1
      have u2 := kept_cell HB.out (b := w.heap.size) (by omega) r2
      have u3 := kept_cell HB.out (b := w.heap.size) (by omega) r3
      have hrun := runEqN nd ns[i]
      cases hE : eqN nd ns[i]
      · rw [hE] at hrun
        have HJ2 : Hid (∀ j (hj : j < ns.length), j < i + 1 → eqN nd ns[j] = false) := hid (fun j hj h => by
          by_cases e : j = i
          · subst e; exact hE
          · exact HJ.out j hj (by omega))
        clear hE
        go_wp2
        go_quiet (fail)
        go_wp2
        exact ⟨⟨i + 1, by simp, by omega, HJ2, hid (Ints.below_drewN HB.out nq)⟩, by simp [intOf]; omega⟩
      · rw [hE] at hrun
        have HV := hid (any_at (p := eqN nd) hlt hE)
        clear hE
        go_wp2
        go_quiet (fail)
        go_wp2
        go_ret
        exact ⟨⟨i, rfl, by rw [HV.out]; simp, by omega, by omega⟩, Ints.below_drewN hB nq⟩
    · have HV := hid (any_none (ns := ns) (p := eqN nd) (fun j hj => HJ.out j hj (by omega)))
      go_wp2
      go_ret
      exact ⟨⟨-1, rfl, by rw [HV.out]; rfl, by omega, by omega⟩, hB⟩
set_option maxRecDepth 100000 in
set_option maxHeartbeats 1000000 in
theorem implContains (B : Nat) (ns : List NodeD) (nd : NodeD) (v : Value) (w : World) (hl : ns.length ≤ 1048576) (ha : Nd.At w B v ns) :
    Calls Try.prog 23 #[v, .agg #[.int .i64 nd.kind, .int .i64 nd.value, .int .i64 nd.left, .int .i64 nd.right]] w fun e w' => e = .returned (.bool (ns.any (eqN nd))) ∧ Below w.heap.size w w' := by
  obtain ⟨a, cap, rfl⟩ := ha.slice
  have hb0 : Below w.heap.size w (w.alloc (.cells #[.int .i64 nd.kind, .int .i64 nd.value, .int .i64 nd.left, .int .i64 nd.right] 54)) := (Below.refl _ w).alloc (Nat.le_refl _) _
  have HI := hid (implIndex B ns nd _ (w.alloc (.cells #[.int .i64 nd.kind, .int .i64 nd.value, .int .i64 nd.left, .int .i64 nd.right] 54)) hl (ha.below hb0))
  have HB := hid hb0
  clear ha hb0
  go_enter Try.func23, Try.ntmps23
  go_wp2_with fail
  refine HI.out.mono ?_
  rintro e w1 ⟨⟨r, rfl, hr, hr1, hr2⟩, hb1⟩
  have HR := hid hr
  have HB1 := hid (HB.out.trans (hb1.mono HB.out.size))
  clear hr hb1 HI
  go_wp2
  go_ret
  exact ⟨by rw [← HR.out]; rfl, HB1.out⟩
--[/?]
end Ex
end Go.Proofs.Ytpegbiggmjepgaa
