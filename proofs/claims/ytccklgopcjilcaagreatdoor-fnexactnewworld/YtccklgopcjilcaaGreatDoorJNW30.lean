/- What the program asks of a step by its rule. -/
import Derived.Test.YtccklgopcjilcaaGreatDoorJNW11
namespace Go.Proofs.YtccklgopcjilcaaGreatDoor
open Go.RowKit
set_option linter.unusedVariables false
namespace Pf
open Ex (hid inR eFault typeCode typeVal implExprFault)
open Nd (NodeD)
open St (StepD)
open Tr (nf)
def allowsR (r : RuleD) (s : StepD) : Bool := (r.hn || s.name.toList.isEmpty) && (decide (0 < r.ma) || (s.arg == 0)) && (r.he || decide (s.expr.length = 0))
def partsR (r : RuleD) (s : StepD) : Int := if r.hn = true ∧ nf s.name.data.toList ≠ 0 then nf s.name.data.toList else if s.arg < r.la ∨ r.ma < s.arg then 3 else if r.he = true then eFault s.expr else 0
theorem allows_eq {s : StepD} (h : inR s.kind 1 8 = true) : allowsR (ruleD s.kind) s = bare s := by
  unfold allowsR bare
  rcases kinds h with e | e | e | e | e | e | e | e <;> rw [e] <;> simp [rule1, rule2, rule3, rule4, rule5, rule6, rule7, rule8, inR]
theorem parts_eq {s : StepD} (h : inR s.kind 1 8 = true) (hb : bare s = true) : partsR (ruleD s.kind) s = partC s := by
  unfold partsR partC argOk
  unfold bare at hb
  rcases kinds h with e | e | e | e | e | e | e | e <;> rw [e] at hb ⊢ <;> simp [inR] at hb
  · have := hb.1.2
    simp [rule1, this]
  · have := hb.1
    simp [rule2, this]
  · have := hb.1.2
    simp [rule3, this]
  · have := hb.1.2
    simp [rule4, this]
  · have e1 : (s.arg < 0 ∨ 9 < s.arg) ↔ inR s.arg 0 9 = false := by rw [Ex.inR_not]; omega
    simp [rule5, e1]
  · have e1 : (s.arg < 1 ∨ 99 < s.arg) ↔ inR s.arg 1 99 = false := by rw [Ex.inR_not]; omega
    simp [rule6, e1]
  · have e1 : (s.arg < 0 ∨ 3 < s.arg) ↔ inR s.arg 0 3 = false := by rw [Ex.inR_not]; omega
    simp [rule7, e1]
  · have e1 : (s.arg < 1 ∨ 99 < s.arg) ↔ inR s.arg 1 99 = false := by rw [Ex.inR_not]; omega
    simp [rule8, e1]
theorem parts_nm {r : RuleD} {s : StepD} (h : r.hn = true) (h2 : nf s.name.data.toList ≠ 0) : partsR r s = nf s.name.data.toList := by unfold partsR; rw [if_pos ⟨h, h2⟩]
theorem parts_rng {r : RuleD} {s : StepD} (h : ¬ (r.hn = true ∧ nf s.name.data.toList ≠ 0)) (h2 : s.arg < r.la ∨ r.ma < s.arg) : partsR r s = 3 := by unfold partsR; rw [if_neg h, if_pos h2]
theorem parts_ex {r : RuleD} {s : StepD} (h : ¬ (r.hn = true ∧ nf s.name.data.toList ≠ 0)) (h2 : ¬ (s.arg < r.la ∨ r.ma < s.arg)) (h3 : r.he = true) : partsR r s = eFault s.expr := by unfold partsR; rw [if_neg h, if_neg h2, if_pos h3]
theorem parts_no {r : RuleD} {s : StepD} (h : ¬ (r.hn = true ∧ nf s.name.data.toList ≠ 0)) (h2 : ¬ (s.arg < r.la ∨ r.ma < s.arg)) (h3 : r.he = false) : partsR r s = 0 := by unfold partsR; rw [if_neg h, if_neg h2, if_neg (by simp [h3])]
set_option maxRecDepth 100000 in
set_option maxHeartbeats 1000000 in
theorem hasArg (r : RuleD) (w : World) : Calls Tryz.prog 231 #[.agg #[.string r.word, .bool r.hn, .bool r.he, .int .i64 r.la, .int .i64 r.ma, .int .i64 r.lk, .int .i64 r.mx]] w fun e w' => e = .returned (.bool (decide (0 < r.ma))) ∧ Below w.heap.size w w' := by
  go_enter Tryz.func231, Tryz.ntmps231
  go_wp2
  go_ret
  exact ⟨rfl, (Below.refl _ w).alloc (Nat.le_refl _) _⟩
set_option maxRecDepth 100000 in
set_option maxHeartbeats 8000000 in
theorem allows (r : RuleD) (s : StepD) (vc : Value) (a : Option Addr) (n cap : Nat) (w : World) (hn : n = s.expr.length) (hl : n ≤ 1048576) (hvc : ∃ x y z, vc = .slice x y z) :
    Calls Tryz.prog 192 #[.agg #[.string r.word, .bool r.hn, .bool r.he, .int .i64 r.la, .int .i64 r.ma, .int .i64 r.lk, .int .i64 r.mx], .agg #[.int .i64 s.kind, .int .i64 s.parent, .string s.name, .int .i64 s.arg, vc, .slice a n cap]] w fun e w' => e = .returned (.bool (allowsR r s)) ∧ Below w.heap.size w w' := by
  obtain ⟨vx, vy, vz, rfl⟩ := hvc
  have HA := hid (fun w' => hasArg r w')
  have HB : Hid (Below w.heap.size w ((w.alloc (.cells #[.string r.word, .bool r.hn, .bool r.he, .int .i64 r.la, .int .i64 r.ma, .int .i64 r.lk, .int .i64 r.mx] 255)).alloc (.cells #[.int .i64 s.kind, .int .i64 s.parent, .string s.name, .int .i64 s.arg, .slice vx vy vz, .slice a n cap] 164))) := hid (((Below.refl _ w).alloc (Nat.le_refl _) _).alloc (by simp) _)
  unfold allowsR
  rw [← hn]
  clear hn
  have hE : decide (n = 0) = ((n : Int) == 0) := by
    by_cases h : n = 0
    · simp [h]
    · have : ((n : Int) == 0) = false := beq_eq_false_iff_ne.2 (by omega)
      simp [h, this]
  rw [hE]
  clear hE
  generalize s.kind = kind at *
  generalize s.parent = par at *
  generalize s.name = nm at *
  generalize s.arg = arg at *
  obtain ⟨word, hn, he, la, ma, lk, mx⟩ := r
  simp only at HA HB ⊢
  cases hn
  · cases b2 : nm.toList.isEmpty
    · skip
      go_enter Tryz.func192, Tryz.ntmps192
      go_wp2
      go_ret
      exact ⟨by simp [*], HB.out⟩
    · skip
      go_enter Tryz.func192, Tryz.ntmps192
      go_wp2_with fail
      refine (HA.out _).mono ?_
      rintro e w1 ⟨rfl, hb1⟩
      have hz1 := hb1.size
      simp only [World.size_alloc] at hz1
      have l0 : w.heap.size < w1.heap.size := by omega
      have l1 : w.heap.size + 1 < w1.heap.size := by omega
      have r0 := (hb1.cell (p := ⟨w.heap.size, 2, none⟩) (by simp; omega)).trans (show _ = some (.bool he) by go_simp)
      have r1 := (hb1.cell (p := ⟨w.heap.size + 1, 3, none⟩) (by simp)).trans (show _ = some (.int .i64 arg) by go_simp)
      have r2 := (hb1.cell (p := ⟨w.heap.size + 1, 5, none⟩) (by simp)).trans (show _ = some (.slice a n cap) by go_simp)
      have HB1 := hid (HB.out.trans (hb1.mono HB.out.size))
      clear HA HB hb1
      by_cases m : 0 < ma
      · have m1 : decide (0 < ma) = true := by simp [m]
        cases he
        · cases b6 : ((n : Int) == 0)
          · skip
            go_wp2
            go_ret
            exact ⟨by simp [*], HB1.out⟩
          · skip
            go_wp2
            go_ret
            exact ⟨by simp [*], HB1.out⟩
        · skip
          go_wp2
          go_ret
          exact ⟨by simp [*], HB1.out⟩
      · have m1 : decide (0 < ma) = false := by simp [m]
        cases b4 : (arg == 0)
        · skip
          go_wp2
          go_ret
          exact ⟨by simp [*], HB1.out⟩
        cases he
        · cases b6 : ((n : Int) == 0)
          · skip
            go_wp2
            go_ret
            exact ⟨by simp [*], HB1.out⟩
          · skip
            go_wp2
            go_ret
            exact ⟨by simp [*], HB1.out⟩
        · skip
          go_wp2
          go_ret
          exact ⟨by simp [*], HB1.out⟩
  · skip
    go_enter Tryz.func192, Tryz.ntmps192
    go_wp2_with fail
    refine (HA.out _).mono ?_
    rintro e w1 ⟨rfl, hb1⟩
    have hz1 := hb1.size
    simp only [World.size_alloc] at hz1
    have l0 : w.heap.size < w1.heap.size := by omega
    have l1 : w.heap.size + 1 < w1.heap.size := by omega
    have r0 := (hb1.cell (p := ⟨w.heap.size, 2, none⟩) (by simp; omega)).trans (show _ = some (.bool he) by go_simp)
    have r1 := (hb1.cell (p := ⟨w.heap.size + 1, 3, none⟩) (by simp)).trans (show _ = some (.int .i64 arg) by go_simp)
    have r2 := (hb1.cell (p := ⟨w.heap.size + 1, 5, none⟩) (by simp)).trans (show _ = some (.slice a n cap) by go_simp)
    have HB1 := hid (HB.out.trans (hb1.mono HB.out.size))
    clear HA HB hb1
    by_cases m : 0 < ma
    · have m1 : decide (0 < ma) = true := by simp [m]
      cases he
      · cases b6 : ((n : Int) == 0)
        · skip
          go_wp2
          go_ret
          exact ⟨by simp [*], HB1.out⟩
        · skip
          go_wp2
          go_ret
          exact ⟨by simp [*], HB1.out⟩
      · skip
        go_wp2
        go_ret
        exact ⟨by simp [*], HB1.out⟩
    · have m1 : decide (0 < ma) = false := by simp [m]
      cases b4 : (arg == 0)
      · skip
        go_wp2
        go_ret
        exact ⟨by simp [*], HB1.out⟩
      cases he
      · cases b6 : ((n : Int) == 0)
        · skip
          go_wp2
          go_ret
          exact ⟨by simp [*], HB1.out⟩
        · skip
          go_wp2
          go_ret
          exact ⟨by simp [*], HB1.out⟩
      · skip
        go_wp2
        go_ret
        exact ⟨by simp [*], HB1.out⟩
set_option maxRecDepth 100000 in
set_option maxHeartbeats 8000000 in
theorem partsFault (r : RuleD) (s : StepD) (vc : Value) (a : Option Addr) (cap B : Nat) (w : World) (hl : s.expr.length ≤ 1048576) (hn : s.name.size ≤ maxLen) (hvc : ∃ x y z, vc = .slice x y z) (hve : Nd.At w B (.slice a s.expr.length cap) s.expr) :
    Calls Tryz.prog 194 #[.agg #[.string r.word, .bool r.hn, .bool r.he, .int .i64 r.la, .int .i64 r.ma, .int .i64 r.lk, .int .i64 r.mx], .agg #[.int .i64 s.kind, .int .i64 s.parent, .string s.name, .int .i64 s.arg, vc, .slice a s.expr.length cap]] w fun e w' => e = .returned (.int .i64 (partsR r s)) ∧ Below w.heap.size w w' := by
  obtain ⟨vx, vy, vz, rfl⟩ := hvc
  have hB : Below w.heap.size w ((w.alloc (.cells #[.string r.word, .bool r.hn, .bool r.he, .int .i64 r.la, .int .i64 r.ma, .int .i64 r.lk, .int .i64 r.mx] 255)).alloc (.cells #[.int .i64 s.kind, .int .i64 s.parent, .string s.name, .int .i64 s.arg, .slice vx vy vz, .slice a s.expr.length cap] 164)) := ((Below.refl _ w).alloc (Nat.le_refl _) _).alloc (by simp) _
  have HX := hid (implExprFault B s.expr _ _ hl (hve.below hB))
  have HN := hid (fun w' => Tr.impl_nf s.name w' hn)
  have HB := hid hB
  clear hB hve hn
  have F1 := hid (parts_nm (r := r) (s := s))
  have F2 := hid (parts_rng (r := r) (s := s))
  have F3 := hid (parts_ex (r := r) (s := s))
  have F4 := hid (parts_no (r := r) (s := s))
  generalize partsR r s = pr at *
  generalize eFault s.expr = ef at *
  generalize nf s.name.data.toList = nc at *
  generalize s.expr.length = n at *
  generalize s.kind = kind at *
  generalize s.parent = par at *
  generalize s.name = nm at *
  generalize s.arg = arg at *
  obtain ⟨word, hn, he, la, ma, lk, mx⟩ := r
  simp only at HX HN HB F1 F2 F3 F4 ⊢
  cases hn
  · skip
    by_cases z1 : arg < la
    · skip
      have HV := hid (F2.out (by simp) (.inl z1))
      clear F1 F2 F3 F4
      go_enter Tryz.func194, Tryz.ntmps194
      go_wp2
      go_ret
      exact ⟨by rw [HV.out]; rfl, HB.out⟩
    by_cases z2 : ma < arg
    · skip
      have HV := hid (F2.out (by simp) (.inr z2))
      clear F1 F2 F3 F4
      go_enter Tryz.func194, Tryz.ntmps194
      go_wp2
      go_ret
      exact ⟨by rw [HV.out]; rfl, HB.out⟩
    cases he
    · skip
      have HV := hid (F4.out (by simp) (by omega) rfl)
      clear F1 F2 F3 F4
      go_enter Tryz.func194, Tryz.ntmps194
      go_wp2
      go_ret
      exact ⟨by rw [HV.out]; rfl, HB.out⟩
    · skip
      have HV := hid (F3.out (by simp) (by omega) rfl)
      clear F1 F2 F3 F4
      go_enter Tryz.func194, Tryz.ntmps194
      go_wp2_with (first | (go_at_call 197; refine HX.out.mono ?_; rintro e w2 ⟨rfl, hb2⟩))
      go_ret
      exact ⟨by rw [HV.out]; rfl, HB.out.trans (hb2.mono HB.out.size)⟩
  · by_cases hz : nc = 0
    · have b1 : (nc != 0) = false := by simp [hz]
      by_cases z1 : arg < la
      · skip
        have HV := hid (F2.out (by simp [hz]) (.inl z1))
        clear F1 F2 F3 F4
        go_enter Tryz.func194, Tryz.ntmps194
        go_wp2_with (first | (go_at_call 233; refine (HN.out _).mono ?_; rintro e w1 ⟨rfl, hw1⟩; replace hw1 := hw1.symm; subst hw1))
        go_ret
        exact ⟨by rw [HV.out]; rfl, HB.out⟩
      by_cases z2 : ma < arg
      · skip
        have HV := hid (F2.out (by simp [hz]) (.inr z2))
        clear F1 F2 F3 F4
        go_enter Tryz.func194, Tryz.ntmps194
        go_wp2_with (first | (go_at_call 233; refine (HN.out _).mono ?_; rintro e w1 ⟨rfl, hw1⟩; replace hw1 := hw1.symm; subst hw1))
        go_ret
        exact ⟨by rw [HV.out]; rfl, HB.out⟩
      cases he
      · skip
        have HV := hid (F4.out (by simp [hz]) (by omega) rfl)
        clear F1 F2 F3 F4
        go_enter Tryz.func194, Tryz.ntmps194
        go_wp2_with (first | (go_at_call 233; refine (HN.out _).mono ?_; rintro e w1 ⟨rfl, hw1⟩; replace hw1 := hw1.symm; subst hw1))
        go_ret
        exact ⟨by rw [HV.out]; rfl, HB.out⟩
      · skip
        have HV := hid (F3.out (by simp [hz]) (by omega) rfl)
        clear F1 F2 F3 F4
        go_enter Tryz.func194, Tryz.ntmps194
        go_wp2_with (first | (go_at_call 233; refine (HN.out _).mono ?_; rintro e w1 ⟨rfl, hw1⟩; replace hw1 := hw1.symm; subst hw1) | (go_at_call 197; refine HX.out.mono ?_; rintro e w2 ⟨rfl, hb2⟩))
        go_ret
        exact ⟨by rw [HV.out]; rfl, HB.out.trans (hb2.mono HB.out.size)⟩
    · have b1 : (nc != 0) = true := bne_iff_ne.2 hz
      have HV := hid (F1.out rfl hz)
      clear F1 F2 F3 F4
      go_enter Tryz.func194, Tryz.ntmps194
      go_wp2_with (first | (go_at_call 233; refine (HN.out _).mono ?_; rintro e w1 ⟨rfl, hw1⟩; replace hw1 := hw1.symm; subst hw1))
      go_ret
      exact ⟨by rw [HV.out]; rfl, HB.out⟩
end Pf
end Go.Proofs.YtccklgopcjilcaaGreatDoor
