/- What is wrong with one step, as the specification tells it. -/
import Derived.Test.YtccklgopcjilcaaGreatDoorJCT16
import Derived.Test.YtccklgopcjilcaaGreatDoorJCT5
namespace Go.Proofs.YtccklgopcjilcaaGreatDoor
open Go.RowKit
set_option linter.unusedVariables false
namespace Pf
open Ex (hid inR eFault typeCode typeVal specIn)
open Nd (NodeD)
open St (StepD)
open Tr (Chain cutTo onPath top nf ElemD)
open Pt (kidVals)
set_option maxRecDepth 100000 in
set_option maxHeartbeats 16000000 in
theorem specOne (B : Nat) (ss : List StepD) (v : Value) (i : Nat) (w : World) (hl : ss.length ≤ 24) (hsm : St.Small 1048576 ss) (hi : i < ss.length) (h0 : firstC (oneC ss) i = 0) (ha : St.At w B v ss) :
    Calls Tryz.prog 178 #[v, .int .i64 i] w fun e w' => e = .returned (.int .i64 (oneC ss i)) ∧ Below w.heap.size w w' := by
  have W := walked (by omega) h0
  have hsi := hsm.at hi
  have hsn := hsi.1
  have hse := hsi.2.2
  obtain ⟨a, cap, rfl⟩ := ha.slice
  obtain ⟨g, o, vc, ve, rfl, hg, c0, c1, c2, c3, c4, c5, hvc, hve⟩ := ha.at hi
  obtain ⟨ac, cc, rfl⟩ := hvc.slice
  obtain ⟨ae, ce, rfl⟩ := hve.slice
  have hS : SAt w g (o + i * 6) ss[i] (.slice ac ss[i].cond.length cc) (.slice ae ss[i].expr.length ce) := ⟨c0, c1, c2, c3, c4, c5⟩
  have HBr := hid (specBare ss[i] g (o + i * 6) _ ae ce w (by omega) hS)
  have HAr := hid (specArg ss[i] g (o + i * 6) _ _ w hS)
  have HI := hid (fun v a b w' => specIn v a b w')
  have HLn := hid (specLine B ss _ i w hl hi W.chain ha)
  have HNm := hid (fun w' => Tr.spec_nf1 ss[i].name w' (by unfold maxLen; omega))
  have HEx := hid (Ex.specFault1 B ss[i].expr _ w (by omega) hve)
  have hpj : PJ ss i = ss[i] := PJ_eq hi
  have HDp : Hid (parOk i ss[i].parent = true → ¬ (0 < i ∧ onPath ss[i].parent (path ss i) = false) → Calls Tryz.prog 217 #[.slice (some ⟨g, o, none⟩) ss.length cap, .int .i64 (i : Int)] w fun e w' => e = .returned (.int .i64 ((path ss (i + 1)).length : Int)) ∧ w' = w) := hid (fun h2 h3 => by
    have hch := next_chain hi W.chain (by rw [hpj]; exact h2) (by rw [hpj]; exact h3)
    have hlen : (path ss (i + 1)).length ≤ 8 := by
      have h9 : (cutTo (PJ ss i).parent (path ss i)).length ≤ (path ss i).length := Tr.cut_le
      have := W.deep
      show (i :: cutTo (PJ ss i).parent (path ss i)).length ≤ 8
      rw [List.length_cons]
      omega
    have h := specDeep B ss _ (path ss (i + 1)) w hl hch (by omega) ha
    have e1 : top (path ss (i + 1)) = (i : Int) := rfl
    rw [e1] at h
    exact h)
  have HF1 := hid (one_form (ss := ss) (i := i))
  have HF2 := hid (one_par (ss := ss) (i := i))
  have HF3 := hid (one_line (ss := ss) (i := i))
  have HF4 := hid (one_many (ss := ss) (i := i))
  have HF5 := hid (one_part (ss := ss) (i := i))
  rw [hpj] at HF1 HF2 HF3 HF4 HF5
  have hlen8 : (path ss (i + 1)).length ≤ 1000 := by
    have h9 : (cutTo (PJ ss i).parent (path ss i)).length ≤ (path ss i).length := Tr.cut_le
    have := W.deep
    show (i :: cutTo (PJ ss i).parent (path ss i)).length ≤ 1000
    rw [List.length_cons]
    omega
  have q1 : (i : Int) < (ss.length : Int) := by omega
  clear hS hvc hve ha W h0 hsm hsi hpj
  generalize onPath ss[i].parent (path ss i) = onp at *
  generalize (path ss (i + 1)).length = dp at *
  generalize hst : ss[i] = s at *
  clear hst
  cases hk : inR s.kind 1 8
  · skip
    have HV := hid (HF1.out (by simp [formOk, hk]))
    go_enter Tryz.func178, Tryz.ntmps178
    go_wp2_with (first | (go_at_call 118; refine (HI.out _ _ _ _).mono ?_; rintro e w1 ⟨rfl, hw1⟩; replace hw1 := hw1.symm; subst hw1; try rw [hk]) | (go_at_call 216; refine HLn.out.mono ?_; rintro e w1 ⟨rfl, hw1⟩; replace hw1 := hw1.symm; subst hw1))
    go_ret
    exact ⟨by rw [HV.out]; rfl, Below.refl _ _⟩
  cases hb : bare s
  · skip
    have HV := hid (HF1.out (by simp [formOk, hb]))
    go_enter Tryz.func178, Tryz.ntmps178
    go_wp2_with (first | (go_at_call 118; refine (HI.out _ _ _ _).mono ?_; rintro e w1 ⟨rfl, hw1⟩; replace hw1 := hw1.symm; subst hw1; try rw [hk]) | (go_at_call 215; refine HBr.out.mono ?_; rintro e w1 ⟨rfl, hw1⟩; replace hw1 := hw1.symm; subst hw1; rw [hb]) | (go_at_call 216; refine HLn.out.mono ?_; rintro e w1 ⟨rfl, hw1⟩; replace hw1 := hw1.symm; subst hw1))
    go_ret
    exact ⟨by rw [HV.out]; rfl, Below.refl _ _⟩
  have hfm : formOk s = true := by simp [formOk, hk, hb]
  have HF2x := hid (HF2.out hfm)
  have HF3x := hid (HF3.out hfm)
  have HF4x := hid (HF4.out hfm)
  have HF5x := hid (HF5.out hfm)
  clear hfm HF1 HF2 HF3 HF4 HF5
  rcases Nat.eq_zero_or_pos i with hi0 | hi0
  · have r1 : ((i : Int) == 0) = true := beq_iff_eq.2 (by omega)
    have r3 : ¬ (0 : Int) < (i : Int) := by omega
    cases hp : (s.parent != -1)
    · have h2 : parOk i s.parent = true := by unfold parOk; rw [if_pos hi0]; simpa using hp
      have h3 : ¬ (0 < i ∧ onp = false) := fun e => by omega
      clear hi0
      have HF4y := hid (HF4x.out h2 h3)
      have HF5y := hid (HF5x.out h2 h3)
      have HDD := hid (HDp.out h2 h3)
      clear HF4x HF5x HDp h2 h3 HF2x HF3x
      by_cases m : 7 < dp
      · have m1 : (7 : Int) < (dp : Int) := by omega
        have HV := hid (HF4y.out m)
        go_enter Tryz.func178, Tryz.ntmps178
        go_wp2_with (first | (go_at_call 118; refine (HI.out _ _ _ _).mono ?_; rintro e w1 ⟨rfl, hw1⟩; replace hw1 := hw1.symm; subst hw1; try rw [hk]) | (go_at_call 215; refine HBr.out.mono ?_; rintro e w1 ⟨rfl, hw1⟩; replace hw1 := hw1.symm; subst hw1; rw [hb]) | (go_at_call 216; refine HLn.out.mono ?_; rintro e w1 ⟨rfl, hw1⟩; replace hw1 := hw1.symm; subst hw1) | (go_at_call 217; refine HDD.out.mono ?_; rintro e w1 ⟨rfl, hw1⟩; replace hw1 := hw1.symm; subst hw1) | (go_at_call 218; refine (HNm.out _).mono ?_; rintro e w1 ⟨rfl, hw1⟩; replace hw1 := hw1.symm; subst hw1) | (go_at_call 219; refine HAr.out.mono ?_; rintro e w1 ⟨rfl, hw1⟩; replace hw1 := hw1.symm; subst hw1))
        go_ret
        exact ⟨by rw [HV.out]; rfl, Below.refl _ _⟩
      have m1 : ¬ (7 : Int) < (dp : Int) := by omega
      have HF6 := hid (HF5y.out m)
      by_cases k2 : s.kind = 2
      · have t2 : (s.kind == 2) = true := beq_iff_eq.2 k2
        have t7 : (s.kind == 7) = false := beq_eq_false_iff_ne.2 (by omega)
        by_cases hn : nf s.name.data.toList = 0
        · have t3 : (nf s.name.data.toList != 0) = false := by simp [hn]
          cases har : argOk s
          · skip
            have HV := hid (HF6.out.trans (part_arg (by simp [hn]) har))
            go_enter Tryz.func178, Tryz.ntmps178
            go_wp2_with (first | (go_at_call 118; refine (HI.out _ _ _ _).mono ?_; rintro e w1 ⟨rfl, hw1⟩; replace hw1 := hw1.symm; subst hw1; try rw [hk]) | (go_at_call 215; refine HBr.out.mono ?_; rintro e w1 ⟨rfl, hw1⟩; replace hw1 := hw1.symm; subst hw1; rw [hb]) | (go_at_call 216; refine HLn.out.mono ?_; rintro e w1 ⟨rfl, hw1⟩; replace hw1 := hw1.symm; subst hw1) | (go_at_call 217; refine HDD.out.mono ?_; rintro e w1 ⟨rfl, hw1⟩; replace hw1 := hw1.symm; subst hw1) | (go_at_call 218; refine (HNm.out _).mono ?_; rintro e w1 ⟨rfl, hw1⟩; replace hw1 := hw1.symm; subst hw1) | (go_at_call 219; refine HAr.out.mono ?_; rintro e w1 ⟨rfl, hw1⟩; replace hw1 := hw1.symm; subst hw1; rw [har]))
            go_ret
            exact ⟨by rw [HV.out]; rfl, Below.refl _ _⟩
          · skip
            have HV := hid (HF6.out.trans (part_ok (by simp [hn]) har (by omega)))
            go_enter Tryz.func178, Tryz.ntmps178
            go_wp2_with (first | (go_at_call 118; refine (HI.out _ _ _ _).mono ?_; rintro e w1 ⟨rfl, hw1⟩; replace hw1 := hw1.symm; subst hw1; try rw [hk]) | (go_at_call 215; refine HBr.out.mono ?_; rintro e w1 ⟨rfl, hw1⟩; replace hw1 := hw1.symm; subst hw1; rw [hb]) | (go_at_call 216; refine HLn.out.mono ?_; rintro e w1 ⟨rfl, hw1⟩; replace hw1 := hw1.symm; subst hw1) | (go_at_call 217; refine HDD.out.mono ?_; rintro e w1 ⟨rfl, hw1⟩; replace hw1 := hw1.symm; subst hw1) | (go_at_call 218; refine (HNm.out _).mono ?_; rintro e w1 ⟨rfl, hw1⟩; replace hw1 := hw1.symm; subst hw1) | (go_at_call 219; refine HAr.out.mono ?_; rintro e w1 ⟨rfl, hw1⟩; replace hw1 := hw1.symm; subst hw1; rw [har]))
            go_ret
            exact ⟨by rw [HV.out]; rfl, Below.refl _ _⟩
        · have t3 : (nf s.name.data.toList != 0) = true := by simpa using hn
          have HV := hid (HF6.out.trans (part_name k2 hn))
          go_enter Tryz.func178, Tryz.ntmps178
          go_wp2_with (first | (go_at_call 118; refine (HI.out _ _ _ _).mono ?_; rintro e w1 ⟨rfl, hw1⟩; replace hw1 := hw1.symm; subst hw1; try rw [hk]) | (go_at_call 215; refine HBr.out.mono ?_; rintro e w1 ⟨rfl, hw1⟩; replace hw1 := hw1.symm; subst hw1; rw [hb]) | (go_at_call 216; refine HLn.out.mono ?_; rintro e w1 ⟨rfl, hw1⟩; replace hw1 := hw1.symm; subst hw1) | (go_at_call 217; refine HDD.out.mono ?_; rintro e w1 ⟨rfl, hw1⟩; replace hw1 := hw1.symm; subst hw1) | (go_at_call 218; refine (HNm.out _).mono ?_; rintro e w1 ⟨rfl, hw1⟩; replace hw1 := hw1.symm; subst hw1) | (go_at_call 219; refine HAr.out.mono ?_; rintro e w1 ⟨rfl, hw1⟩; replace hw1 := hw1.symm; subst hw1))
          go_ret
          exact ⟨by rw [HV.out]; rfl, Below.refl _ _⟩
      have t2 : (s.kind == 2) = false := beq_eq_false_iff_ne.2 k2
      cases har : argOk s
      · skip
        have HV := hid (HF6.out.trans (part_arg (by simp [k2]) har))
        go_enter Tryz.func178, Tryz.ntmps178
        go_wp2_with (first | (go_at_call 118; refine (HI.out _ _ _ _).mono ?_; rintro e w1 ⟨rfl, hw1⟩; replace hw1 := hw1.symm; subst hw1; try rw [hk]) | (go_at_call 215; refine HBr.out.mono ?_; rintro e w1 ⟨rfl, hw1⟩; replace hw1 := hw1.symm; subst hw1; rw [hb]) | (go_at_call 216; refine HLn.out.mono ?_; rintro e w1 ⟨rfl, hw1⟩; replace hw1 := hw1.symm; subst hw1) | (go_at_call 217; refine HDD.out.mono ?_; rintro e w1 ⟨rfl, hw1⟩; replace hw1 := hw1.symm; subst hw1) | (go_at_call 218; refine (HNm.out _).mono ?_; rintro e w1 ⟨rfl, hw1⟩; replace hw1 := hw1.symm; subst hw1) | (go_at_call 219; refine HAr.out.mono ?_; rintro e w1 ⟨rfl, hw1⟩; replace hw1 := hw1.symm; subst hw1; rw [har]))
        go_ret
        exact ⟨by rw [HV.out]; rfl, Below.refl _ _⟩
      by_cases k7 : s.kind = 7
      · have t7 : (s.kind == 7) = true := beq_iff_eq.2 k7
        have HV := hid (HF6.out.trans (part_set (by simp [k2]) har k7))
        go_enter Tryz.func178, Tryz.ntmps178
        go_wp2_with (first | (go_at_call 118; refine (HI.out _ _ _ _).mono ?_; rintro e w1 ⟨rfl, hw1⟩; replace hw1 := hw1.symm; subst hw1; try rw [hk]) | (go_at_call 215; refine HBr.out.mono ?_; rintro e w1 ⟨rfl, hw1⟩; replace hw1 := hw1.symm; subst hw1; rw [hb]) | (go_at_call 216; refine HLn.out.mono ?_; rintro e w1 ⟨rfl, hw1⟩; replace hw1 := hw1.symm; subst hw1) | (go_at_call 217; refine HDD.out.mono ?_; rintro e w1 ⟨rfl, hw1⟩; replace hw1 := hw1.symm; subst hw1) | (go_at_call 218; refine (HNm.out _).mono ?_; rintro e w1 ⟨rfl, hw1⟩; replace hw1 := hw1.symm; subst hw1) | (go_at_call 219; refine HAr.out.mono ?_; rintro e w1 ⟨rfl, hw1⟩; replace hw1 := hw1.symm; subst hw1; rw [har]) | (go_at_call 220; refine HEx.out.mono ?_; rintro e w1 ⟨rfl, hb1⟩))
        go_ret
        exact ⟨by rw [HV.out]; rfl, hb1⟩
      · have t7 : (s.kind == 7) = false := beq_eq_false_iff_ne.2 k7
        have HV := hid (HF6.out.trans (part_ok (by simp [k2]) har k7))
        go_enter Tryz.func178, Tryz.ntmps178
        go_wp2_with (first | (go_at_call 118; refine (HI.out _ _ _ _).mono ?_; rintro e w1 ⟨rfl, hw1⟩; replace hw1 := hw1.symm; subst hw1; try rw [hk]) | (go_at_call 215; refine HBr.out.mono ?_; rintro e w1 ⟨rfl, hw1⟩; replace hw1 := hw1.symm; subst hw1; rw [hb]) | (go_at_call 216; refine HLn.out.mono ?_; rintro e w1 ⟨rfl, hw1⟩; replace hw1 := hw1.symm; subst hw1) | (go_at_call 217; refine HDD.out.mono ?_; rintro e w1 ⟨rfl, hw1⟩; replace hw1 := hw1.symm; subst hw1) | (go_at_call 218; refine (HNm.out _).mono ?_; rintro e w1 ⟨rfl, hw1⟩; replace hw1 := hw1.symm; subst hw1) | (go_at_call 219; refine HAr.out.mono ?_; rintro e w1 ⟨rfl, hw1⟩; replace hw1 := hw1.symm; subst hw1; rw [har]))
        go_ret
        exact ⟨by rw [HV.out]; rfl, Below.refl _ _⟩
    · have h2 : parOk i s.parent = false := by unfold parOk; rw [if_pos hi0]; simpa using hp
      clear hi0
      have HV := hid (HF2x.out h2)
      go_enter Tryz.func178, Tryz.ntmps178
      go_wp2_with (first | (go_at_call 118; refine (HI.out _ _ _ _).mono ?_; rintro e w1 ⟨rfl, hw1⟩; replace hw1 := hw1.symm; subst hw1; try rw [hk]) | (go_at_call 215; refine HBr.out.mono ?_; rintro e w1 ⟨rfl, hw1⟩; replace hw1 := hw1.symm; subst hw1; rw [hb]) | (go_at_call 216; refine HLn.out.mono ?_; rintro e w1 ⟨rfl, hw1⟩; replace hw1 := hw1.symm; subst hw1))
      go_ret
      exact ⟨by rw [HV.out]; rfl, Below.refl _ _⟩
  · have r1 : ((i : Int) == 0) = false := beq_eq_false_iff_ne.2 (by omega)
    have r3 : (0 : Int) < (i : Int) := by omega
    cases hp : inR s.parent 0 ((i : Int) - 1)
    · have h2 : parOk i s.parent = false := by unfold parOk; rw [if_neg (by omega)]; exact hp
      have HV := hid (HF2x.out h2)
      go_enter Tryz.func178, Tryz.ntmps178
      go_wp2_with (first | (go_at_call 118; refine (HI.out _ _ _ _).mono ?_; rintro e w1 ⟨rfl, hw1⟩; replace hw1 := hw1.symm; subst hw1; try rw [hk]; try rw [hp]) | (go_at_call 215; refine HBr.out.mono ?_; rintro e w1 ⟨rfl, hw1⟩; replace hw1 := hw1.symm; subst hw1; rw [hb]) | (go_at_call 216; refine HLn.out.mono ?_; rintro e w1 ⟨rfl, hw1⟩; replace hw1 := hw1.symm; subst hw1))
      go_ret
      exact ⟨by rw [HV.out]; rfl, Below.refl _ _⟩
    have h2 : parOk i s.parent = true := by unfold parOk; rw [if_neg (by omega)]; exact hp
    cases hol : onp
    · skip
      have HV := hid (HF3x.out h2 ⟨hi0, hol⟩)
      go_enter Tryz.func178, Tryz.ntmps178
      go_wp2_with (first | (go_at_call 118; refine (HI.out _ _ _ _).mono ?_; rintro e w1 ⟨rfl, hw1⟩; replace hw1 := hw1.symm; subst hw1; try rw [hk]; try rw [hp]) | (go_at_call 215; refine HBr.out.mono ?_; rintro e w1 ⟨rfl, hw1⟩; replace hw1 := hw1.symm; subst hw1; rw [hb]) | (go_at_call 216; refine HLn.out.mono ?_; rintro e w1 ⟨rfl, hw1⟩; replace hw1 := hw1.symm; subst hw1; rw [hol]))
      go_ret
      exact ⟨by rw [HV.out]; rfl, Below.refl _ _⟩
    have h3 : ¬ (0 < i ∧ onp = false) := by simp [hol]
    have HF4y := hid (HF4x.out h2 h3)
    have HF5y := hid (HF5x.out h2 h3)
    have HDD := hid (HDp.out h2 h3)
    clear HF4x HF5x HDp h2 h3 HF2x HF3x
    by_cases m : 7 < dp
    · have m1 : (7 : Int) < (dp : Int) := by omega
      have HV := hid (HF4y.out m)
      go_enter Tryz.func178, Tryz.ntmps178
      go_wp2_with (first | (go_at_call 118; refine (HI.out _ _ _ _).mono ?_; rintro e w1 ⟨rfl, hw1⟩; replace hw1 := hw1.symm; subst hw1; try rw [hk]; try rw [hp]) | (go_at_call 215; refine HBr.out.mono ?_; rintro e w1 ⟨rfl, hw1⟩; replace hw1 := hw1.symm; subst hw1; rw [hb]) | (go_at_call 216; refine HLn.out.mono ?_; rintro e w1 ⟨rfl, hw1⟩; replace hw1 := hw1.symm; subst hw1; rw [hol]) | (go_at_call 217; refine HDD.out.mono ?_; rintro e w1 ⟨rfl, hw1⟩; replace hw1 := hw1.symm; subst hw1) | (go_at_call 218; refine (HNm.out _).mono ?_; rintro e w1 ⟨rfl, hw1⟩; replace hw1 := hw1.symm; subst hw1) | (go_at_call 219; refine HAr.out.mono ?_; rintro e w1 ⟨rfl, hw1⟩; replace hw1 := hw1.symm; subst hw1))
      go_ret
      exact ⟨by rw [HV.out]; rfl, Below.refl _ _⟩
    have m1 : ¬ (7 : Int) < (dp : Int) := by omega
    have HF6 := hid (HF5y.out m)
    by_cases k2 : s.kind = 2
    · have t2 : (s.kind == 2) = true := beq_iff_eq.2 k2
      have t7 : (s.kind == 7) = false := beq_eq_false_iff_ne.2 (by omega)
      by_cases hn : nf s.name.data.toList = 0
      · have t3 : (nf s.name.data.toList != 0) = false := by simp [hn]
        cases har : argOk s
        · skip
          have HV := hid (HF6.out.trans (part_arg (by simp [hn]) har))
          go_enter Tryz.func178, Tryz.ntmps178
          go_wp2_with (first | (go_at_call 118; refine (HI.out _ _ _ _).mono ?_; rintro e w1 ⟨rfl, hw1⟩; replace hw1 := hw1.symm; subst hw1; try rw [hk]; try rw [hp]) | (go_at_call 215; refine HBr.out.mono ?_; rintro e w1 ⟨rfl, hw1⟩; replace hw1 := hw1.symm; subst hw1; rw [hb]) | (go_at_call 216; refine HLn.out.mono ?_; rintro e w1 ⟨rfl, hw1⟩; replace hw1 := hw1.symm; subst hw1; rw [hol]) | (go_at_call 217; refine HDD.out.mono ?_; rintro e w1 ⟨rfl, hw1⟩; replace hw1 := hw1.symm; subst hw1) | (go_at_call 218; refine (HNm.out _).mono ?_; rintro e w1 ⟨rfl, hw1⟩; replace hw1 := hw1.symm; subst hw1) | (go_at_call 219; refine HAr.out.mono ?_; rintro e w1 ⟨rfl, hw1⟩; replace hw1 := hw1.symm; subst hw1; rw [har]))
          go_ret
          exact ⟨by rw [HV.out]; rfl, Below.refl _ _⟩
        · skip
          have HV := hid (HF6.out.trans (part_ok (by simp [hn]) har (by omega)))
          go_enter Tryz.func178, Tryz.ntmps178
          go_wp2_with (first | (go_at_call 118; refine (HI.out _ _ _ _).mono ?_; rintro e w1 ⟨rfl, hw1⟩; replace hw1 := hw1.symm; subst hw1; try rw [hk]; try rw [hp]) | (go_at_call 215; refine HBr.out.mono ?_; rintro e w1 ⟨rfl, hw1⟩; replace hw1 := hw1.symm; subst hw1; rw [hb]) | (go_at_call 216; refine HLn.out.mono ?_; rintro e w1 ⟨rfl, hw1⟩; replace hw1 := hw1.symm; subst hw1; rw [hol]) | (go_at_call 217; refine HDD.out.mono ?_; rintro e w1 ⟨rfl, hw1⟩; replace hw1 := hw1.symm; subst hw1) | (go_at_call 218; refine (HNm.out _).mono ?_; rintro e w1 ⟨rfl, hw1⟩; replace hw1 := hw1.symm; subst hw1) | (go_at_call 219; refine HAr.out.mono ?_; rintro e w1 ⟨rfl, hw1⟩; replace hw1 := hw1.symm; subst hw1; rw [har]))
          go_ret
          exact ⟨by rw [HV.out]; rfl, Below.refl _ _⟩
      · have t3 : (nf s.name.data.toList != 0) = true := by simpa using hn
        have HV := hid (HF6.out.trans (part_name k2 hn))
        go_enter Tryz.func178, Tryz.ntmps178
        go_wp2_with (first | (go_at_call 118; refine (HI.out _ _ _ _).mono ?_; rintro e w1 ⟨rfl, hw1⟩; replace hw1 := hw1.symm; subst hw1; try rw [hk]; try rw [hp]) | (go_at_call 215; refine HBr.out.mono ?_; rintro e w1 ⟨rfl, hw1⟩; replace hw1 := hw1.symm; subst hw1; rw [hb]) | (go_at_call 216; refine HLn.out.mono ?_; rintro e w1 ⟨rfl, hw1⟩; replace hw1 := hw1.symm; subst hw1; rw [hol]) | (go_at_call 217; refine HDD.out.mono ?_; rintro e w1 ⟨rfl, hw1⟩; replace hw1 := hw1.symm; subst hw1) | (go_at_call 218; refine (HNm.out _).mono ?_; rintro e w1 ⟨rfl, hw1⟩; replace hw1 := hw1.symm; subst hw1) | (go_at_call 219; refine HAr.out.mono ?_; rintro e w1 ⟨rfl, hw1⟩; replace hw1 := hw1.symm; subst hw1))
        go_ret
        exact ⟨by rw [HV.out]; rfl, Below.refl _ _⟩
    have t2 : (s.kind == 2) = false := beq_eq_false_iff_ne.2 k2
    cases har : argOk s
    · skip
      have HV := hid (HF6.out.trans (part_arg (by simp [k2]) har))
      go_enter Tryz.func178, Tryz.ntmps178
      go_wp2_with (first | (go_at_call 118; refine (HI.out _ _ _ _).mono ?_; rintro e w1 ⟨rfl, hw1⟩; replace hw1 := hw1.symm; subst hw1; try rw [hk]; try rw [hp]) | (go_at_call 215; refine HBr.out.mono ?_; rintro e w1 ⟨rfl, hw1⟩; replace hw1 := hw1.symm; subst hw1; rw [hb]) | (go_at_call 216; refine HLn.out.mono ?_; rintro e w1 ⟨rfl, hw1⟩; replace hw1 := hw1.symm; subst hw1; rw [hol]) | (go_at_call 217; refine HDD.out.mono ?_; rintro e w1 ⟨rfl, hw1⟩; replace hw1 := hw1.symm; subst hw1) | (go_at_call 218; refine (HNm.out _).mono ?_; rintro e w1 ⟨rfl, hw1⟩; replace hw1 := hw1.symm; subst hw1) | (go_at_call 219; refine HAr.out.mono ?_; rintro e w1 ⟨rfl, hw1⟩; replace hw1 := hw1.symm; subst hw1; rw [har]))
      go_ret
      exact ⟨by rw [HV.out]; rfl, Below.refl _ _⟩
    by_cases k7 : s.kind = 7
    · have t7 : (s.kind == 7) = true := beq_iff_eq.2 k7
      have HV := hid (HF6.out.trans (part_set (by simp [k2]) har k7))
      go_enter Tryz.func178, Tryz.ntmps178
      go_wp2_with (first | (go_at_call 118; refine (HI.out _ _ _ _).mono ?_; rintro e w1 ⟨rfl, hw1⟩; replace hw1 := hw1.symm; subst hw1; try rw [hk]; try rw [hp]) | (go_at_call 215; refine HBr.out.mono ?_; rintro e w1 ⟨rfl, hw1⟩; replace hw1 := hw1.symm; subst hw1; rw [hb]) | (go_at_call 216; refine HLn.out.mono ?_; rintro e w1 ⟨rfl, hw1⟩; replace hw1 := hw1.symm; subst hw1; rw [hol]) | (go_at_call 217; refine HDD.out.mono ?_; rintro e w1 ⟨rfl, hw1⟩; replace hw1 := hw1.symm; subst hw1) | (go_at_call 218; refine (HNm.out _).mono ?_; rintro e w1 ⟨rfl, hw1⟩; replace hw1 := hw1.symm; subst hw1) | (go_at_call 219; refine HAr.out.mono ?_; rintro e w1 ⟨rfl, hw1⟩; replace hw1 := hw1.symm; subst hw1; rw [har]) | (go_at_call 220; refine HEx.out.mono ?_; rintro e w1 ⟨rfl, hb1⟩))
      go_ret
      exact ⟨by rw [HV.out]; rfl, hb1⟩
    · have t7 : (s.kind == 7) = false := beq_eq_false_iff_ne.2 k7
      have HV := hid (HF6.out.trans (part_ok (by simp [k2]) har k7))
      go_enter Tryz.func178, Tryz.ntmps178
      go_wp2_with (first | (go_at_call 118; refine (HI.out _ _ _ _).mono ?_; rintro e w1 ⟨rfl, hw1⟩; replace hw1 := hw1.symm; subst hw1; try rw [hk]; try rw [hp]) | (go_at_call 215; refine HBr.out.mono ?_; rintro e w1 ⟨rfl, hw1⟩; replace hw1 := hw1.symm; subst hw1; rw [hb]) | (go_at_call 216; refine HLn.out.mono ?_; rintro e w1 ⟨rfl, hw1⟩; replace hw1 := hw1.symm; subst hw1; rw [hol]) | (go_at_call 217; refine HDD.out.mono ?_; rintro e w1 ⟨rfl, hw1⟩; replace hw1 := hw1.symm; subst hw1) | (go_at_call 218; refine (HNm.out _).mono ?_; rintro e w1 ⟨rfl, hw1⟩; replace hw1 := hw1.symm; subst hw1) | (go_at_call 219; refine HAr.out.mono ?_; rintro e w1 ⟨rfl, hw1⟩; replace hw1 := hw1.symm; subst hw1; rw [har]))
      go_ret
      exact ⟨by rw [HV.out]; rfl, Below.refl _ _⟩
end Pf
end Go.Proofs.YtccklgopcjilcaaGreatDoor
