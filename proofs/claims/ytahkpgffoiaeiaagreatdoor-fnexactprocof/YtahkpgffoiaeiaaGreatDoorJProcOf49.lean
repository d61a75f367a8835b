/- The specification's reading: l3Num. -/
import Derived.Test.YtahkpgffoiaeiaaGreatDoorJProcOf48
namespace Go.Proofs.YtahkpgffoiaeiaaGreatDoor
open Go.RowKit
set_option linter.unusedVariables false
namespace Ex
open Nd (NodeD)
/-- How far l3Num comes. -/
def numOk (text : List UInt8) (fr k : Nat) : Bool := decide (0 < k) && (!(text.getD fr 0 == 48) || decide (k = 1))
def numAt2 (most : Nat) (text : List UInt8) (fr k : Nat) : Prop := k ≤ most ∧ fr + k ≤ text.length ∧ (∀ j, fr ≤ j → j < fr + k → isD (text.getD j 0) = true) ∧ (fr + k = text.length ∨ isD (text.getD (fr + k) 0) = false ∨ k = most)
theorem getD_eq2 {l : List UInt8} {i : Nat} (h : i < l.length) : l.getD i 0 = l[i] := by rw [List.getD_eq_getElem?_getD, List.getElem?_eq_getElem h]; rfl
theorem str_getD {l : List UInt8} {i : Nat} (h : i < (str l).size) : ((str l)[i]'h).toNat = (l.getD i 0).toNat := by
  have h' : i < l.length := by rw [str_size] at h; exact h
  rw [getD_eq2 h']
  exact str_get h h'
theorem isD_of {b : UInt8} (h1 : 48 ≤ b.toNat) (h2 : b.toNat ≤ 57) : isD b = true := by unfold isD; rw [decide_eq_true h1, decide_eq_true h2]; rfl
theorem isD_no {b : UInt8} (h : b.toNat < 48 ∨ 57 < b.toNat) : isD b = false := by
  unfold isD
  simp only [Bool.and_eq_false_iff, decide_eq_false_iff_not]
  omega
def pieceV (text : List UInt8) (fr p : Nat) : Nat := valD ((text.drop fr).take (p - fr))
theorem piece_step {text : List UInt8} {fr p : Nat} (h1 : fr ≤ p) (h2 : p < text.length) : pieceV text fr (p + 1) = pieceV text fr p * 10 + ((text.getD p 0).toNat - 48) := by
  unfold pieceV
  rw [show p + 1 - fr = (p - fr) + 1 by omega, valD_take (by rw [List.length_drop]; omega)]
  congr 2
  rw [getD_eq2 h2, List.getElem_drop]
  congr 2
  omega
theorem piece_lt {text : List UInt8} {fr p : Nat} (h1 : fr ≤ p) (h2 : p ≤ text.length) (h3 : p - fr ≤ 4) (hd : ∀ j, fr ≤ j → j < p → isD (text.getD j 0) = true) : pieceV text fr p < 10000 := by
  unfold pieceV
  refine Nat.lt_of_lt_of_le (valD_lt (p - fr) _ (by rw [List.length_take, List.length_drop]; omega) (fun b hb => ?_)) (Nat.le_trans (Nat.pow_le_pow_right (by omega) h3) (by decide))
  obtain ⟨i, hi, rfl⟩ := List.getElem_of_mem hb
  rw [List.length_take, List.length_drop] at hi
  have := hd (fr + i) (by omega) (by omega)
  rw [getD_eq2 (by omega)] at this
  rw [List.getElem_take, List.getElem_drop]
  exact this
set_option maxRecDepth 100000 in
set_option maxHeartbeats 16000000 in
theorem specNum (R fr most : Nat) (text : List UInt8) (ns : List NodeD) (w : World) (h : Sr w R text fr ns) (hl : text.length ≤ 1000) (hp : fr ≤ text.length) (h1 : 1 ≤ most) (h4 : most ≤ 4) :
    Calls Tryz.prog 96 #[.pointer (some ⟨R, 0, none⟩), .int .i64 (most : Int)] w fun e w' => ∃ k, numAt2 most text fr k ∧ e = .returned (.tuple #[.int .i64 (pieceV text fr (fr + k) : Int), .bool (numOk text fr k)]) ∧ Sr w' R text (fr + k) ns ∧ Below R w w' := by
  obtain ⟨c0, c1, f1, f2, a, cap, c2, ho⟩ := h.c
  have e1 : (str text).size = text.length := str_size text
  have HR := hid h
  clear h ho
  go_enter Tryz.func96, Tryz.ntmps96
  go_wp2
  go_loopw [6] (fun v wr => ∃ p : Nat, fr ≤ p ∧ p ≤ text.length ∧ p - fr ≤ most ∧ v = .int .i64 (pieceV text fr p : Int) ∧ Hid (∀ j, fr ≤ j → j < p → isD (text.getD j 0) = true) ∧ Hid (Sr wr R text p ns) ∧ Hid (Below R w wr) ∧ wr.cell? ⟨R, 0, none⟩ = some (.string (str text)) ∧ wr.cell? ⟨R, 1, none⟩ = some (.int .i64 (p : Int)) ∧ wr.frozen? ⟨R, 1, none⟩ = false) (fun _ wr => text.length - (match wr.cell? ⟨R, 1, none⟩ with | some v => (intOf v).toNat | none => 0))
  case atStart => exact ⟨fr, Nat.le_refl _, hp, by omega, by simp [pieceV, valD], hid (fun j h h2 => by omega), HR, hid (Below.refl _ _), c0, c1, f1⟩
  case round =>
    obtain ⟨p, hp1, hp2, hp3, rfl, HD, HS, HB, c0, c1, f1⟩ := hrel
    have hpv := piece_lt hp1 hp2 (by omega) HD.out
    have b1 : (0 : Int) ≤ (pieceV text fr p : Int) := by omega
    have b2 : (pieceV text fr p : Int) ≤ 10000 := by omega
    have g1 : (fr : Int) ≤ (p : Int) := by omega
    have hwr : IntKind.i64.wrap ((p : Int) - (fr : Int)) = (p : Int) - (fr : Int) := IntWalk.i64_in _ (by omega)
    have hEX : Hid (∀ (e : Ending) (w' : World), numAt2 most text fr (p - fr) → e = .returned (.tuple #[.int .i64 (pieceV text fr p : Int), .bool (numOk text fr (p - fr))]) → Sr w' R text p ns → Below R w w' → ∃ k, numAt2 most text fr k ∧ e = .returned (.tuple #[.int .i64 (pieceV text fr (fr + k) : Int), .bool (numOk text fr k)]) ∧ Sr w' R text (fr + k) ns ∧ Below R w w') := hid (fun e w' h1 h2 h3 h4 => ⟨p - fr, h1, by rw [show fr + (p - fr) = p by omega]; exact h2, by rw [show fr + (p - fr) = p by omega]; exact h3, h4⟩)
    by_cases hlt : p < text.length
    · have q1 : (p : Int) < (text.length : Int) := by omega
      have hps : p < (str text).size := by omega
      have hx := str_getD hps
      by_cases x1 : 48 ≤ (text.getD p 0).toNat
      · by_cases x2 : (text.getD p 0).toNat ≤ 57
        · have u1 : (48 : Int) ≤ (((str text)[p]'hps).toNat : Int) := by omega
          have u2 : (((str text)[p]'hps).toNat : Int) ≤ 57 := by omega
          by_cases x3 : p - fr < most
          · have u3 : (p : Int) - (fr : Int) < (most : Int) := by omega
            have HP1 := hid (piece_step hp1 hlt)
            have HD2 : Hid (∀ j, fr ≤ j → j < p + 1 → isD (text.getD j 0) = true) := hid (fun j h5 h6 => by
              by_cases e : j = p
              · rw [e]; exact isD_of x1 x2
              · exact HD.out j h5 (by omega))
            have HX := hid hx
            have HXX := hid (And.intro x1 x2)
            have hp3' : p + 1 - fr ≤ most := by omega
            clear hx x1 x2 x3 hEX
            generalize pieceV text fr p = vp at *
            go_wp2
            go_quiet (fail)
            go_wp2
            go_quiet (fail)
            go_wp2
            exact ⟨⟨p + 1, by omega, by omega, hp3', by rw [HP1.out]; congr 1; have := HX.out; have := HXX.out; omega, HD2, hid ((HS.out.drewN _).setPos (p + 1) _ (by simp)), hid ((Ints.below_drewN HB.out _).setCell (Nat.le_refl _) _), ((World.cell?_setCell_other (wr.drewN _) _ _ _ (by simp)).trans c0), ((World.cell?_setCell_same (wr.drewN _) _ _ c1).trans (by simp)), (by rw [World.frozen?_setCell]; exact f1)⟩, (by rw [World.cell?_setCell_same (wr.drewN _) _ _ c1, c1]; simp only [intOf]; omega)⟩
          · have u3 : decide ((p : Int) - (fr : Int) < (most : Int)) = false := decide_eq_false (by omega)
            have HNA : Hid (numAt2 most text fr (p - fr)) := hid ⟨hp3, by omega, fun j h5 h6 => HD.out j h5 (by omega), .inr (.inr (by omega))⟩
            have y1' : fr < p := by omega
            clear hx x1 x2 x3
            go_wp2
            go_quiet (fail)
            go_wp2
            by_cases y1 : fr < p
            · have v1 : (fr : Int) < (p : Int) := by omega
              have v0 : (fr : Int) < (text.length : Int) := by omega
              have hfs : fr < (str text).size := by omega
              have hfx := str_getD hfs
              by_cases y2 : (text.getD fr 0).toNat = 48
              · have v2b : ((((str text)[fr]'hfs).toNat : Int) == 48) = true := beq_iff_eq.2 (by omega)
                have v2 : ((((str text)[fr]'hfs).toNat : Int) != 48) = false := by rw [bne, v2b]; rfl
                have y2b : text.getD fr 0 = 48 := UInt8.toNat_inj.1 y2
                have hw1 : IntKind.i64.wrap ((fr : Int) + 1) = (fr : Int) + 1 := IntWalk.i64_in _ (by omega)
                cases v3 : ((p : Int) == (fr : Int) + 1)
                · have HOK : Hid (numOk text fr (p - fr) = false) := hid (by have := beq_eq_false_iff_ne.1 v3; unfold numOk; rw [y2b]; simp; omega)
                  clear hfx y2 y2b
                  go_quiet (fail)
                  go_wp2
                  go_ret2
                  exact hEX.out _ _ HNA.out (by rw [HOK.out]; rfl) ((HS.out.drewN _).drewN _) (Ints.below_drewN (Ints.below_drewN HB.out _) _)
                · have HOK : Hid (numOk text fr (p - fr) = true) := hid (by have := beq_iff_eq.1 v3; unfold numOk; rw [y2b]; simp; omega)
                  clear hfx y2 y2b
                  go_quiet (fail)
                  go_wp2
                  go_ret2
                  exact hEX.out _ _ HNA.out (by rw [HOK.out]; rfl) ((HS.out.drewN _).drewN _) (Ints.below_drewN (Ints.below_drewN HB.out _) _)
              · have v2b : ((((str text)[fr]'hfs).toNat : Int) == 48) = false := beq_eq_false_iff_ne.2 (by omega)
                have v2 : ((((str text)[fr]'hfs).toNat : Int) != 48) = true := by rw [bne, v2b]; rfl
                have y2b : (text.getD fr 0 == 48) = false := beq_eq_false_iff_ne.2 (fun e => y2 (by rw [e]; rfl))
                have HOK : Hid (numOk text fr (p - fr) = true) := hid (by unfold numOk; rw [y2b]; simp; omega)
                clear hfx y2 y2b
                go_quiet (fail)
                go_wp2
                go_ret2
                exact hEX.out _ _ HNA.out (by rw [HOK.out]; rfl) ((HS.out.drewN _).drewN _) (Ints.below_drewN (Ints.below_drewN HB.out _) _)
            · exact absurd y1' y1
        · have u1 : (48 : Int) ≤ (((str text)[p]'hps).toNat : Int) := by omega
          have u2 : decide ((((str text)[p]'hps).toNat : Int) ≤ 57) = false := decide_eq_false (by omega)
          have HNA : Hid (numAt2 most text fr (p - fr)) := hid ⟨hp3, by omega, fun j h5 h6 => HD.out j h5 (by omega), .inr (.inl (by rw [show fr + (p - fr) = p by omega]; exact isD_no (by omega)))⟩
          clear hx x1 x2
          go_wp2
          go_quiet (fail)
          go_wp2
          by_cases y1 : fr < p
          · have v1 : (fr : Int) < (p : Int) := by omega
            have v0 : (fr : Int) < (text.length : Int) := by omega
            have hfs : fr < (str text).size := by omega
            have hfx := str_getD hfs
            by_cases y2 : (text.getD fr 0).toNat = 48
            · have v2b : ((((str text)[fr]'hfs).toNat : Int) == 48) = true := beq_iff_eq.2 (by omega)
              have v2 : ((((str text)[fr]'hfs).toNat : Int) != 48) = false := by rw [bne, v2b]; rfl
              have y2b : text.getD fr 0 = 48 := UInt8.toNat_inj.1 y2
              have hw1 : IntKind.i64.wrap ((fr : Int) + 1) = (fr : Int) + 1 := IntWalk.i64_in _ (by omega)
              cases v3 : ((p : Int) == (fr : Int) + 1)
              · have HOK : Hid (numOk text fr (p - fr) = false) := hid (by have := beq_eq_false_iff_ne.1 v3; unfold numOk; rw [y2b]; simp; omega)
                clear hfx y2 y2b
                go_quiet (fail)
                go_wp2
                go_ret2
                exact hEX.out _ _ HNA.out (by rw [HOK.out]; rfl) ((HS.out.drewN _).drewN _) (Ints.below_drewN (Ints.below_drewN HB.out _) _)
              · have HOK : Hid (numOk text fr (p - fr) = true) := hid (by have := beq_iff_eq.1 v3; unfold numOk; rw [y2b]; simp; omega)
                clear hfx y2 y2b
                go_quiet (fail)
                go_wp2
                go_ret2
                exact hEX.out _ _ HNA.out (by rw [HOK.out]; rfl) ((HS.out.drewN _).drewN _) (Ints.below_drewN (Ints.below_drewN HB.out _) _)
            · have v2b : ((((str text)[fr]'hfs).toNat : Int) == 48) = false := beq_eq_false_iff_ne.2 (by omega)
              have v2 : ((((str text)[fr]'hfs).toNat : Int) != 48) = true := by rw [bne, v2b]; rfl
              have y2b : (text.getD fr 0 == 48) = false := beq_eq_false_iff_ne.2 (fun e => y2 (by rw [e]; rfl))
              have HOK : Hid (numOk text fr (p - fr) = true) := hid (by unfold numOk; rw [y2b]; simp; omega)
              clear hfx y2 y2b
              go_quiet (fail)
              go_wp2
              go_ret2
              exact hEX.out _ _ HNA.out (by rw [HOK.out]; rfl) ((HS.out.drewN _).drewN _) (Ints.below_drewN (Ints.below_drewN HB.out _) _)
          · have v1 : decide ((fr : Int) < (p : Int)) = false := decide_eq_false (by omega)
            have HOK : Hid (numOk text fr (p - fr) = false) := hid (by unfold numOk; simp; omega)
            go_quiet (fail)
            go_wp2
            go_ret2
            exact hEX.out _ _ HNA.out (by rw [HOK.out]; rfl) ((HS.out.drewN _).drewN _) (Ints.below_drewN (Ints.below_drewN HB.out _) _)
      · have u1 : decide ((48 : Int) ≤ (((str text)[p]'hps).toNat : Int)) = false := decide_eq_false (by omega)
        have HNA : Hid (numAt2 most text fr (p - fr)) := hid ⟨hp3, by omega, fun j h5 h6 => HD.out j h5 (by omega), .inr (.inl (by rw [show fr + (p - fr) = p by omega]; exact isD_no (by omega)))⟩
        clear hx x1
        go_wp2
        go_quiet (fail)
        go_wp2
        by_cases y1 : fr < p
        · have v1 : (fr : Int) < (p : Int) := by omega
          have v0 : (fr : Int) < (text.length : Int) := by omega
          have hfs : fr < (str text).size := by omega
          have hfx := str_getD hfs
          by_cases y2 : (text.getD fr 0).toNat = 48
          · have v2b : ((((str text)[fr]'hfs).toNat : Int) == 48) = true := beq_iff_eq.2 (by omega)
            have v2 : ((((str text)[fr]'hfs).toNat : Int) != 48) = false := by rw [bne, v2b]; rfl
            have y2b : text.getD fr 0 = 48 := UInt8.toNat_inj.1 y2
            have hw1 : IntKind.i64.wrap ((fr : Int) + 1) = (fr : Int) + 1 := IntWalk.i64_in _ (by omega)
            cases v3 : ((p : Int) == (fr : Int) + 1)
            · have HOK : Hid (numOk text fr (p - fr) = false) := hid (by have := beq_eq_false_iff_ne.1 v3; unfold numOk; rw [y2b]; simp; omega)
              clear hfx y2 y2b
              go_quiet (fail)
              go_wp2
              go_ret2
              exact hEX.out _ _ HNA.out (by rw [HOK.out]; rfl) ((HS.out.drewN _).drewN _) (Ints.below_drewN (Ints.below_drewN HB.out _) _)
            · have HOK : Hid (numOk text fr (p - fr) = true) := hid (by have := beq_iff_eq.1 v3; unfold numOk; rw [y2b]; simp; omega)
              clear hfx y2 y2b
              go_quiet (fail)
              go_wp2
              go_ret2
              exact hEX.out _ _ HNA.out (by rw [HOK.out]; rfl) ((HS.out.drewN _).drewN _) (Ints.below_drewN (Ints.below_drewN HB.out _) _)
          · have v2b : ((((str text)[fr]'hfs).toNat : Int) == 48) = false := beq_eq_false_iff_ne.2 (by omega)
            have v2 : ((((str text)[fr]'hfs).toNat : Int) != 48) = true := by rw [bne, v2b]; rfl
            have y2b : (text.getD fr 0 == 48) = false := beq_eq_false_iff_ne.2 (fun e => y2 (by rw [e]; rfl))
            have HOK : Hid (numOk text fr (p - fr) = true) := hid (by unfold numOk; rw [y2b]; simp; omega)
            clear hfx y2 y2b
            go_quiet (fail)
            go_wp2
            go_ret2
            exact hEX.out _ _ HNA.out (by rw [HOK.out]; rfl) ((HS.out.drewN _).drewN _) (Ints.below_drewN (Ints.below_drewN HB.out _) _)
        · have v1 : decide ((fr : Int) < (p : Int)) = false := decide_eq_false (by omega)
          have HOK : Hid (numOk text fr (p - fr) = false) := hid (by unfold numOk; simp; omega)
          go_quiet (fail)
          go_wp2
          go_ret2
          exact hEX.out _ _ HNA.out (by rw [HOK.out]; rfl) ((HS.out.drewN _).drewN _) (Ints.below_drewN (Ints.below_drewN HB.out _) _)
    · have q1 : decide ((p : Int) < (text.length : Int)) = false := decide_eq_false (by omega)
      have HNA : Hid (numAt2 most text fr (p - fr)) := hid ⟨hp3, by omega, fun j h5 h6 => HD.out j h5 (by omega), .inl (by omega)⟩
      go_wp2
      go_quiet (fail)
      go_wp2
      by_cases y1 : fr < p
      · have v1 : (fr : Int) < (p : Int) := by omega
        have v0 : (fr : Int) < (text.length : Int) := by omega
        have hfs : fr < (str text).size := by omega
        have hfx := str_getD hfs
        by_cases y2 : (text.getD fr 0).toNat = 48
        · have v2b : ((((str text)[fr]'hfs).toNat : Int) == 48) = true := beq_iff_eq.2 (by omega)
          have v2 : ((((str text)[fr]'hfs).toNat : Int) != 48) = false := by rw [bne, v2b]; rfl
          have y2b : text.getD fr 0 = 48 := UInt8.toNat_inj.1 y2
          have hw1 : IntKind.i64.wrap ((fr : Int) + 1) = (fr : Int) + 1 := IntWalk.i64_in _ (by omega)
          cases v3 : ((p : Int) == (fr : Int) + 1)
          · have HOK : Hid (numOk text fr (p - fr) = false) := hid (by have := beq_eq_false_iff_ne.1 v3; unfold numOk; rw [y2b]; simp; omega)
            clear hfx y2 y2b
            go_quiet (fail)
            go_wp2
            go_ret2
            exact hEX.out _ _ HNA.out (by rw [HOK.out]; rfl) ((HS.out.drewN _).drewN _) (Ints.below_drewN (Ints.below_drewN HB.out _) _)
          · have HOK : Hid (numOk text fr (p - fr) = true) := hid (by have := beq_iff_eq.1 v3; unfold numOk; rw [y2b]; simp; omega)
            clear hfx y2 y2b
            go_quiet (fail)
            go_wp2
            go_ret2
            exact hEX.out _ _ HNA.out (by rw [HOK.out]; rfl) ((HS.out.drewN _).drewN _) (Ints.below_drewN (Ints.below_drewN HB.out _) _)
        · have v2b : ((((str text)[fr]'hfs).toNat : Int) == 48) = false := beq_eq_false_iff_ne.2 (by omega)
          have v2 : ((((str text)[fr]'hfs).toNat : Int) != 48) = true := by rw [bne, v2b]; rfl
          have y2b : (text.getD fr 0 == 48) = false := beq_eq_false_iff_ne.2 (fun e => y2 (by rw [e]; rfl))
          have HOK : Hid (numOk text fr (p - fr) = true) := hid (by unfold numOk; rw [y2b]; simp; omega)
          clear hfx y2 y2b
          go_quiet (fail)
          go_wp2
          go_ret2
          exact hEX.out _ _ HNA.out (by rw [HOK.out]; rfl) ((HS.out.drewN _).drewN _) (Ints.below_drewN (Ints.below_drewN HB.out _) _)
      · have v1 : decide ((fr : Int) < (p : Int)) = false := decide_eq_false (by omega)
        have HOK : Hid (numOk text fr (p - fr) = false) := hid (by unfold numOk; simp; omega)
        go_quiet (fail)
        go_wp2
        go_ret2
        exact hEX.out _ _ HNA.out (by rw [HOK.out]; rfl) ((HS.out.drewN _).drewN _) (Ints.below_drewN (Ints.below_drewN HB.out _) _)
end Ex
end Go.Proofs.YtahkpgffoiaeiaaGreatDoor
