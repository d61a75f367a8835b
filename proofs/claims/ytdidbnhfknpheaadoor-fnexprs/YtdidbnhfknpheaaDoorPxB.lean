/- The program's reading: takeByte, takeSign. -/
import Derived.Test.YtdidbnhfknpheaaDoorPxA
namespace Go.Proofs.YtdidbnhfknpheaaDoor
open Go.RowKit
set_option linter.unusedVariables false
namespace Ex
open Nd (NodeD)
theorem Rd.c0 {w : World} {R : Nat} {rest : List UInt8} {ns : List NodeD} (h : Rd w R rest ns) : w.cell? ⟨R, 0, none⟩ = some (.string (str rest)) ∧ w.frozen? ⟨R, 0, none⟩ = false ∧ w.frozen? ⟨R, 1, none⟩ = false ∧ ∃ a cap, w.cell? ⟨R, 1, none⟩ = some (.slice a ns.length cap) := by
  obtain ⟨v, h1, h2⟩ := h
  obtain ⟨a, cap, rfl⟩ := own4_slice h2
  exact ⟨by simp [World.cell?, h1], by simp [World.frozen?, h1], by simp [World.frozen?, h1], a, cap, by simp [World.cell?, h1]⟩
set_option maxRecDepth 100000 in
set_option maxHeartbeats 1000000 in
theorem takeYes (R : Nat) (b : UInt8) (r : List UInt8) (ns : List NodeD) (w : World) (h : Rd w R (b :: r) ns) (hl : r.length ≤ 1000) :
    Calls Tryd.prog 25 #[.pointer (some ⟨R, 0, none⟩), .int .u8 (b.toNat : Int)] w fun e w' => e = .returned (.bool true) ∧ Rd w' R r ns ∧ Below R w w' := by
  obtain ⟨c0, f0, f1, a, cap, c1⟩ := h.c0
  have HR := hid (h.setRest r)
  have HB : Hid (Below R w (w.setCell ⟨R, 0, none⟩ (.string (str r)))) := hid ((Below.refl R w).setCell (Nat.le_refl _) _)
  have e1 : (str (b :: r)).toList.isEmpty = false := by rw [str_toList]; rfl
  have e2 : (str (b :: r)).size = r.length + 1 := by rw [str_size]; rfl
  have h0 : 0 < (str (b :: r)).size := by omega
  have e3 : ((((str (b :: r))[0]'h0).toNat : Int) != (b.toNat : Int)) = false := by
    have : (str (b :: r))[0]'h0 = b := rfl
    rw [this]; simp
  have HX : Hid ((str (b :: r)).extract 1 (r.length + 1) = str r) := hid (by have := extract_str b r; rwa [str_size] at this)
  have q : (1 : Int) ≤ (r.length : Int) + 1 := by omega
  clear h
  generalize str (b :: r) = sb at *
  go_enter Tryd.func25, Tryd.ntmps25
  go_wp2
  rw [HX.out]
  go_ret
  exact ⟨rfl, HR.out, HB.out⟩
set_option maxRecDepth 100000 in
set_option maxHeartbeats 1000000 in
theorem takeNo (R : Nat) (b : UInt8) (rest : List UInt8) (ns : List NodeD) (w : World) (h : Rd w R rest ns) (hl : rest.length ≤ 1000) (hn : ∀ r, rest ≠ b :: r) :
    Calls Tryd.prog 25 #[.pointer (some ⟨R, 0, none⟩), .int .u8 (b.toNat : Int)] w fun e w' => e = .returned (.bool false) ∧ w' = w := by
  obtain ⟨c0, f0, f1, a, cap, c1⟩ := h.c0
  cases rest with
  | nil =>
    have e1 : (str []).toList.isEmpty = true := by rw [str_toList]; rfl
    clear h hn
    generalize str [] = sb at *
    go_enter Tryd.func25, Tryd.ntmps25
    go_wp2
    go_ret
    exact ⟨rfl, rfl⟩
  | cons c r =>
    have hcb : c ≠ b := fun e => hn r (by rw [e])
    have e1 : (str (c :: r)).toList.isEmpty = false := by rw [str_toList]; rfl
    have e2 : (str (c :: r)).size = r.length + 1 := by rw [str_size]; rfl
    have h0 : 0 < (str (c :: r)).size := by omega
    have e3 : ((((str (c :: r))[0]'h0).toNat : Int) != (b.toNat : Int)) = true := by
      have : (str (c :: r))[0]'h0 = c := rfl
      rw [this]
      simp only [bne_iff_ne, ne_eq]
      intro e
      exact hcb (UInt8.toNat_inj.1 (by omega))
    clear h hn hcb hl
    generalize str (c :: r) = sb at *
    go_enter Tryd.func25, Tryd.ntmps25
    go_wp2
    go_ret
    exact ⟨rfl, rfl⟩
def sgs : List UInt8 := [43, 45, 42, 47, 60, 61, 38]
theorem kind_at {i : Nat} (h : i < 7) : kindOf (sgs.getD i 0) = some (3 + (i : Int)) := by
  have : i = 0 ∨ i = 1 ∨ i = 2 ∨ i = 3 ∨ i = 4 ∨ i = 5 ∨ i = 6 := by omega
  rcases this with rfl | rfl | rfl | rfl | rfl | rfl | rfl <;> decide
theorem kind_no {b : UInt8} (h : ∀ i, i < 7 → b ≠ sgs.getD i 0) : kindOf b = none := by
  unfold kindOf
  rw [if_neg (show b ≠ 43 from h 0 (by omega)), if_neg (show b ≠ 45 from h 1 (by omega)), if_neg (show b ≠ 42 from h 2 (by omega)), if_neg (show b ≠ 47 from h 3 (by omega)), if_neg (show b ≠ 60 from h 4 (by omega)), if_neg (show b ≠ 61 from h 5 (by omega)), if_neg (show b ≠ 38 from h 6 (by omega))]
theorem sg_index : ∀ {i : Nat}, i < 7 → ∀ (w : World), Sem.run Tryd.prog (Instr.index 9 (.string ⟨#[43, 45, 42, 47, 60, 61, 38]⟩) (.int .i64 (i : Int))) w = .ok (.int .u8 ((sgs.getD i 0).toNat : Int)) w
  | 0, _, w => by kernel_rfl
  | 1, _, w => by kernel_rfl
  | 2, _, w => by kernel_rfl
  | 3, _, w => by kernel_rfl
  | 4, _, w => by kernel_rfl
  | 5, _, w => by kernel_rfl
  | 6, _, w => by kernel_rfl
  | n + 7, h, w => by omega
/-- What a sign is taken for. -/
def signF (rest : List UInt8) : Option (Int × List UInt8) := match rest with
  | [] => none
  | s :: r => (kindOf s).map fun k => (k, r)
set_option maxRecDepth 100000 in
set_option maxHeartbeats 2000000 in
theorem takeSign (R : Nat) (rest : List UInt8) (ns : List NodeD) (w : World) (h : Rd w R rest ns) (hl : rest.length ≤ 1000) :
    Calls Tryd.prog 38 #[.pointer (some ⟨R, 0, none⟩)] w fun e w' => (∃ k r, signF rest = some (k, r) ∧ e = .returned (.tuple #[.int .i64 k, .bool true]) ∧ Rd w' R r ns ∧ Below R w w') ∨ (signF rest = none ∧ e = .returned (.tuple #[.int .i64 0, .bool false]) ∧ w' = w) := by
  have HR := hid h
  clear h
  go_enter Tryd.func38, Tryd.ntmps38
  go_wp2
  go_loop [4, 5] (fun _ x => ∃ i : Nat, x = .int .i64 i ∧ i ≤ 7 ∧ Hid (∀ j, j < i → ∀ r, rest ≠ sgs.getD j 0 :: r)) (fun _ x => 7 - (intOf x).toNat)
  case atStart => exact ⟨0, rfl, by omega, hid (fun j h => by omega)⟩
  case round =>
    obtain ⟨i, rfl, hi, HJ⟩ := hrel
    by_cases hlt : i < 7
    · have q1 : (i : Int) < 7 := by omega
      have hix := sg_index hlt
      have HK := hid (kind_at hlt)
      have HY := hid (takeYes R (sgs.getD i 0))
      have HN := hid (takeNo R (sgs.getD i 0) rest ns w HR.out hl)
      generalize hsb : sgs.getD i 0 = sb at *
      have HSB := hid hsb
      clear hsb
      by_cases hh : ∃ r, rest = sb :: r
      · obtain ⟨r, rfl⟩ := hh
        have HC := hid (HY.out r ns w HR.out (by simp at hl; omega))
        have HV : Hid (signF (sb :: r) = some (3 + (i : Int), r)) := hid (by simp only [signF]; rw [HK.out]; rfl)
        clear HY HN HK
        go_wp2_with fail
        refine HC.out.mono ?_
        rintro e w1 ⟨rfl, hr1, hb1⟩
        have HR1 := hid hr1
        clear hr1
        go_wp2
        go_ret2
        exact .inl ⟨_, _, HV.out, rfl, HR1.out, hb1⟩
      · have HC := hid (HN.out (fun r e => hh ⟨r, e⟩))
        have HJ2 : Hid (∀ r, rest ≠ sb :: r) := hid (fun r e => hh ⟨r, e⟩)
        clear HY HN HK hh
        go_wp2_with fail
        refine HC.out.mono ?_
        rintro e w1 ⟨rfl, rfl⟩
        go_wp2
        refine ⟨⟨i + 1, by simp, by omega, hid (fun j hj => ?_)⟩, by simp [intOf]; omega⟩
        by_cases e : j = i
        · rw [e, HSB.out]; exact HJ2.out
        · exact HJ.out j (by omega)
    · have HV : Hid (signF rest = none) := hid (by
        cases rest with
        | nil => rfl
        | cons c r =>
          simp only [signF]
          rw [kind_no (fun j hj e => HJ.out j (by omega) r (by rw [e]))]
          rfl)
      go_wp2
      go_ret2
      exact .inr ⟨HV.out, rfl, rfl⟩
end Ex
end Go.Proofs.YtdidbnhfknpheaaDoor
