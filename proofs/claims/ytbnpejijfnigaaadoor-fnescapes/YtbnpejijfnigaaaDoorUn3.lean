/- What the program's readNamed answers. Condition: the table of entities lies as its initialiser lays it. -/
import Derived.Test.YtbnpejijfnigaaaDoorUn2
import Derived.Deep.QuietTactic
import Derived.BigQuiet
namespace Go.Proofs.YtbnpejijfnigaaaDoor
open Go.Shelf Go.RowKit
set_option linter.unusedVariables false
namespace Un
open Esc
theorem below_drewN {B : Nat} {a w : World} (h : Below B a w) (n : Nat) : Below B a (w.drewN n) := ⟨h.os, h.tape, h.output, h.size, h.block⟩
set_option maxHeartbeats 1000000 in
theorem readNamed0 (s : ByteArray) (w : World) (he : Ent w) (p0 : Lib.hasPrefix s.data.toList (⟨#[38, 108, 116, 59]⟩ : ByteArray).data.toList = true) :
    Calls Tryd.prog 27 #[.string s] w fun e w' => e = .returned (.tuple #[.int .u8 60, .int .i64 4]) ∧ Below w.heap.size w w' := by
  have e0 := he 0 (by decide); have e1 := he 1 (by decide); have e2 := he 2 (by decide); have e3 := he 3 (by decide); have e4 := he 4 (by decide)
  have e5 := he 5 (by decide); have e6 := he 6 (by decide); have e7 := he 7 (by decide); have e8 := he 8 (by decide); have e9 := he 9 (by decide)
  have e10 := he 10 (by decide); have e11 := he 11 (by decide); have e12 := he 12 (by decide); have e13 := he 13 (by decide); have e14 := he 14 (by decide)
  simp only [entVals, List.getElem?_cons_zero, List.getElem?_cons_succ] at e0 e1 e2 e3 e4 e5 e6 e7 e8 e9 e10 e11 e12 e13 e14
  clear he
  have i0 := idx0; have i1 := idx1; have i2 := idx2; have i3 := idx3; have i4 := idx4
  simp only [entArr] at i0 i1 i2 i3 i4
  have P0 := hid p0
  clear p0
  go_enter Tryd.func27, Tryd.ntmps27
  go_wp2_with fail
  refine wp_loop_rounds 6 ?_
  rw [rounds_succ]
  go_wp2_with fail
  refine (Tryd.strings_HasPrefix s _ _).mono ?_
  rintro e w0 ⟨rfl, hw0⟩
  rw [P0.out]
  subst hw0
  go_wp2_with fail
  go_quiet (fail)
  go_wp2
  go_ret2
  exact ⟨rfl, below_drewN ((Below.refl _ w).alloc (by simp; try omega) _) _⟩
set_option maxHeartbeats 1000000 in
theorem readNamed1 (s : ByteArray) (w : World) (he : Ent w) (p0 : Lib.hasPrefix s.data.toList (⟨#[38, 108, 116, 59]⟩ : ByteArray).data.toList = false) (p1 : Lib.hasPrefix s.data.toList (⟨#[38, 103, 116, 59]⟩ : ByteArray).data.toList = true) :
    Calls Tryd.prog 27 #[.string s] w fun e w' => e = .returned (.tuple #[.int .u8 62, .int .i64 4]) ∧ Below w.heap.size w w' := by
  have e0 := he 0 (by decide); have e1 := he 1 (by decide); have e2 := he 2 (by decide); have e3 := he 3 (by decide); have e4 := he 4 (by decide)
  have e5 := he 5 (by decide); have e6 := he 6 (by decide); have e7 := he 7 (by decide); have e8 := he 8 (by decide); have e9 := he 9 (by decide)
  have e10 := he 10 (by decide); have e11 := he 11 (by decide); have e12 := he 12 (by decide); have e13 := he 13 (by decide); have e14 := he 14 (by decide)
  simp only [entVals, List.getElem?_cons_zero, List.getElem?_cons_succ] at e0 e1 e2 e3 e4 e5 e6 e7 e8 e9 e10 e11 e12 e13 e14
  clear he
  have i0 := idx0; have i1 := idx1; have i2 := idx2; have i3 := idx3; have i4 := idx4
  simp only [entArr] at i0 i1 i2 i3 i4
  have P0 := hid p0
  clear p0
  have P1 := hid p1
  clear p1
  go_enter Tryd.func27, Tryd.ntmps27
  go_wp2_with fail
  refine wp_loop_rounds 6 ?_
  rw [rounds_succ]
  go_wp2_with fail
  refine (Tryd.strings_HasPrefix s _ _).mono ?_
  rintro e w0 ⟨rfl, hw0⟩
  rw [P0.out]
  subst hw0
  go_wp2_with fail
  rw [rounds_succ]
  go_wp2_with fail
  refine (Tryd.strings_HasPrefix s _ _).mono ?_
  rintro e w1 ⟨rfl, hw1⟩
  rw [P1.out]
  subst hw1
  go_wp2_with fail
  go_quiet (fail)
  go_wp2
  go_ret2
  exact ⟨rfl, below_drewN (((Below.refl _ w).alloc (by simp; try omega) _).alloc (by simp; try omega) _) _⟩
set_option maxHeartbeats 1000000 in
theorem readNamed2 (s : ByteArray) (w : World) (he : Ent w) (p0 : Lib.hasPrefix s.data.toList (⟨#[38, 108, 116, 59]⟩ : ByteArray).data.toList = false) (p1 : Lib.hasPrefix s.data.toList (⟨#[38, 103, 116, 59]⟩ : ByteArray).data.toList = false) (p2 : Lib.hasPrefix s.data.toList (⟨#[38, 97, 109, 112, 59]⟩ : ByteArray).data.toList = true) :
    Calls Tryd.prog 27 #[.string s] w fun e w' => e = .returned (.tuple #[.int .u8 38, .int .i64 5]) ∧ Below w.heap.size w w' := by
  have e0 := he 0 (by decide); have e1 := he 1 (by decide); have e2 := he 2 (by decide); have e3 := he 3 (by decide); have e4 := he 4 (by decide)
  have e5 := he 5 (by decide); have e6 := he 6 (by decide); have e7 := he 7 (by decide); have e8 := he 8 (by decide); have e9 := he 9 (by decide)
  have e10 := he 10 (by decide); have e11 := he 11 (by decide); have e12 := he 12 (by decide); have e13 := he 13 (by decide); have e14 := he 14 (by decide)
  simp only [entVals, List.getElem?_cons_zero, List.getElem?_cons_succ] at e0 e1 e2 e3 e4 e5 e6 e7 e8 e9 e10 e11 e12 e13 e14
  clear he
  have i0 := idx0; have i1 := idx1; have i2 := idx2; have i3 := idx3; have i4 := idx4
  simp only [entArr] at i0 i1 i2 i3 i4
  have P0 := hid p0
  clear p0
  have P1 := hid p1
  clear p1
  have P2 := hid p2
  clear p2
  go_enter Tryd.func27, Tryd.ntmps27
  go_wp2_with fail
  refine wp_loop_rounds 6 ?_
  rw [rounds_succ]
  go_wp2_with fail
  refine (Tryd.strings_HasPrefix s _ _).mono ?_
  rintro e w0 ⟨rfl, hw0⟩
  rw [P0.out]
  subst hw0
  go_wp2_with fail
  rw [rounds_succ]
  go_wp2_with fail
  refine (Tryd.strings_HasPrefix s _ _).mono ?_
  rintro e w1 ⟨rfl, hw1⟩
  rw [P1.out]
  subst hw1
  go_wp2_with fail
  rw [rounds_succ]
  go_wp2_with fail
  refine (Tryd.strings_HasPrefix s _ _).mono ?_
  rintro e w2 ⟨rfl, hw2⟩
  rw [P2.out]
  subst hw2
  go_wp2_with fail
  go_quiet (fail)
  go_wp2
  go_ret2
  exact ⟨rfl, below_drewN ((((Below.refl _ w).alloc (by simp; try omega) _).alloc (by simp; try omega) _).alloc (by simp; try omega) _) _⟩
set_option maxHeartbeats 1000000 in
theorem readNamed3 (s : ByteArray) (w : World) (he : Ent w) (p0 : Lib.hasPrefix s.data.toList (⟨#[38, 108, 116, 59]⟩ : ByteArray).data.toList = false) (p1 : Lib.hasPrefix s.data.toList (⟨#[38, 103, 116, 59]⟩ : ByteArray).data.toList = false) (p2 : Lib.hasPrefix s.data.toList (⟨#[38, 97, 109, 112, 59]⟩ : ByteArray).data.toList = false) (p3 : Lib.hasPrefix s.data.toList (⟨#[38, 113, 117, 111, 116, 59]⟩ : ByteArray).data.toList = true) :
    Calls Tryd.prog 27 #[.string s] w fun e w' => e = .returned (.tuple #[.int .u8 34, .int .i64 6]) ∧ Below w.heap.size w w' := by
  have e0 := he 0 (by decide); have e1 := he 1 (by decide); have e2 := he 2 (by decide); have e3 := he 3 (by decide); have e4 := he 4 (by decide)
  have e5 := he 5 (by decide); have e6 := he 6 (by decide); have e7 := he 7 (by decide); have e8 := he 8 (by decide); have e9 := he 9 (by decide)
  have e10 := he 10 (by decide); have e11 := he 11 (by decide); have e12 := he 12 (by decide); have e13 := he 13 (by decide); have e14 := he 14 (by decide)
  simp only [entVals, List.getElem?_cons_zero, List.getElem?_cons_succ] at e0 e1 e2 e3 e4 e5 e6 e7 e8 e9 e10 e11 e12 e13 e14
  clear he
  have i0 := idx0; have i1 := idx1; have i2 := idx2; have i3 := idx3; have i4 := idx4
  simp only [entArr] at i0 i1 i2 i3 i4
  have P0 := hid p0
  clear p0
  have P1 := hid p1
  clear p1
  have P2 := hid p2
  clear p2
  have P3 := hid p3
  clear p3
  go_enter Tryd.func27, Tryd.ntmps27
  go_wp2_with fail
  refine wp_loop_rounds 6 ?_
  rw [rounds_succ]
  go_wp2_with fail
  refine (Tryd.strings_HasPrefix s _ _).mono ?_
  rintro e w0 ⟨rfl, hw0⟩
  rw [P0.out]
  subst hw0
  go_wp2_with fail
  rw [rounds_succ]
  go_wp2_with fail
  refine (Tryd.strings_HasPrefix s _ _).mono ?_
  rintro e w1 ⟨rfl, hw1⟩
  rw [P1.out]
  subst hw1
  go_wp2_with fail
  rw [rounds_succ]
  go_wp2_with fail
  refine (Tryd.strings_HasPrefix s _ _).mono ?_
  rintro e w2 ⟨rfl, hw2⟩
  rw [P2.out]
  subst hw2
  go_wp2_with fail
  rw [rounds_succ]
  go_wp2_with fail
  refine (Tryd.strings_HasPrefix s _ _).mono ?_
  rintro e w3 ⟨rfl, hw3⟩
  rw [P3.out]
  subst hw3
  go_wp2_with fail
  go_quiet (fail)
  go_wp2
  go_ret2
  exact ⟨rfl, below_drewN (((((Below.refl _ w).alloc (by simp; try omega) _).alloc (by simp; try omega) _).alloc (by simp; try omega) _).alloc (by simp; try omega) _) _⟩
set_option maxHeartbeats 1000000 in
theorem readNamed4 (s : ByteArray) (w : World) (he : Ent w) (p0 : Lib.hasPrefix s.data.toList (⟨#[38, 108, 116, 59]⟩ : ByteArray).data.toList = false) (p1 : Lib.hasPrefix s.data.toList (⟨#[38, 103, 116, 59]⟩ : ByteArray).data.toList = false) (p2 : Lib.hasPrefix s.data.toList (⟨#[38, 97, 109, 112, 59]⟩ : ByteArray).data.toList = false) (p3 : Lib.hasPrefix s.data.toList (⟨#[38, 113, 117, 111, 116, 59]⟩ : ByteArray).data.toList = false) (p4 : Lib.hasPrefix s.data.toList (⟨#[38, 97, 112, 111, 115, 59]⟩ : ByteArray).data.toList = true) :
    Calls Tryd.prog 27 #[.string s] w fun e w' => e = .returned (.tuple #[.int .u8 39, .int .i64 6]) ∧ Below w.heap.size w w' := by
  have e0 := he 0 (by decide); have e1 := he 1 (by decide); have e2 := he 2 (by decide); have e3 := he 3 (by decide); have e4 := he 4 (by decide)
  have e5 := he 5 (by decide); have e6 := he 6 (by decide); have e7 := he 7 (by decide); have e8 := he 8 (by decide); have e9 := he 9 (by decide)
  have e10 := he 10 (by decide); have e11 := he 11 (by decide); have e12 := he 12 (by decide); have e13 := he 13 (by decide); have e14 := he 14 (by decide)
  simp only [entVals, List.getElem?_cons_zero, List.getElem?_cons_succ] at e0 e1 e2 e3 e4 e5 e6 e7 e8 e9 e10 e11 e12 e13 e14
  clear he
  have i0 := idx0; have i1 := idx1; have i2 := idx2; have i3 := idx3; have i4 := idx4
  simp only [entArr] at i0 i1 i2 i3 i4
  have P0 := hid p0
  clear p0
  have P1 := hid p1
  clear p1
  have P2 := hid p2
  clear p2
  have P3 := hid p3
  clear p3
  have P4 := hid p4
  clear p4
  go_enter Tryd.func27, Tryd.ntmps27
  go_wp2_with fail
  refine wp_loop_rounds 6 ?_
  rw [rounds_succ]
  go_wp2_with fail
  refine (Tryd.strings_HasPrefix s _ _).mono ?_
  rintro e w0 ⟨rfl, hw0⟩
  rw [P0.out]
  subst hw0
  go_wp2_with fail
  rw [rounds_succ]
  go_wp2_with fail
  refine (Tryd.strings_HasPrefix s _ _).mono ?_
  rintro e w1 ⟨rfl, hw1⟩
  rw [P1.out]
  subst hw1
  go_wp2_with fail
  rw [rounds_succ]
  go_wp2_with fail
  refine (Tryd.strings_HasPrefix s _ _).mono ?_
  rintro e w2 ⟨rfl, hw2⟩
  rw [P2.out]
  subst hw2
  go_wp2_with fail
  rw [rounds_succ]
  go_wp2_with fail
  refine (Tryd.strings_HasPrefix s _ _).mono ?_
  rintro e w3 ⟨rfl, hw3⟩
  rw [P3.out]
  subst hw3
  go_wp2_with fail
  rw [rounds_succ]
  go_wp2_with fail
  refine (Tryd.strings_HasPrefix s _ _).mono ?_
  rintro e w4 ⟨rfl, hw4⟩
  rw [P4.out]
  subst hw4
  go_wp2_with fail
  go_quiet (fail)
  go_wp2
  go_ret2
  exact ⟨rfl, below_drewN ((((((Below.refl _ w).alloc (by simp; try omega) _).alloc (by simp; try omega) _).alloc (by simp; try omega) _).alloc (by simp; try omega) _).alloc (by simp; try omega) _) _⟩
set_option maxHeartbeats 1000000 in
theorem readNamed5 (s : ByteArray) (w : World) (he : Ent w) (p0 : Lib.hasPrefix s.data.toList (⟨#[38, 108, 116, 59]⟩ : ByteArray).data.toList = false) (p1 : Lib.hasPrefix s.data.toList (⟨#[38, 103, 116, 59]⟩ : ByteArray).data.toList = false) (p2 : Lib.hasPrefix s.data.toList (⟨#[38, 97, 109, 112, 59]⟩ : ByteArray).data.toList = false) (p3 : Lib.hasPrefix s.data.toList (⟨#[38, 113, 117, 111, 116, 59]⟩ : ByteArray).data.toList = false) (p4 : Lib.hasPrefix s.data.toList (⟨#[38, 97, 112, 111, 115, 59]⟩ : ByteArray).data.toList = false) :
    Calls Tryd.prog 27 #[.string s] w fun e w' => e = .returned (.tuple #[.int .u8 0, .int .i64 0]) ∧ Below w.heap.size w w' := by
  have e0 := he 0 (by decide); have e1 := he 1 (by decide); have e2 := he 2 (by decide); have e3 := he 3 (by decide); have e4 := he 4 (by decide)
  have e5 := he 5 (by decide); have e6 := he 6 (by decide); have e7 := he 7 (by decide); have e8 := he 8 (by decide); have e9 := he 9 (by decide)
  have e10 := he 10 (by decide); have e11 := he 11 (by decide); have e12 := he 12 (by decide); have e13 := he 13 (by decide); have e14 := he 14 (by decide)
  simp only [entVals, List.getElem?_cons_zero, List.getElem?_cons_succ] at e0 e1 e2 e3 e4 e5 e6 e7 e8 e9 e10 e11 e12 e13 e14
  clear he
  have i0 := idx0; have i1 := idx1; have i2 := idx2; have i3 := idx3; have i4 := idx4
  simp only [entArr] at i0 i1 i2 i3 i4
  have P0 := hid p0
  clear p0
  have P1 := hid p1
  clear p1
  have P2 := hid p2
  clear p2
  have P3 := hid p3
  clear p3
  have P4 := hid p4
  clear p4
  go_enter Tryd.func27, Tryd.ntmps27
  go_wp2_with fail
  refine wp_loop_rounds 6 ?_
  rw [rounds_succ]
  go_wp2_with fail
  refine (Tryd.strings_HasPrefix s _ _).mono ?_
  rintro e w0 ⟨rfl, hw0⟩
  rw [P0.out]
  subst hw0
  go_wp2_with fail
  rw [rounds_succ]
  go_wp2_with fail
  refine (Tryd.strings_HasPrefix s _ _).mono ?_
  rintro e w1 ⟨rfl, hw1⟩
  rw [P1.out]
  subst hw1
  go_wp2_with fail
  rw [rounds_succ]
  go_wp2_with fail
  refine (Tryd.strings_HasPrefix s _ _).mono ?_
  rintro e w2 ⟨rfl, hw2⟩
  rw [P2.out]
  subst hw2
  go_wp2_with fail
  rw [rounds_succ]
  go_wp2_with fail
  refine (Tryd.strings_HasPrefix s _ _).mono ?_
  rintro e w3 ⟨rfl, hw3⟩
  rw [P3.out]
  subst hw3
  go_wp2_with fail
  rw [rounds_succ]
  go_wp2_with fail
  refine (Tryd.strings_HasPrefix s _ _).mono ?_
  rintro e w4 ⟨rfl, hw4⟩
  rw [P4.out]
  subst hw4
  go_wp2_with fail
  rw [rounds_succ]
  go_wp2
  go_ret2
  exact ⟨rfl, ((((((Below.refl _ w).alloc (by simp; try omega) _).alloc (by simp; try omega) _).alloc (by simp; try omega) _).alloc (by simp; try omega) _).alloc (by simp; try omega) _)⟩
theorem readNamed (s : ByteArray) (w : World) (he : Ent w) :
    Calls Tryd.prog 27 #[.string s] w fun e w' => ∃ (b : UInt8) (n : Nat), e = .returned (.tuple #[.int .u8 b.toNat, .int .i64 n]) ∧ Reads (named s.data.toList) b n ∧ Below w.heap.size w w' := by
  have hd : ∀ p : List UInt8, Lib.hasPrefix s.data.toList p = p.isPrefixOf s.data.toList := fun _ => rfl
  by_cases h0 : e0.isPrefixOf s.data.toList = true
  · exact (readNamed0 s w he h0).mono fun e w' ⟨h, hb⟩ => ⟨60, 4, h, .inl (by unfold named; rw [if_pos h0]), hb⟩
  by_cases h1 : e1.isPrefixOf s.data.toList = true
  · exact (readNamed1 s w he (by rw [hd]; exact Bool.eq_false_iff.2 h0) h1).mono fun e w' ⟨h, hb⟩ => ⟨62, 4, h, .inl (by unfold named; rw [if_neg h0]; rw [if_pos h1]), hb⟩
  by_cases h2 : e2.isPrefixOf s.data.toList = true
  · exact (readNamed2 s w he (by rw [hd]; exact Bool.eq_false_iff.2 h0) (by rw [hd]; exact Bool.eq_false_iff.2 h1) h2).mono fun e w' ⟨h, hb⟩ => ⟨38, 5, h, .inl (by unfold named; rw [if_neg h0]; rw [if_neg h1]; rw [if_pos h2]), hb⟩
  by_cases h3 : e3.isPrefixOf s.data.toList = true
  · exact (readNamed3 s w he (by rw [hd]; exact Bool.eq_false_iff.2 h0) (by rw [hd]; exact Bool.eq_false_iff.2 h1) (by rw [hd]; exact Bool.eq_false_iff.2 h2) h3).mono fun e w' ⟨h, hb⟩ => ⟨34, 6, h, .inl (by unfold named; rw [if_neg h0]; rw [if_neg h1]; rw [if_neg h2]; rw [if_pos h3]), hb⟩
  by_cases h4 : e4.isPrefixOf s.data.toList = true
  · exact (readNamed4 s w he (by rw [hd]; exact Bool.eq_false_iff.2 h0) (by rw [hd]; exact Bool.eq_false_iff.2 h1) (by rw [hd]; exact Bool.eq_false_iff.2 h2) (by rw [hd]; exact Bool.eq_false_iff.2 h3) h4).mono fun e w' ⟨h, hb⟩ => ⟨39, 6, h, .inl (by unfold named; rw [if_neg h0]; rw [if_neg h1]; rw [if_neg h2]; rw [if_neg h3]; rw [if_pos h4]), hb⟩
  · exact (readNamed5 s w he (by rw [hd]; exact Bool.eq_false_iff.2 h0) (by rw [hd]; exact Bool.eq_false_iff.2 h1) (by rw [hd]; exact Bool.eq_false_iff.2 h2) (by rw [hd]; exact Bool.eq_false_iff.2 h3) (by rw [hd]; exact Bool.eq_false_iff.2 h4)).mono fun e w' ⟨h, hb⟩ => ⟨0, 0, h, .inr ⟨by unfold named; rw [if_neg h0]; rw [if_neg h1]; rw [if_neg h2]; rw [if_neg h3]; rw [if_neg h4], .inl rfl⟩, hb⟩
end Un
end Go.Proofs.YtbnpejijfnigaaaDoor

