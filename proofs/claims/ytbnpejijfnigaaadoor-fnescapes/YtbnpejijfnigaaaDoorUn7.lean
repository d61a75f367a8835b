/- What the specification's l1One answers. -/
import Derived.Test.YtbnpejijfnigaaaDoorUn6
import Derived.Test.YtbnpejijfnigaaaDoorUn4
import Derived.Deep.QuietTactic
import Derived.BigQuiet
namespace Go.Proofs.YtbnpejijfnigaaaDoor
open Go.Shelf Go.RowKit
set_option linter.unusedVariables false
namespace Un
open Esc
def SReads (o : Option (UInt8 × Nat)) (b : UInt8) (n : Nat) : Prop := o = some (b, n) ∨ (o = none ∧ n = 0)
theorem cons_at (s : ByteArray) (k : Nat) (h : k < s.size) : s.data.toList.drop k = s[k] :: s.data.toList.drop (k + 1) := by
  rw [List.drop_eq_getElem_cons (by rw [len_size]; exact h)]; rfl
def OnePost (s : ByteArray) (a : Nat) (w : World) (e : Ending) (w' : World) : Prop := ∃ (b : UInt8) (n : Nat), e = .returned (.tuple #[.int .u8 b.toNat, .int .i64 n]) ∧ SReads (one (s.data.toList.drop a)) b n ∧ Below w.heap.size w w'
set_option maxHeartbeats 1000000 in
theorem specOneP (s : ByteArray) (a : Nat) (w : World) (hs : s.size ≤ 1048576) (ha : a < s.size) (h38 : s[a].toNat ≠ 38) :
    Calls Tryd.prog 20 #[.string s, .int .i64 a] w fun e w' => OnePost s a w e w' := by
  have HR := hid (cons_at s a ha)
  have b0 : ((s[a].toNat : Int) != 38) = true := by rw [bne_iff_ne]; omega
  have q0 : (a : Int) < (s.size : Int) := by omega
  cases hp : plainB s[a] with
  | false =>
    have HP := hid hp
    have HO : Hid (one (s.data.toList.drop a) = none) := hid (by rw [HR.out]; unfold one; simp only; rw [if_neg h38, if_neg (by rw [hp]; simp)])
    clear h38 hp
    go_enter Tryd.func20, Tryd.ntmps20
    go_wp2_with (go_at_call 29; refine (specPlain s[a] _).mono ?_; rintro e w' ⟨rfl, rfl⟩; rw [HP.out])
    go_ret2
    exact ⟨0, 0, rfl, .inr ⟨HO.out, rfl⟩, (Below.refl _ w).alloc (Nat.le_refl _) _⟩
  | true =>
    have HP := hid hp
    by_cases h60 : s[a].toNat = 60
    · have HO : Hid (one (s.data.toList.drop a) = none) := hid (one_sign HR.out (by omega))
      have b60 : ((s[a].toNat : Int) == 60) = true := by rw [h60]; rfl
      clear h38 hp  h60
      go_enter Tryd.func20, Tryd.ntmps20
      go_wp2_with (go_at_call 29; refine (specPlain s[a] _).mono ?_; rintro e w' ⟨rfl, rfl⟩; rw [HP.out])
      go_ret2
      exact ⟨0, 0, rfl, .inr ⟨HO.out, rfl⟩, (Below.refl _ w).alloc (Nat.le_refl _) _⟩
    have b60 : ((s[a].toNat : Int) == 60) = false := beq_eq_false_iff_ne.2 (by omega)
    by_cases h62 : s[a].toNat = 62
    · have HO : Hid (one (s.data.toList.drop a) = none) := hid (one_sign HR.out (by omega))
      have b62 : ((s[a].toNat : Int) == 62) = true := by rw [h62]; rfl
      clear h38 hp h60 h62
      go_enter Tryd.func20, Tryd.ntmps20
      go_wp2_with (go_at_call 29; refine (specPlain s[a] _).mono ?_; rintro e w' ⟨rfl, rfl⟩; rw [HP.out])
      go_ret2
      exact ⟨0, 0, rfl, .inr ⟨HO.out, rfl⟩, (Below.refl _ w).alloc (Nat.le_refl _) _⟩
    have b62 : ((s[a].toNat : Int) == 62) = false := beq_eq_false_iff_ne.2 (by omega)
    by_cases h34 : s[a].toNat = 34
    · have HO : Hid (one (s.data.toList.drop a) = none) := hid (one_sign HR.out (by omega))
      have b34 : ((s[a].toNat : Int) == 34) = true := by rw [h34]; rfl
      clear h38 hp h60 h62 h34
      go_enter Tryd.func20, Tryd.ntmps20
      go_wp2_with (go_at_call 29; refine (specPlain s[a] _).mono ?_; rintro e w' ⟨rfl, rfl⟩; rw [HP.out])
      go_ret2
      exact ⟨0, 0, rfl, .inr ⟨HO.out, rfl⟩, (Below.refl _ w).alloc (Nat.le_refl _) _⟩
    have b34 : ((s[a].toNat : Int) == 34) = false := beq_eq_false_iff_ne.2 (by omega)
    have HO : Hid (one (s.data.toList.drop a) = some (s[a], 1)) := hid (by rw [HR.out]; unfold one; simp only; rw [if_neg h38, if_pos ⟨hp, h60, h62, h34⟩])
    clear h38 hp h60 h62 h34
    go_enter Tryd.func20, Tryd.ntmps20
    go_wp2_with (go_at_call 29; refine (specPlain s[a] _).mono ?_; rintro e w' ⟨rfl, rfl⟩; rw [HP.out])
    go_ret2
    exact ⟨s[a], 1, rfl, .inl HO.out, (Below.refl _ w).alloc (Nat.le_refl _) _⟩
set_option maxHeartbeats 1000000 in
theorem specOneN (s : ByteArray) (a : Nat) (w : World) (hs : s.size ≤ 1048576) (ha : a < s.size) (h38 : s[a].toNat = 38) (hp : [38, 35].isPrefixOf (s.data.toList.drop a) = true) :
    Calls Tryd.prog 20 #[.string s, .int .i64 a] w fun e w' => OnePost s a w e w' := by
  have HR := hid (cons_at s a ha)
  have b0 : ((s[a].toNat : Int) != 38) = false := by rw [h38]; rfl
  have q0 : (a : Int) < (s.size : Int) := by omega
  have HP : Hid (Lib.hasPrefix (s.data.toList.drop a) ({ data := #[38, 35] } : ByteArray).data.toList = true) := hid hp
  have ha2 : a + 2 ≤ s.size := by have := pre_len hp; rw [List.length_drop, len_size] at this; simp at this; omega
  have HO : Hid (one (s.data.toList.drop a) = numOf (s.data.toList.drop (a + 2))) := hid (by
    rw [(one_num HR.out h38 hp).1, List.drop_drop])
  clear hp h38
  go_enter Tryd.func20, Tryd.ntmps20
  go_wp2_with fail
  refine (specStarts s _ a _ hs (by omega) (by simp [ByteArray.size])).mono ?_
  rintro e w' ⟨rfl, hw'⟩
  rw [HP.out]
  subst hw'
  go_wp2_with fail
  refine (specNumber s a _ hs ha2).mono ?_
  rintro e w' ⟨b, n, rfl, hrd, hw'⟩
  subst hw'
  have HRD := hid hrd
  clear hrd
  go_wp2
  go_ret2
  refine ⟨b, n, rfl, ?_, (Below.refl _ w).alloc (Nat.le_refl _) _⟩
  unfold SReads
  rw [HO.out]
  exact HRD.out
set_option maxHeartbeats 1000000 in
theorem specOneE0 (s : ByteArray) (a : Nat) (w : World) (hs : s.size ≤ 1048576) (ha : a < s.size) (h38 : s[a].toNat = 38) (pn : Lib.hasPrefix (s.data.toList.drop a) ({ data := #[38, 35] } : ByteArray).data.toList = false) (p0 : Lib.hasPrefix (s.data.toList.drop a) (⟨#[38, 108, 116, 59]⟩ : ByteArray).data.toList = true) :
    Calls Tryd.prog 20 #[.string s, .int .i64 a] w fun e w' => e = .returned (.tuple #[.int .u8 60, .int .i64 4]) ∧ Below w.heap.size w w' := by
  have b0 : ((s[a].toNat : Int) != 38) = false := by rw [h38]; rfl
  have q0 : (a : Int) < (s.size : Int) := by omega
  have PN := hid pn
  clear pn h38
  have P0 := hid p0
  clear p0
  go_enter Tryd.func20, Tryd.ntmps20
  go_wp2_with fail
  refine (specStarts s _ a _ hs (by omega) (by simp [ByteArray.size])).mono ?_
  rintro e w' ⟨rfl, hw'⟩
  rw [PN.out]
  subst hw'
  go_wp2_with fail
  refine wp_loop_rounds 6 ?_
  rw [rounds_succ]
  go_wp2_with fail
  refine (specStarts s _ a _ hs (by omega) (by simp [ByteArray.size])).mono ?_
  rintro e w0 ⟨rfl, hw0⟩
  rw [P0.out]
  subst hw0
  go_wp2_with fail
  go_quiet (fail)
  go_wp2
  go_ret2
  exact ⟨rfl, below_drewN ((Below.refl _ w).alloc (Nat.le_refl _) _) _⟩
set_option maxHeartbeats 1000000 in
theorem specOneE1 (s : ByteArray) (a : Nat) (w : World) (hs : s.size ≤ 1048576) (ha : a < s.size) (h38 : s[a].toNat = 38) (pn : Lib.hasPrefix (s.data.toList.drop a) ({ data := #[38, 35] } : ByteArray).data.toList = false) (p0 : Lib.hasPrefix (s.data.toList.drop a) (⟨#[38, 108, 116, 59]⟩ : ByteArray).data.toList = false) (p1 : Lib.hasPrefix (s.data.toList.drop a) (⟨#[38, 103, 116, 59]⟩ : ByteArray).data.toList = true) :
    Calls Tryd.prog 20 #[.string s, .int .i64 a] w fun e w' => e = .returned (.tuple #[.int .u8 62, .int .i64 4]) ∧ Below w.heap.size w w' := by
  have b0 : ((s[a].toNat : Int) != 38) = false := by rw [h38]; rfl
  have q0 : (a : Int) < (s.size : Int) := by omega
  have PN := hid pn
  clear pn h38
  have P0 := hid p0
  clear p0
  have P1 := hid p1
  clear p1
  go_enter Tryd.func20, Tryd.ntmps20
  go_wp2_with fail
  refine (specStarts s _ a _ hs (by omega) (by simp [ByteArray.size])).mono ?_
  rintro e w' ⟨rfl, hw'⟩
  rw [PN.out]
  subst hw'
  go_wp2_with fail
  refine wp_loop_rounds 6 ?_
  rw [rounds_succ]
  go_wp2_with fail
  refine (specStarts s _ a _ hs (by omega) (by simp [ByteArray.size])).mono ?_
  rintro e w0 ⟨rfl, hw0⟩
  rw [P0.out]
  subst hw0
  go_wp2_with fail
  rw [rounds_succ]
  go_wp2_with fail
  refine (specStarts s _ a _ hs (by omega) (by simp [ByteArray.size])).mono ?_
  rintro e w1 ⟨rfl, hw1⟩
  rw [P1.out]
  subst hw1
  go_wp2_with fail
  go_quiet (fail)
  go_wp2
  go_ret2
  exact ⟨rfl, below_drewN ((Below.refl _ w).alloc (Nat.le_refl _) _) _⟩
set_option maxHeartbeats 1000000 in
theorem specOneE2 (s : ByteArray) (a : Nat) (w : World) (hs : s.size ≤ 1048576) (ha : a < s.size) (h38 : s[a].toNat = 38) (pn : Lib.hasPrefix (s.data.toList.drop a) ({ data := #[38, 35] } : ByteArray).data.toList = false) (p0 : Lib.hasPrefix (s.data.toList.drop a) (⟨#[38, 108, 116, 59]⟩ : ByteArray).data.toList = false) (p1 : Lib.hasPrefix (s.data.toList.drop a) (⟨#[38, 103, 116, 59]⟩ : ByteArray).data.toList = false) (p2 : Lib.hasPrefix (s.data.toList.drop a) (⟨#[38, 97, 109, 112, 59]⟩ : ByteArray).data.toList = true) :
    Calls Tryd.prog 20 #[.string s, .int .i64 a] w fun e w' => e = .returned (.tuple #[.int .u8 38, .int .i64 5]) ∧ Below w.heap.size w w' := by
  have b0 : ((s[a].toNat : Int) != 38) = false := by rw [h38]; rfl
  have q0 : (a : Int) < (s.size : Int) := by omega
  have PN := hid pn
  clear pn h38
  have P0 := hid p0
  clear p0
  have P1 := hid p1
  clear p1
  have P2 := hid p2
  clear p2
  go_enter Tryd.func20, Tryd.ntmps20
  go_wp2_with fail
  refine (specStarts s _ a _ hs (by omega) (by simp [ByteArray.size])).mono ?_
  rintro e w' ⟨rfl, hw'⟩
  rw [PN.out]
  subst hw'
  go_wp2_with fail
  refine wp_loop_rounds 6 ?_
  rw [rounds_succ]
  go_wp2_with fail
  refine (specStarts s _ a _ hs (by omega) (by simp [ByteArray.size])).mono ?_
  rintro e w0 ⟨rfl, hw0⟩
  rw [P0.out]
  subst hw0
  go_wp2_with fail
  rw [rounds_succ]
  go_wp2_with fail
  refine (specStarts s _ a _ hs (by omega) (by simp [ByteArray.size])).mono ?_
  rintro e w1 ⟨rfl, hw1⟩
  rw [P1.out]
  subst hw1
  go_wp2_with fail
  rw [rounds_succ]
  go_wp2_with fail
  refine (specStarts s _ a _ hs (by omega) (by simp [ByteArray.size])).mono ?_
  rintro e w2 ⟨rfl, hw2⟩
  rw [P2.out]
  subst hw2
  go_wp2_with fail
  go_quiet (fail)
  go_wp2
  go_ret2
  exact ⟨rfl, below_drewN ((Below.refl _ w).alloc (Nat.le_refl _) _) _⟩
set_option maxHeartbeats 1000000 in
theorem specOneE3 (s : ByteArray) (a : Nat) (w : World) (hs : s.size ≤ 1048576) (ha : a < s.size) (h38 : s[a].toNat = 38) (pn : Lib.hasPrefix (s.data.toList.drop a) ({ data := #[38, 35] } : ByteArray).data.toList = false) (p0 : Lib.hasPrefix (s.data.toList.drop a) (⟨#[38, 108, 116, 59]⟩ : ByteArray).data.toList = false) (p1 : Lib.hasPrefix (s.data.toList.drop a) (⟨#[38, 103, 116, 59]⟩ : ByteArray).data.toList = false) (p2 : Lib.hasPrefix (s.data.toList.drop a) (⟨#[38, 97, 109, 112, 59]⟩ : ByteArray).data.toList = false) (p3 : Lib.hasPrefix (s.data.toList.drop a) (⟨#[38, 113, 117, 111, 116, 59]⟩ : ByteArray).data.toList = true) :
    Calls Tryd.prog 20 #[.string s, .int .i64 a] w fun e w' => e = .returned (.tuple #[.int .u8 34, .int .i64 6]) ∧ Below w.heap.size w w' := by
  have b0 : ((s[a].toNat : Int) != 38) = false := by rw [h38]; rfl
  have q0 : (a : Int) < (s.size : Int) := by omega
  have PN := hid pn
  clear pn h38
  have P0 := hid p0
  clear p0
  have P1 := hid p1
  clear p1
  have P2 := hid p2
  clear p2
  have P3 := hid p3
  clear p3
  go_enter Tryd.func20, Tryd.ntmps20
  go_wp2_with fail
  refine (specStarts s _ a _ hs (by omega) (by simp [ByteArray.size])).mono ?_
  rintro e w' ⟨rfl, hw'⟩
  rw [PN.out]
  subst hw'
  go_wp2_with fail
  refine wp_loop_rounds 6 ?_
  rw [rounds_succ]
  go_wp2_with fail
  refine (specStarts s _ a _ hs (by omega) (by simp [ByteArray.size])).mono ?_
  rintro e w0 ⟨rfl, hw0⟩
  rw [P0.out]
  subst hw0
  go_wp2_with fail
  rw [rounds_succ]
  go_wp2_with fail
  refine (specStarts s _ a _ hs (by omega) (by simp [ByteArray.size])).mono ?_
  rintro e w1 ⟨rfl, hw1⟩
  rw [P1.out]
  subst hw1
  go_wp2_with fail
  rw [rounds_succ]
  go_wp2_with fail
  refine (specStarts s _ a _ hs (by omega) (by simp [ByteArray.size])).mono ?_
  rintro e w2 ⟨rfl, hw2⟩
  rw [P2.out]
  subst hw2
  go_wp2_with fail
  rw [rounds_succ]
  go_wp2_with fail
  refine (specStarts s _ a _ hs (by omega) (by simp [ByteArray.size])).mono ?_
  rintro e w3 ⟨rfl, hw3⟩
  rw [P3.out]
  subst hw3
  go_wp2_with fail
  go_quiet (fail)
  go_wp2
  go_ret2
  exact ⟨rfl, below_drewN ((Below.refl _ w).alloc (Nat.le_refl _) _) _⟩
set_option maxHeartbeats 1000000 in
theorem specOneE4 (s : ByteArray) (a : Nat) (w : World) (hs : s.size ≤ 1048576) (ha : a < s.size) (h38 : s[a].toNat = 38) (pn : Lib.hasPrefix (s.data.toList.drop a) ({ data := #[38, 35] } : ByteArray).data.toList = false) (p0 : Lib.hasPrefix (s.data.toList.drop a) (⟨#[38, 108, 116, 59]⟩ : ByteArray).data.toList = false) (p1 : Lib.hasPrefix (s.data.toList.drop a) (⟨#[38, 103, 116, 59]⟩ : ByteArray).data.toList = false) (p2 : Lib.hasPrefix (s.data.toList.drop a) (⟨#[38, 97, 109, 112, 59]⟩ : ByteArray).data.toList = false) (p3 : Lib.hasPrefix (s.data.toList.drop a) (⟨#[38, 113, 117, 111, 116, 59]⟩ : ByteArray).data.toList = false) (p4 : Lib.hasPrefix (s.data.toList.drop a) (⟨#[38, 97, 112, 111, 115, 59]⟩ : ByteArray).data.toList = true) :
    Calls Tryd.prog 20 #[.string s, .int .i64 a] w fun e w' => e = .returned (.tuple #[.int .u8 39, .int .i64 6]) ∧ Below w.heap.size w w' := by
  have b0 : ((s[a].toNat : Int) != 38) = false := by rw [h38]; rfl
  have q0 : (a : Int) < (s.size : Int) := by omega
  have PN := hid pn
  clear pn h38
  have P0 := hid p0
  clear p0
  have P1 := hid p1
  clear p1
  have P2 := hid p2
  clear p2
  have P3 := hid p3
  clear p3
  have P4 := hid p4
  clear p4
  go_enter Tryd.func20, Tryd.ntmps20
  go_wp2_with fail
  refine (specStarts s _ a _ hs (by omega) (by simp [ByteArray.size])).mono ?_
  rintro e w' ⟨rfl, hw'⟩
  rw [PN.out]
  subst hw'
  go_wp2_with fail
  refine wp_loop_rounds 6 ?_
  rw [rounds_succ]
  go_wp2_with fail
  refine (specStarts s _ a _ hs (by omega) (by simp [ByteArray.size])).mono ?_
  rintro e w0 ⟨rfl, hw0⟩
  rw [P0.out]
  subst hw0
  go_wp2_with fail
  rw [rounds_succ]
  go_wp2_with fail
  refine (specStarts s _ a _ hs (by omega) (by simp [ByteArray.size])).mono ?_
  rintro e w1 ⟨rfl, hw1⟩
  rw [P1.out]
  subst hw1
  go_wp2_with fail
  rw [rounds_succ]
  go_wp2_with fail
  refine (specStarts s _ a _ hs (by omega) (by simp [ByteArray.size])).mono ?_
  rintro e w2 ⟨rfl, hw2⟩
  rw [P2.out]
  subst hw2
  go_wp2_with fail
  rw [rounds_succ]
  go_wp2_with fail
  refine (specStarts s _ a _ hs (by omega) (by simp [ByteArray.size])).mono ?_
  rintro e w3 ⟨rfl, hw3⟩
  rw [P3.out]
  subst hw3
  go_wp2_with fail
  rw [rounds_succ]
  go_wp2_with fail
  refine (specStarts s _ a _ hs (by omega) (by simp [ByteArray.size])).mono ?_
  rintro e w4 ⟨rfl, hw4⟩
  rw [P4.out]
  subst hw4
  go_wp2_with fail
  go_quiet (fail)
  go_wp2
  go_ret2
  exact ⟨rfl, below_drewN ((Below.refl _ w).alloc (Nat.le_refl _) _) _⟩
set_option maxHeartbeats 1000000 in
theorem specOneE5 (s : ByteArray) (a : Nat) (w : World) (hs : s.size ≤ 1048576) (ha : a < s.size) (h38 : s[a].toNat = 38) (pn : Lib.hasPrefix (s.data.toList.drop a) ({ data := #[38, 35] } : ByteArray).data.toList = false) (p0 : Lib.hasPrefix (s.data.toList.drop a) (⟨#[38, 108, 116, 59]⟩ : ByteArray).data.toList = false) (p1 : Lib.hasPrefix (s.data.toList.drop a) (⟨#[38, 103, 116, 59]⟩ : ByteArray).data.toList = false) (p2 : Lib.hasPrefix (s.data.toList.drop a) (⟨#[38, 97, 109, 112, 59]⟩ : ByteArray).data.toList = false) (p3 : Lib.hasPrefix (s.data.toList.drop a) (⟨#[38, 113, 117, 111, 116, 59]⟩ : ByteArray).data.toList = false) (p4 : Lib.hasPrefix (s.data.toList.drop a) (⟨#[38, 97, 112, 111, 115, 59]⟩ : ByteArray).data.toList = false) :
    Calls Tryd.prog 20 #[.string s, .int .i64 a] w fun e w' => e = .returned (.tuple #[.int .u8 0, .int .i64 0]) ∧ Below w.heap.size w w' := by
  have b0 : ((s[a].toNat : Int) != 38) = false := by rw [h38]; rfl
  have q0 : (a : Int) < (s.size : Int) := by omega
  have PN := hid pn
  clear pn h38
  have P0 := hid p0
  clear p0
  have P1 := hid p1
  clear p1
  have P2 := hid p2
  clear p2
  have P3 := hid p3
  clear p3
  have P4 := hid p4
  clear p4
  go_enter Tryd.func20, Tryd.ntmps20
  go_wp2_with fail
  refine (specStarts s _ a _ hs (by omega) (by simp [ByteArray.size])).mono ?_
  rintro e w' ⟨rfl, hw'⟩
  rw [PN.out]
  subst hw'
  go_wp2_with fail
  refine wp_loop_rounds 6 ?_
  rw [rounds_succ]
  go_wp2_with fail
  refine (specStarts s _ a _ hs (by omega) (by simp [ByteArray.size])).mono ?_
  rintro e w0 ⟨rfl, hw0⟩
  rw [P0.out]
  subst hw0
  go_wp2_with fail
  rw [rounds_succ]
  go_wp2_with fail
  refine (specStarts s _ a _ hs (by omega) (by simp [ByteArray.size])).mono ?_
  rintro e w1 ⟨rfl, hw1⟩
  rw [P1.out]
  subst hw1
  go_wp2_with fail
  rw [rounds_succ]
  go_wp2_with fail
  refine (specStarts s _ a _ hs (by omega) (by simp [ByteArray.size])).mono ?_
  rintro e w2 ⟨rfl, hw2⟩
  rw [P2.out]
  subst hw2
  go_wp2_with fail
  rw [rounds_succ]
  go_wp2_with fail
  refine (specStarts s _ a _ hs (by omega) (by simp [ByteArray.size])).mono ?_
  rintro e w3 ⟨rfl, hw3⟩
  rw [P3.out]
  subst hw3
  go_wp2_with fail
  rw [rounds_succ]
  go_wp2_with fail
  refine (specStarts s _ a _ hs (by omega) (by simp [ByteArray.size])).mono ?_
  rintro e w4 ⟨rfl, hw4⟩
  rw [P4.out]
  subst hw4
  go_wp2_with fail
  rw [rounds_succ]
  go_wp2
  go_ret2
  exact ⟨rfl, (Below.refl _ w).alloc (Nat.le_refl _) _⟩
theorem specOne (s : ByteArray) (a : Nat) (w : World) (hs : s.size ≤ 1048576) (ha : a < s.size) :
    Calls Tryd.prog 20 #[.string s, .int .i64 a] w fun e w' => OnePost s a w e w' := by
  by_cases h38 : s[a].toNat = 38
  · cases hn : [38, 35].isPrefixOf (s.data.toList.drop a) with
    | true => exact specOneN s a w hs ha h38 hn
    | false =>
      have ho := one_named (cons_at s a ha) h38 hn
      unfold OnePost SReads
      rw [ho]
      by_cases h0 : e0.isPrefixOf (s.data.toList.drop a) = true
      · exact (specOneE0 s a w hs ha h38 hn h0).mono fun e w' ⟨h, hb⟩ => ⟨60, 4, h, .inl (by unfold named; rw [if_pos h0]), hb⟩
      by_cases h1 : e1.isPrefixOf (s.data.toList.drop a) = true
      · exact (specOneE1 s a w hs ha h38 hn (Bool.eq_false_iff.2 h0) h1).mono fun e w' ⟨h, hb⟩ => ⟨62, 4, h, .inl (by unfold named; rw [if_neg h0]; rw [if_pos h1]), hb⟩
      by_cases h2 : e2.isPrefixOf (s.data.toList.drop a) = true
      · exact (specOneE2 s a w hs ha h38 hn (Bool.eq_false_iff.2 h0) (Bool.eq_false_iff.2 h1) h2).mono fun e w' ⟨h, hb⟩ => ⟨38, 5, h, .inl (by unfold named; rw [if_neg h0]; rw [if_neg h1]; rw [if_pos h2]), hb⟩
      by_cases h3 : e3.isPrefixOf (s.data.toList.drop a) = true
      · exact (specOneE3 s a w hs ha h38 hn (Bool.eq_false_iff.2 h0) (Bool.eq_false_iff.2 h1) (Bool.eq_false_iff.2 h2) h3).mono fun e w' ⟨h, hb⟩ => ⟨34, 6, h, .inl (by unfold named; rw [if_neg h0]; rw [if_neg h1]; rw [if_neg h2]; rw [if_pos h3]), hb⟩
      by_cases h4 : e4.isPrefixOf (s.data.toList.drop a) = true
      · exact (specOneE4 s a w hs ha h38 hn (Bool.eq_false_iff.2 h0) (Bool.eq_false_iff.2 h1) (Bool.eq_false_iff.2 h2) (Bool.eq_false_iff.2 h3) h4).mono fun e w' ⟨h, hb⟩ => ⟨39, 6, h, .inl (by unfold named; rw [if_neg h0]; rw [if_neg h1]; rw [if_neg h2]; rw [if_neg h3]; rw [if_pos h4]), hb⟩
      · exact (specOneE5 s a w hs ha h38 hn (Bool.eq_false_iff.2 h0) (Bool.eq_false_iff.2 h1) (Bool.eq_false_iff.2 h2) (Bool.eq_false_iff.2 h3) (Bool.eq_false_iff.2 h4)).mono fun e w' ⟨h, hb⟩ => ⟨0, 0, h, .inr ⟨by unfold named; rw [if_neg h0]; rw [if_neg h1]; rw [if_neg h2]; rw [if_neg h3]; rw [if_neg h4], rfl⟩, hb⟩
  · exact specOneP s a w hs ha h38
end Un
end Go.Proofs.YtbnpejijfnigaaaDoor

