/- The text of a mark, as the law lays it. -/
import Derived.Test.YtiliahibnhfhoaaProg
import Derived.Lib.ItoaNum
import Derived.WalkKit
import Derived.Below
import Derived.Lib.SlBytesConst
namespace Go.Proofs.Ytiliahibnhfhoaa
open Go.RowKit
set_option linter.unusedVariables false
namespace Mk
open Go.Lib (decDigits decDigits_one)
theorem hid {p : Prop} (h : p) : Hid p := h
theorem dec_big {n : Nat} (h : ¬ n < 10) : decDigits n = decDigits (n / 10) ++ [UInt8.ofNat (48 + n % 10)] := by rw [decDigits, dif_neg h]
def mt (k : Nat) : ByteArray := ⟨(109 :: decDigits k).toArray⟩
def dg (k : Nat) : UInt8 := UInt8.ofNat (48 + k % 10)
theorem dg_nat (j : Nat) : ((dg j).toNat : Int) = 48 + (j : Int) % 10 := by
  unfold dg
  have h : (48 + j % 10) < 256 := by omega
  rw [UInt8.toNat_ofNat', Nat.mod_eq_of_lt h]
  push_cast
  rfl
theorem conv1 (j : Nat) (w : World) : Sem.run Try.prog (convert 24 9 (.slice (some ⟨w.heap.size, 0, none⟩) 1 1)) (w.alloc (.cells #[.int .u8 (48 + (j : Int) % 10)] 5)) = .ok (.string ⟨[dg j].toArray⟩) (w.alloc (.cells #[.int .u8 (48 + (j : Int) % 10)] 5)) := by
  refine run_convert_bytes_back (P := Try.prog) _ 24 9 5 ⟨w.heap.size, 0, none⟩ 1 [dg j] Try.underlying24 Try.underlying5 Try.underlying9 ?_
  intro i hi
  obtain rfl : i = 0 := by simpa using hi
  simp [Addr.add, dg_nat]
theorem app_one (c : UInt8) (l : List UInt8) : Value.string (ByteArray.mk [c].toArray ++ ByteArray.mk l.toArray) = .string ⟨(c :: l).toArray⟩ := by
  apply congrArg Value.string; apply ByteArray.ext; simp
theorem next {K j : Nat} {l : List UInt8} (hj : 0 < j) (h : decDigits j ++ l = decDigits K) : (j / 10 = 0 ∧ dg j :: l = decDigits K) ∨ (0 < j / 10 ∧ decDigits (j / 10) ++ dg j :: l = decDigits K) := by
  by_cases h10 : j < 10
  · left
    refine ⟨by omega, ?_⟩
    rw [← h, decDigits_one h10]
    unfold dg
    rw [Nat.mod_eq_of_lt h10]
    rfl
  · right
    refine ⟨by omega, ?_⟩
    rw [← h, dec_big h10, List.append_assoc]
    rfl
set_option maxRecDepth 100000 in
set_option maxHeartbeats 2000000 in
theorem markText (k : Nat) (w : World) (h0 : 0 < k) (hk : k ≤ 35184372088832) : Calls Try.prog 82 #[.int .i64 k] w fun e w' => e = .returned (.string (mt k)) ∧ Below w.heap.size w w' := by
  have q0 : (0 : Int) < (k : Int) := by omega
  have q00 : k ≠ 0 := by omega
  go_enter Try.func82, Try.ntmps82
  go_wp2
  go_loopw [0, 3] (fun i o wr => ∃ (j : Nat) (l : List UInt8), i = .int .i64 j ∧ o = .string ⟨l.toArray⟩ ∧ l.length + j ≤ k ∧ Hid ((j = 0 ∧ l = decDigits k) ∨ (0 < j ∧ decDigits j ++ l = decDigits k)) ∧ Below w.heap.size w wr) (fun i _ _ => (intOf i).toNat)
  case atStart => exact ⟨k, [], rfl, rfl, by simp, hid (.inr ⟨h0, by rw [List.append_nil]⟩), Below.refl _ _⟩
  case round =>
    obtain ⟨j, l, rfl, rfl, hl, HD, hbel⟩ := hrel
    by_cases hj : 0 < j
    · have q1 : (0 : Int) < (j : Int) := by omega
      have HN : Hid ((j / 10 = 0 ∧ dg j :: l = decDigits k) ∨ (0 < j / 10 ∧ decDigits (j / 10) ++ dg j :: l = decDigits k)) := hid (by
        rcases HD.out with ⟨h, _⟩ | ⟨_, h⟩
        · omega
        · exact next hj h)
      go_wp2
      rw [conv1]
      simp only [Result.andThen]
      rw [Oper.upon_value]
      go_wp2
      exact ⟨⟨j / 10, dg j :: l, by simp, app_one _ _, by simp only [List.length_cons]; omega, HN, hbel.alloc hbel.size _⟩, by simp [intOf]; omega⟩
    · have q1 : ¬ (0 : Int) < (j : Int) := by omega
      have HL : Hid (l = decDigits k) := hid (by
        rcases HD.out with ⟨_, h⟩ | ⟨h, _⟩
        · exact h
        · omega)
      go_wp2
      go_ret
      refine ⟨?_, hbel⟩
      unfold mt
      rw [← HL.out]
      exact congrArg Ending.returned (app_one 109 l)
theorem markText' (k : Int) (w : World) (h0 : 0 < k) (hk : k ≤ 35184372088832) : Calls Try.prog 82 #[.int .i64 k] w fun e w' => e = .returned (.string (mt k.toNat)) ∧ Below w.heap.size w w' := by
  have h := markText k.toNat w (by omega) (by omega)
  rw [show ((k.toNat : Nat) : Int) = k by omega] at h
  exact h
end Mk
end Go.Proofs.Ytiliahibnhfhoaa
