/- What the two IsSpace answer: whether all bytes of a text are 32 or 10. -/
import Derived.Test.YtbnpejijfnigaaaRows
import Derived.WalkKit
import Derived.ProofKit
import Derived.OpenShut
import Derived.ShutString
import Derived.ChangeOld
import Derived.Below
namespace Go.Proofs.Ytbnpejijfnigaaa
open Go.ChangeShapes Go.WideShapes Go.ChangeAt Go.RowKit
open Go.ChangeMaps (open_string shut_string)
set_option linter.unusedVariables false

namespace IsSp
def spByte (c : UInt8) : Bool := c.toNat == 32 || c.toNat == 10
def spAll (l : List UInt8) : Bool := l.all spByte
theorem take_snoc (s : ByteArray) (k : Nat) (h : k < s.size) : s.data.toList.take (k + 1) = s.data.toList.take k ++ [s[k]] := by
  rw [List.take_succ_eq_append_getElem (by simpa using h)]; rfl
theorem spAll_no (s : ByteArray) (k : Nat) (h : k < s.size) (hn : spByte s[k] = false) : spAll s.data.toList = false := by
  unfold spAll
  rw [List.all_eq_false]
  refine ⟨s[k], ?_, by simp [hn]⟩
  exact List.getElem_mem (l := s.data.toList) (by simpa using h)
theorem spAll_snoc (s : ByteArray) (k : Nat) (h : k < s.size) (ha : spAll (s.data.toList.take k) = true) (hy : spByte s[k] = true) : spAll (s.data.toList.take (k + 1)) = true := by
  rw [take_snoc s k h]; unfold spAll at *; rw [List.all_append, ha]; simp [hy]
theorem spAll_end (s : ByteArray) (k : Nat) (h : ¬ k < s.size) (ha : spAll (s.data.toList.take k) = true) : spAll s.data.toList = true := by
  rw [List.take_of_length_le (by simp; omega)] at ha; exact ha
theorem ret_bool {a b : Bool} (h : a = b) : Ending.returned (.bool a) = .returned (.bool b) := by rw [h]

set_option maxHeartbeats 400000 in
theorem spec_sp (s : ByteArray) (w : World) (hs : s.size ≤ maxLen) :
    Calls Try.prog 10 #[.string s] w fun e w' => e = .returned (.bool (spAll s.data.toList)) ∧ w' = w := by
  unfold maxLen at hs
  go_enter Try.func10, Try.ntmps10
  go_wp2
  go_loop [3] (fun i => ∃ k : Nat, k ≤ s.size ∧ i = .int .i64 k ∧ spAll (s.data.toList.take k) = true) (fun i => s.size - (intOf i).toNat)
  case atStart => exact ⟨0, Nat.zero_le _, rfl, rfl⟩
  case round =>
    obtain ⟨k, hk, rfl, ha⟩ := hrel
    have HA : Hid (spAll (s.data.toList.take k) = true) := ha
    clear ha
    by_cases hlt : k < s.size
    · by_cases h32 : s[k].toNat = 32
      · have HS : Hid (spAll (s.data.toList.take (k + 1)) = true) := spAll_snoc s k hlt HA.out (by simp [spByte, h32])
        have hb : ((s[k].toNat : Int) != 32) = false := by simp; omega
        clear h32
        go_wp2
        exact ⟨⟨k + 1, by omega, by go_num, HS.out⟩, by simp [intOf]; omega⟩
      · have hb : ((s[k].toNat : Int) != 32) = true := by rw [bne_iff_ne]; omega
        by_cases h10 : s[k].toNat = 10
        · have HS : Hid (spAll (s.data.toList.take (k + 1)) = true) := spAll_snoc s k hlt HA.out (by simp [spByte, h10])
          have hb2 : ((s[k].toNat : Int) != 10) = false := by simp; omega
          clear h32 h10
          go_wp2
          exact ⟨⟨k + 1, by omega, by go_num, HS.out⟩, by simp [intOf]; omega⟩
        · have HS : Hid (spAll s.data.toList = false) := spAll_no s k hlt (by simp [spByte, h32, h10])
          have hb2 : ((s[k].toNat : Int) != 10) = true := by rw [bne_iff_ne]; omega
          clear h32 h10
          go_wp2
          go_ret
          exact ⟨by rw [HS.out]; rfl, rfl⟩
    · have HS : Hid (spAll s.data.toList = true) := spAll_end s k hlt HA.out
      go_wp2
      go_ret
      exact ⟨by rw [HS.out]; rfl, rfl⟩

set_option maxHeartbeats 400000 in
theorem impl_sp (s : ByteArray) (w : World) (hs : s.size ≤ maxLen) :
    Calls Try.prog 9 #[.string s] w fun e w' => e = .returned (.bool (spAll s.data.toList)) ∧ w' = w := by
  unfold maxLen at hs
  go_enter Try.func9, Try.ntmps9
  go_wp2
  go_loop [6] (fun i => ∃ k : Nat, k ≤ s.size ∧ i = .int .i64 k ∧ spAll (s.data.toList.take k) = true) (fun i => s.size - (intOf i).toNat)
  case atStart => exact ⟨0, Nat.zero_le _, rfl, rfl⟩
  case round =>
    obtain ⟨k, hk, rfl, ha⟩ := hrel
    have HA : Hid (spAll (s.data.toList.take k) = true) := ha
    clear ha
    by_cases hlt : k < s.size
    · by_cases h32 : s[k].toNat = 32
      · have HS : Hid (spAll (s.data.toList.take (k + 1)) = true) := spAll_snoc s k hlt HA.out (by simp [spByte, h32])
        have hb : ((s[k].toNat : Int) != 32) = false := by simp; omega
        clear h32
        go_wp2
        exact ⟨⟨k + 1, by omega, by go_num, HS.out⟩, by simp [intOf]; omega⟩
      · have hb : ((s[k].toNat : Int) != 32) = true := by rw [bne_iff_ne]; omega
        by_cases h10 : s[k].toNat = 10
        · have HS : Hid (spAll (s.data.toList.take (k + 1)) = true) := spAll_snoc s k hlt HA.out (by simp [spByte, h10])
          have hb2 : ((s[k].toNat : Int) != 10) = false := by simp; omega
          clear h32 h10
          go_wp2
          exact ⟨⟨k + 1, by omega, by go_num, HS.out⟩, by simp [intOf]; omega⟩
        · have HS : Hid (spAll s.data.toList = false) := spAll_no s k hlt (by simp [spByte, h32, h10])
          have hb2 : ((s[k].toNat : Int) != 10) = true := by rw [bne_iff_ne]; omega
          clear h32 h10
          go_wp2
          go_ret
          exact ⟨by rw [HS.out]; rfl, rfl⟩
    · have HS : Hid (spAll s.data.toList = true) := spAll_end s k hlt HA.out
      go_wp2
      go_ret
      exact ⟨by rw [HS.out]; rfl, rfl⟩

end IsSp
end Go.Proofs.Ytbnpejijfnigaaa
