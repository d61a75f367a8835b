/- What is wrong with a name, as the specification and as the program tell it. -/
import Derived.Test.YtnbmpofmieagfaaGreatDoorJFnProcs2
import Derived.Test.YtnbmpofmieagfaaGreatDoorProg
import Derived.Below
import Derived.WalkSpells
import Derived.WalkLawsBesides
namespace Go.Proofs.YtnbmpofmieagfaaGreatDoor
open Go.RowKit
set_option linter.unusedVariables false
namespace Tr
theorem take_snoc (s : ByteArray) (k : Nat) (h : k < s.size) : s.data.toList.take (k + 1) = s.data.toList.take k ++ [s[k]] := by
  rw [List.take_succ_eq_append_getElem (by simpa using h)]; rfl
theorem az_no (s : ByteArray) (k : Nat) (h : k < s.size) (hn : azByte s[k] = false) : azAll s.data.toList = false := by
  unfold azAll
  rw [List.all_eq_false]
  refine ⟨s[k], ?_, by simp [hn]⟩
  exact List.getElem_mem (l := s.data.toList) (by simpa using h)
theorem az_snoc (s : ByteArray) (k : Nat) (h : k < s.size) (ha : azAll (s.data.toList.take k) = true) (hy : azByte s[k] = true) : azAll (s.data.toList.take (k + 1)) = true := by
  rw [take_snoc s k h]; unfold azAll at *; rw [List.all_append, ha]; simp [hy]
theorem az_end (s : ByteArray) (k : Nat) (h : ¬ k < s.size) (ha : azAll (s.data.toList.take k) = true) : azAll s.data.toList = true := by
  rw [List.take_of_length_le (by simp; omega)] at ha; exact ha
theorem len_size (s : ByteArray) : s.data.toList.length = s.size := by simp
theorem nf_no {s : ByteArray} (h : azAll s.data.toList = false) : nf s.data.toList = 5 := by unfold nf; simp [h]
theorem nf_nil {s : ByteArray} (h : s.size = 0) : nf s.data.toList = 5 := by unfold nf; rw [len_size]; simp [h]
theorem nf_many {s : ByteArray} (h : azAll s.data.toList = true) (h0 : s.size ≠ 0) (h8 : 8 < s.size) : nf s.data.toList = 2 := by unfold nf; rw [len_size]; rw [if_neg (by simp [h]), if_neg h0, if_pos h8]
theorem nf_ok {s : ByteArray} (h : azAll s.data.toList = true) (h0 : s.size ≠ 0) (h8 : ¬ 8 < s.size) : nf s.data.toList = 0 := by unfold nf; rw [len_size, if_neg (by simp [h]), if_neg h0, if_neg h8]
theorem ne_nil {s : ByteArray} (h : s.size ≠ 0) : s.toList.isEmpty = false := by
  rw [ByteArray.toList_eq, List.isEmpty_eq_false_iff]; intro e; apply h; rw [← len_size, e]; rfl
theorem is_nil {s : ByteArray} (h : s.size = 0) : s = { data := #[] } := by
  cases s with | mk d => congr; exact Array.eq_empty_of_size_eq_zero h

set_option maxRecDepth 100000 in
set_option maxHeartbeats 400000 in
theorem spec_nf1 (s : ByteArray) (w : World) (hs : s.size ≤ maxLen) :
    Calls Tryz.prog 73 #[.string s] w fun e w' => e = .returned (.int .i64 (nf s.data.toList)) ∧ w' = w := by
  unfold maxLen at hs
  go_enter Tryz.func73, Tryz.ntmps73
  go_wp2
  go_loop [3] (fun i => ∃ k : Nat, k ≤ s.size ∧ i = .int .i64 k ∧ azAll (s.data.toList.take k) = true) (fun i => s.size - (intOf i).toNat)
  case atStart => exact ⟨0, Nat.zero_le _, rfl, rfl⟩
  case round =>
    obtain ⟨k, hk, rfl, ha⟩ := hrel
    have HA : Hid (azAll (s.data.toList.take k) = true) := ha
    clear ha
    by_cases hlt : k < s.size
    · by_cases h97 : (s[k].toNat : Int) < 97
      · have HS : Hid (nf s.data.toList = 5) := nf_no (az_no s k hlt (by simp [azByte]; omega))
        go_wp2
        go_ret
        exact ⟨by rw [HS.out]; rfl, rfl⟩
      · by_cases h122 : (s[k].toNat : Int) > 122
        · have HS : Hid (nf s.data.toList = 5) := nf_no (az_no s k hlt (by simp [azByte]; omega))
          go_wp2
          go_ret
          exact ⟨by rw [HS.out]; rfl, rfl⟩
        · have HS : Hid (azAll (s.data.toList.take (k + 1)) = true) := az_snoc s k hlt HA.out (by simp [azByte]; omega)
          go_wp2
          exact ⟨⟨k + 1, by omega, by go_num, HS.out⟩, by simp [intOf]; omega⟩
    · have hall := az_end s k hlt HA.out
      by_cases h0 : s.size = 0
      · have HS : Hid (nf s.data.toList = 5) := nf_nil h0
        have hb : s.toList.isEmpty = true := by rw [is_nil h0, ByteArray.toList_eq]; rfl
        clear hall
        go_wp2
        go_ret
        exact ⟨by rw [HS.out]; rfl, rfl⟩
      · have hb := ne_nil h0
        by_cases h8 : 8 < s.size
        · have HS : Hid (nf s.data.toList = 2) := nf_many hall h0 h8
          clear hall
          go_wp2
          go_ret
          exact ⟨by rw [HS.out]; rfl, rfl⟩
        · have HS : Hid (nf s.data.toList = 0) := nf_ok hall h0 h8
          clear hall
          go_wp2
          go_ret
          exact ⟨by rw [HS.out]; rfl, rfl⟩

set_option maxRecDepth 100000 in
set_option maxHeartbeats 400000 in
theorem impl_nf (s : ByteArray) (w : World) (hs : s.size ≤ maxLen) :
    Calls Tryz.prog 92 #[.string s] w fun e w' => e = .returned (.int .i64 (nf s.data.toList)) ∧ w' = w := by
  unfold maxLen at hs
  by_cases h0 : s.size = 0
  · have HS : Hid (nf s.data.toList = 5) := nf_nil h0
    have hb : s.toList.isEmpty = true := by rw [is_nil h0, ByteArray.toList_eq]; rfl
    go_enter Tryz.func92, Tryz.ntmps92
    go_wp2
    go_ret
    exact ⟨by rw [HS.out]; rfl, rfl⟩
  have hb := ne_nil h0
  go_enter Tryz.func92, Tryz.ntmps92
  go_wp2
  go_loop [8] (fun i => ∃ k : Nat, k ≤ s.size ∧ i = .int .i64 k ∧ azAll (s.data.toList.take k) = true) (fun i => s.size - (intOf i).toNat)
  case atStart => exact ⟨0, Nat.zero_le _, rfl, rfl⟩
  case round =>
    obtain ⟨k, hk, rfl, ha⟩ := hrel
    have HA : Hid (azAll (s.data.toList.take k) = true) := ha
    clear ha
    by_cases hlt : k < s.size
    · by_cases h97 : (s[k].toNat : Int) < 97
      · have HS : Hid (nf s.data.toList = 5) := nf_no (az_no s k hlt (by simp [azByte]; omega))
        go_wp2
        go_ret
        exact ⟨by rw [HS.out]; rfl, rfl⟩
      · by_cases h122 : (s[k].toNat : Int) > 122
        · have HS : Hid (nf s.data.toList = 5) := nf_no (az_no s k hlt (by simp [azByte]; omega))
          go_wp2
          go_ret
          exact ⟨by rw [HS.out]; rfl, rfl⟩
        · have HS : Hid (azAll (s.data.toList.take (k + 1)) = true) := az_snoc s k hlt HA.out (by simp [azByte]; omega)
          go_wp2
          exact ⟨⟨k + 1, by omega, by go_num, HS.out⟩, by simp [intOf]; omega⟩
    · have hall := az_end s k hlt HA.out
      by_cases h8 : 8 < s.size
      · have HS : Hid (nf s.data.toList = 2) := nf_many hall h0 h8
        clear hall
        go_wp2
        go_ret
        exact ⟨by rw [HS.out]; rfl, rfl⟩
      · have HS : Hid (nf s.data.toList = 0) := nf_ok hall h0 h8
        clear hall
        go_wp2
        go_ret
        exact ⟨by rw [HS.out]; rfl, rfl⟩
end Tr
end Go.Proofs.YtnbmpofmieagfaaGreatDoor
