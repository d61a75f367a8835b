/- Whatever text is handed in, NameFault answers as the specification's NameFault does, and the text reads afterwards as before. No condition. -/
import Derived.Test.YtbnpejijfnigaafRows
import Derived.WalkKit
import Derived.ProofKit
import Derived.OpenShut
import Derived.ShutString
import Derived.ChangeOld
import Derived.Below
namespace Go.Proofs.Ytbnpejijfnigaaf
open Go.ChangeShapes Go.WideShapes Go.ChangeAt Go.RowKit
open Go.ChangeMaps (open_string shut_string)
set_option linter.unusedVariables false

namespace NmF
def azByte (c : UInt8) : Bool := decide (97 ≤ c.toNat) && decide (c.toNat ≤ 122)
def azAll (l : List UInt8) : Bool := l.all azByte
def nf (l : List UInt8) : Int := if azAll l = false then 5 else if l.length = 0 then 5 else if 8 < l.length then 2 else 0
theorem take_snoc (s : ByteArray) (k : Nat) (h : k < s.size) : s.data.toList.take (k + 1) = s.data.toList.take k ++ [s[k]] := by
  rw [List.take_succ_eq_append_getElem (by simpa using h)]; rfl
theorem az_no (s : ByteArray) (k : Nat) (h : k < s.size) (hn : azByte s[k] = false) : azAll s.data.toList = false := by
  unfold azAll
  rw [List.all_eq_false]
  refine ⟨s[k], ?_, by simp [hn]⟩
  exact List.getElem_mem (l := s.data.toList) (by simpa using h)
theorem az_snoc (s : ByteArray) (k : Nat) (h : k < s.size) (ha : azAll (s.data.toList.take k) = true) (hy : azByte s[k] = true) : azAll (s.data.toList.take (k + 1)) = true := by
  rw [take_snoc s k h]; unfold azAll at *; rw [List.all_append, ha]; simp [hy]
theorem az_end (s : ByteArray) (k : Nat) (h : ¬ k < s.size) (ha : azAll (s.data.toList.take k) = true) : azAll s.data.toList = true := by
  rw [List.take_of_length_le (by simp; omega)] at ha; exact ha
theorem len_size (s : ByteArray) : s.data.toList.length = s.size := by simp
theorem nf_no {s : ByteArray} (h : azAll s.data.toList = false) : nf s.data.toList = 5 := by unfold nf; simp [h]
theorem nf_nil {s : ByteArray} (h : s.size = 0) : nf s.data.toList = 5 := by unfold nf; rw [len_size]; simp [h]
theorem nf_many {s : ByteArray} (h : azAll s.data.toList = true) (h0 : s.size ≠ 0) (h8 : 8 < s.size) : nf s.data.toList = 2 := by unfold nf; rw [len_size]; rw [if_neg (by simp [h]), if_neg h0, if_pos h8]
theorem nf_ok {s : ByteArray} (h : azAll s.data.toList = true) (h0 : s.size ≠ 0) (h8 : ¬ 8 < s.size) : nf s.data.toList = 0 := by unfold nf; rw [len_size, if_neg (by simp [h]), if_neg h0, if_neg h8]
theorem ne_nil {s : ByteArray} (h : s.size ≠ 0) : s.toList.isEmpty = false := by
  rw [ByteArray.toList_eq, List.isEmpty_eq_false_iff]; intro e; apply h; rw [← len_size, e]; rfl
theorem is_nil {s : ByteArray} (h : s.size = 0) : s = { data := #[] } := by
  cases s with | mk d => congr; exact Array.eq_empty_of_size_eq_zero h

set_option maxHeartbeats 400000 in
theorem spec_nf1 (s : ByteArray) (w : World) (hs : s.size ≤ maxLen) :
    Calls Try.prog 6 #[.string s] w fun e w' => e = .returned (.int .i64 (nf s.data.toList)) ∧ w' = w := by
  unfold maxLen at hs
  go_enter Try.func6, Try.ntmps6
  go_wp2
  go_loop [3] (fun i => ∃ k : Nat, k ≤ s.size ∧ i = .int .i64 k ∧ azAll (s.data.toList.take k) = true) (fun i => s.size - (intOf i).toNat)
  case atStart => exact ⟨0, Nat.zero_le _, rfl, rfl⟩
  case round =>
    obtain ⟨k, hk, rfl, ha⟩ := hrel
    have HA : Hid (azAll (s.data.toList.take k) = true) := ha
    clear ha
    by_cases hlt : k < s.size
    · by_cases h97 : (s[k].toNat : Int) < 97
      · have HS : Hid (nf s.data.toList = 5) := nf_no (az_no s k hlt (by simp [azByte]; omega))
        go_wp2
        go_ret
        exact ⟨by rw [HS.out]; rfl, rfl⟩
      · by_cases h122 : (s[k].toNat : Int) > 122
        · have HS : Hid (nf s.data.toList = 5) := nf_no (az_no s k hlt (by simp [azByte]; omega))
          go_wp2
          go_ret
          exact ⟨by rw [HS.out]; rfl, rfl⟩
        · have HS : Hid (azAll (s.data.toList.take (k + 1)) = true) := az_snoc s k hlt HA.out (by simp [azByte]; omega)
          go_wp2
          exact ⟨⟨k + 1, by omega, by go_num, HS.out⟩, by simp [intOf]; omega⟩
    · have hall := az_end s k hlt HA.out
      by_cases h0 : s.size = 0
      · have HS : Hid (nf s.data.toList = 5) := nf_nil h0
        have hb : s.toList.isEmpty = true := by rw [is_nil h0, ByteArray.toList_eq]; rfl
        clear hall
        go_wp2
        go_ret
        exact ⟨by rw [HS.out]; rfl, rfl⟩
      · have hb := ne_nil h0
        by_cases h8 : 8 < s.size
        · have HS : Hid (nf s.data.toList = 2) := nf_many hall h0 h8
          clear hall
          go_wp2
          go_ret
          exact ⟨by rw [HS.out]; rfl, rfl⟩
        · have HS : Hid (nf s.data.toList = 0) := nf_ok hall h0 h8
          clear hall
          go_wp2
          go_ret
          exact ⟨by rw [HS.out]; rfl, rfl⟩

set_option maxHeartbeats 400000 in
theorem spec_nf (s : ByteArray) (w : World) (hs : s.size ≤ maxLen) :
    Calls Try.prog 4 #[.string s] w fun e w' => e = .returned (.int .i64 (nf s.data.toList)) ∧ w' = w := by
  go_enter Try.func4, Try.ntmps4
  go_wp2_with fail
  refine (spec_nf1 _ _ hs).mono ?_
  rintro e w' ⟨rfl, rfl⟩
  go_wp2
  go_ret
  exact ⟨rfl, rfl⟩

set_option maxHeartbeats 400000 in
theorem impl_nf (s : ByteArray) (w : World) (hs : s.size ≤ maxLen) :
    Calls Try.prog 5 #[.string s] w fun e w' => e = .returned (.int .i64 (nf s.data.toList)) ∧ w' = w := by
  unfold maxLen at hs
  by_cases h0 : s.size = 0
  · have HS : Hid (nf s.data.toList = 5) := nf_nil h0
    have hb : s.toList.isEmpty = true := by rw [is_nil h0, ByteArray.toList_eq]; rfl
    go_enter Try.func5, Try.ntmps5
    go_wp2
    go_ret
    exact ⟨by rw [HS.out]; rfl, rfl⟩
  have hb := ne_nil h0
  go_enter Try.func5, Try.ntmps5
  go_wp2
  go_loop [8] (fun i => ∃ k : Nat, k ≤ s.size ∧ i = .int .i64 k ∧ azAll (s.data.toList.take k) = true) (fun i => s.size - (intOf i).toNat)
  case atStart => exact ⟨0, Nat.zero_le _, rfl, rfl⟩
  case round =>
    obtain ⟨k, hk, rfl, ha⟩ := hrel
    have HA : Hid (azAll (s.data.toList.take k) = true) := ha
    clear ha
    by_cases hlt : k < s.size
    · by_cases h97 : (s[k].toNat : Int) < 97
      · have HS : Hid (nf s.data.toList = 5) := nf_no (az_no s k hlt (by simp [azByte]; omega))
        go_wp2
        go_ret
        exact ⟨by rw [HS.out]; rfl, rfl⟩
      · by_cases h122 : (s[k].toNat : Int) > 122
        · have HS : Hid (nf s.data.toList = 5) := nf_no (az_no s k hlt (by simp [azByte]; omega))
          go_wp2
          go_ret
          exact ⟨by rw [HS.out]; rfl, rfl⟩
        · have HS : Hid (azAll (s.data.toList.take (k + 1)) = true) := az_snoc s k hlt HA.out (by simp [azByte]; omega)
          go_wp2
          exact ⟨⟨k + 1, by omega, by go_num, HS.out⟩, by simp [intOf]; omega⟩
    · have hall := az_end s k hlt HA.out
      by_cases h8 : 8 < s.size
      · have HS : Hid (nf s.data.toList = 2) := nf_many hall h0 h8
        clear hall
        go_wp2
        go_ret
        exact ⟨by rw [HS.out]; rfl, rfl⟩
      · have HS : Hid (nf s.data.toList = 0) := nf_ok hall h0 h8
        clear hall
        go_wp2
        go_ret
        exact ⟨by rw [HS.out]; rfl, rfl⟩

set_option maxHeartbeats 400000 in
theorem walk (s : ByteArray) (w : World) (hs : s.size ≤ maxLen) :
    Calls Try.prog 3 #[.string s] w fun e w' => e = .returned (.bool true) ∧ Below w.heap.size w w' := by
  have hm := hs
  unfold maxLen at hs
  by_cases hbig : s.size ≤ 1048576
  · generalize hv : nf s.data.toList = v
    have HV : Hid (nf s.data.toList = v) := hv
    clear hv
    go_enter Try.func3, Try.ntmps3
    go_wp2_with fail
    refine (spec_nf _ _ hm).mono ?_
    rintro e w' ⟨rfl, rfl⟩
    rw [HV.out]
    go_wp2_with fail
    refine (impl_nf _ _ hm).mono ?_
    rintro e w' ⟨rfl, rfl⟩
    rw [HV.out]
    have hb : (v != v) = false := by simp
    go_wp2
    go_ret
    exact ⟨rfl, Below.refl _ _⟩
  · go_enter Try.func3, Try.ntmps3
    go_wp2
    go_ret
    exact ⟨rfl, Below.refl _ _⟩

theorem own : ownKnob Try.prog.godebug = none := by kernel_rfl
set_option maxRecDepth 100000 in
theorem lifted (os : Os) (started : os.Started) (H : Type) (enc : TypeId × Value → H) :
    ReturnsInHanded {} Try.checked os 3 .any (Rows.fnExactNameFaultSpec.pre6 enc Try.prog Try.f3 Rows.fnExactNameFaultRow.domain false) (Rows.fnExactNameFaultSpec.post enc Try.prog Try.f3 false true false false) := by
  refine returnsInHanded_of_change (C := Try.checked) own started (by kernel_rfl) Try.func3
    (ChangeSpec.witness6 (enc := enc) (C := Try.checked) false ⟨#[], #[.string ByteArray.empty], []⟩ 8 (by kernel_rfl) (by kernel_rfl) (by kernel_rfl) (by kernel_rfl)) ?_
  intro W base args ds gs before hval0 hW hcnd _
  have hval : ∀ (j : Nat) t v, Try.f3.params[j]? = some t → args[j]? = some v → Value.okWide Try.prog W .any base t v := hval0
  have hW' := hW
  obtain ⟨p, q, hA0, hV, rfl, hfz, hnd⟩ := hW
  have hA : DataW.TrodAll enc Try.prog W 0 (fun _ => true) true Try.f3.params.toList args.toList ds p := hA0
  rw [Try.params3] at hA hval
  obtain ⟨v0, vs0, d0, ds0, p0, q0, hargs, rfl, rfl, h0, r0⟩ := trodAll_cons hA
  obtain ⟨rfl, rfl, rfl⟩ := trodAll_nil r0
  obtain rfl : args = #[v0] := by cases args; simp_all
  obtain ⟨rfl, rfl⟩ := trodVars_none hV
  obtain ⟨a0, rfl, rfl, rfl, w0⟩ := open_string Try.underlying9 (hval 0 9 v0 rfl rfl) h0
  clear hA0 hval0
  refine (walk a0 W w0).mono fun e W' ⟨he, bel⟩ => ?_
  subst he
  exact ⟨_, rfl, _, _, _, [], _, [], hW', trodAll_mk1 (shut_bool Try.underlying4 _), (trodAll_cons_mk (shut_string Try.underlying9 w0) trodAll_mk0), rfl, bel.frame _, fun h => by cases h⟩

theorem over : Rows.fnExactNameFaultRow.holds Try.pinned (OpenSpec.ofChange Rows.fnExactNameFaultSpec) :=
  OpenClaim.holds_of_wide 3 Try.f3 rfl rfl rfl rfl rfl rfl rfl ⟨rfl, rfl, rfl, rfl, rfl⟩ rfl rfl rfl rfl rfl (by kernel_rfl) Try.func3 (by kernel_rfl)
    (of_decide_eq_true (by kernel_rfl)) (by unfold Func.isWrapper; first | (rw [if_pos (by decide +kernel)]; kernel_rfl) | (rw [if_neg (by decide +kernel)]; exact ⟨rfl, rfl⟩))
    (fun os started H enc _ => lifted os started H enc)
end NmF
theorem fnExactNameFault_holds : Rows.FnExactNameFaultSaid := NmF.over
#print axioms fnExactNameFault_holds
end Go.Proofs.Ytbnpejijfnigaaf
