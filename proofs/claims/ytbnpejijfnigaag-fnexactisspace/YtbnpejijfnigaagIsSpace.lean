/- Whatever text is handed in, IsSpace answers as the specification's IsSpace does (whether all its bytes are 32 or 10), and the text reads afterwards as before. No condition. -/
import Derived.Test.YtbnpejijfnigaagRows
import Derived.WalkKit
import Derived.ProofKit
import Derived.OpenShut
import Derived.ShutString
import Derived.ChangeOld
import Derived.Below
namespace Go.Proofs.Ytbnpejijfnigaag
open Go.ChangeShapes Go.WideShapes Go.ChangeAt Go.RowKit
open Go.ChangeMaps (open_string shut_string)
set_option linter.unusedVariables false

namespace IsSp
def spByte (c : UInt8) : Bool := c.toNat == 32 || c.toNat == 10
def spAll (l : List UInt8) : Bool := l.all spByte
theorem take_snoc (s : ByteArray) (k : Nat) (h : k < s.size) : s.data.toList.take (k + 1) = s.data.toList.take k ++ [s[k]] := by
  rw [List.take_succ_eq_append_getElem (by simpa using h)]; rfl
theorem spAll_no (s : ByteArray) (k : Nat) (h : k < s.size) (hn : spByte s[k] = false) : spAll s.data.toList = false := by
  unfold spAll
  rw [List.all_eq_false]
  refine ⟨s[k], ?_, by simp [hn]⟩
  exact List.getElem_mem (l := s.data.toList) (by simpa using h)
theorem spAll_snoc (s : ByteArray) (k : Nat) (h : k < s.size) (ha : spAll (s.data.toList.take k) = true) (hy : spByte s[k] = true) : spAll (s.data.toList.take (k + 1)) = true := by
  rw [take_snoc s k h]; unfold spAll at *; rw [List.all_append, ha]; simp [hy]
theorem spAll_end (s : ByteArray) (k : Nat) (h : ¬ k < s.size) (ha : spAll (s.data.toList.take k) = true) : spAll s.data.toList = true := by
  rw [List.take_of_length_le (by simp; omega)] at ha; exact ha
theorem ret_bool {a b : Bool} (h : a = b) : Ending.returned (.bool a) = .returned (.bool b) := by rw [h]

set_option maxHeartbeats 400000 in
theorem spec_sp (s : ByteArray) (w : World) (hs : s.size ≤ maxLen) :
    Calls Try.prog 10 #[.string s] w fun e w' => e = .returned (.bool (spAll s.data.toList)) ∧ w' = w := by
  unfold maxLen at hs
  go_enter Try.func10, Try.ntmps10
  go_wp2
  go_loop [3] (fun i => ∃ k : Nat, k ≤ s.size ∧ i = .int .i64 k ∧ spAll (s.data.toList.take k) = true) (fun i => s.size - (intOf i).toNat)
  case atStart => exact ⟨0, Nat.zero_le _, rfl, rfl⟩
  case round =>
    obtain ⟨k, hk, rfl, ha⟩ := hrel
    have HA : Hid (spAll (s.data.toList.take k) = true) := ha
    clear ha
    by_cases hlt : k < s.size
    · by_cases h32 : s[k].toNat = 32
      · have HS : Hid (spAll (s.data.toList.take (k + 1)) = true) := spAll_snoc s k hlt HA.out (by simp [spByte, h32])
        have hb : ((s[k].toNat : Int) != 32) = false := by simp; omega
        clear h32
        go_wp2
        exact ⟨⟨k + 1, by omega, by go_num, HS.out⟩, by simp [intOf]; omega⟩
      · have hb : ((s[k].toNat : Int) != 32) = true := by rw [bne_iff_ne]; omega
        by_cases h10 : s[k].toNat = 10
        · have HS : Hid (spAll (s.data.toList.take (k + 1)) = true) := spAll_snoc s k hlt HA.out (by simp [spByte, h10])
          have hb2 : ((s[k].toNat : Int) != 10) = false := by simp; omega
          clear h32 h10
          go_wp2
          exact ⟨⟨k + 1, by omega, by go_num, HS.out⟩, by simp [intOf]; omega⟩
        · have HS : Hid (spAll s.data.toList = false) := spAll_no s k hlt (by simp [spByte, h32, h10])
          have hb2 : ((s[k].toNat : Int) != 10) = true := by rw [bne_iff_ne]; omega
          clear h32 h10
          go_wp2
          go_ret
          exact ⟨by rw [HS.out]; rfl, rfl⟩
    · have HS : Hid (spAll s.data.toList = true) := spAll_end s k hlt HA.out
      go_wp2
      go_ret
      exact ⟨by rw [HS.out]; rfl, rfl⟩

set_option maxHeartbeats 400000 in
theorem impl_sp (s : ByteArray) (w : World) (hs : s.size ≤ maxLen) :
    Calls Try.prog 11 #[.string s] w fun e w' => e = .returned (.bool (spAll s.data.toList)) ∧ w' = w := by
  unfold maxLen at hs
  go_enter Try.func11, Try.ntmps11
  go_wp2
  go_loop [6] (fun i => ∃ k : Nat, k ≤ s.size ∧ i = .int .i64 k ∧ spAll (s.data.toList.take k) = true) (fun i => s.size - (intOf i).toNat)
  case atStart => exact ⟨0, Nat.zero_le _, rfl, rfl⟩
  case round =>
    obtain ⟨k, hk, rfl, ha⟩ := hrel
    have HA : Hid (spAll (s.data.toList.take k) = true) := ha
    clear ha
    by_cases hlt : k < s.size
    · by_cases h32 : s[k].toNat = 32
      · have HS : Hid (spAll (s.data.toList.take (k + 1)) = true) := spAll_snoc s k hlt HA.out (by simp [spByte, h32])
        have hb : ((s[k].toNat : Int) != 32) = false := by simp; omega
        clear h32
        go_wp2
        exact ⟨⟨k + 1, by omega, by go_num, HS.out⟩, by simp [intOf]; omega⟩
      · have hb : ((s[k].toNat : Int) != 32) = true := by rw [bne_iff_ne]; omega
        by_cases h10 : s[k].toNat = 10
        · have HS : Hid (spAll (s.data.toList.take (k + 1)) = true) := spAll_snoc s k hlt HA.out (by simp [spByte, h10])
          have hb2 : ((s[k].toNat : Int) != 10) = false := by simp; omega
          clear h32 h10
          go_wp2
          exact ⟨⟨k + 1, by omega, by go_num, HS.out⟩, by simp [intOf]; omega⟩
        · have HS : Hid (spAll s.data.toList = false) := spAll_no s k hlt (by simp [spByte, h32, h10])
          have hb2 : ((s[k].toNat : Int) != 10) = true := by rw [bne_iff_ne]; omega
          clear h32 h10
          go_wp2
          go_ret
          exact ⟨by rw [HS.out]; rfl, rfl⟩
    · have HS : Hid (spAll s.data.toList = true) := spAll_end s k hlt HA.out
      go_wp2
      go_ret
      exact ⟨by rw [HS.out]; rfl, rfl⟩

set_option maxHeartbeats 400000 in
theorem walk (s : ByteArray) (w : World) (hs : s.size ≤ maxLen) :
    Calls Try.prog 4 #[.string s] w fun e w' => e = .returned (.bool true) ∧ Below w.heap.size w w' := by
  have hm := hs
  unfold maxLen at hs
  by_cases hbig : s.size ≤ 1048576
  · generalize hv : spAll s.data.toList = v
    have HV : Hid (spAll s.data.toList = v) := hv
    clear hv
    go_enter Try.func4, Try.ntmps4
    go_wp2_with fail
    refine (spec_sp _ _ hm).mono ?_
    rintro e w' ⟨rfl, rfl⟩
    rw [HV.out]
    go_wp2_with fail
    refine (impl_sp _ _ hm).mono ?_
    rintro e w' ⟨rfl, rfl⟩
    rw [HV.out]
    have hb : (v != v) = false := by simp
    go_wp2
    go_ret
    exact ⟨rfl, Below.refl _ _⟩
  · go_enter Try.func4, Try.ntmps4
    go_wp2
    go_ret
    exact ⟨rfl, Below.refl _ _⟩

theorem own : ownKnob Try.prog.godebug = none := by kernel_rfl
set_option maxRecDepth 100000 in
theorem lifted (os : Os) (started : os.Started) (H : Type) (enc : TypeId × Value → H) :
    ReturnsInHanded {} Try.checked os 4 .any (Rows.fnExactIsSpaceSpec.pre6 enc Try.prog Try.f4 Rows.fnExactIsSpaceRow.domain false) (Rows.fnExactIsSpaceSpec.post enc Try.prog Try.f4 false true false false) := by
  refine returnsInHanded_of_change (C := Try.checked) own started (by kernel_rfl) Try.func4
    (ChangeSpec.witness6 (enc := enc) (C := Try.checked) false ⟨#[], #[.string ByteArray.empty], []⟩ 8 (by kernel_rfl) (by kernel_rfl) (by kernel_rfl) (by kernel_rfl)) ?_
  intro W base args ds gs before hval0 hW hcnd _
  have hval : ∀ (j : Nat) t v, Try.f4.params[j]? = some t → args[j]? = some v → Value.okWide Try.prog W .any base t v := hval0
  have hW' := hW
  obtain ⟨p, q, hA0, hV, rfl, hfz, hnd⟩ := hW
  have hA : DataW.TrodAll enc Try.prog W 0 (fun _ => true) true Try.f4.params.toList args.toList ds p := hA0
  rw [Try.params4] at hA hval
  obtain ⟨v0, vs0, d0, ds0, p0, q0, hargs, rfl, rfl, h0, r0⟩ := trodAll_cons hA
  obtain ⟨rfl, rfl, rfl⟩ := trodAll_nil r0
  obtain rfl : args = #[v0] := by cases args; simp_all
  obtain ⟨rfl, rfl⟩ := trodVars_none hV
  obtain ⟨a0, rfl, rfl, rfl, w0⟩ := open_string Try.underlying9 (hval 0 9 v0 rfl rfl) h0
  clear hA0 hval0
  refine (walk a0 W w0).mono fun e W' ⟨he, bel⟩ => ?_
  subst he
  exact ⟨_, rfl, _, _, _, [], _, [], hW', trodAll_mk1 (shut_bool Try.underlying4 _), (trodAll_cons_mk (shut_string Try.underlying9 w0) trodAll_mk0), rfl, bel.frame _, fun h => by cases h⟩

theorem over : Rows.fnExactIsSpaceRow.holds Try.pinned (OpenSpec.ofChange Rows.fnExactIsSpaceSpec) :=
  OpenClaim.holds_of_wide 4 Try.f4 rfl rfl rfl rfl rfl rfl rfl ⟨rfl, rfl, rfl, rfl, rfl⟩ rfl rfl rfl rfl rfl (by kernel_rfl) Try.func4 (by kernel_rfl)
    (of_decide_eq_true (by kernel_rfl)) (by unfold Func.isWrapper; first | (rw [if_pos (by decide +kernel)]; kernel_rfl) | (rw [if_neg (by decide +kernel)]; exact ⟨rfl, rfl⟩))
    (fun os started H enc _ => lifted os started H enc)
end IsSp
theorem fnExactIsSpace_holds : Rows.FnExactIsSpaceSaid := IsSp.over
#print axioms fnExactIsSpace_holds
end Go.Proofs.Ytbnpejijfnigaag
