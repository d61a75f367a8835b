/- Laid together: PqD, NdX. -/
import Derived.Test.YtahkpgffoiaeiaaGreatDoorJProcOf8
import Derived.Deep.QuietTactic
import Derived.BigQuiet
import Derived.Deep.MidRow
import Derived.Test.YtahkpgffoiaeiaaGreatDoorJProcOf1
import Derived.WalkKit
import Derived.ProofKit
import Derived.Deep.SlicePairs
import Derived.Laws.AppendOwn
import Derived.Laws.OwnMore
/- The kind that a tag names, in the specification and in the program. -/
namespace Go.Proofs.YtahkpgffoiaeiaaGreatDoor
open Go.RowKit
set_option linter.unusedVariables false
namespace Pf
open Ex (hid inR)
def wd0 : ByteArray := ⟨#[115, 101, 113]⟩
def wd1 : ByteArray := ⟨#[116, 97, 115, 107]⟩
def wd2 : ByteArray := ⟨#[120, 111, 114]⟩
def wd3 : ByteArray := ⟨#[97, 110, 100]⟩
def wd4 : ByteArray := ⟨#[119, 97, 105, 116]⟩
def wd5 : ByteArray := ⟨#[116, 105, 109, 101, 114]⟩
def wd6 : ByteArray := ⟨#[115, 101, 116]⟩
def wd7 : ByteArray := ⟨#[103, 117, 97, 114, 100]⟩
def kindN (s : ByteArray) : Int := if (wd0.toList == s.toList) = true then 1 else if (wd1.toList == s.toList) = true then 2 else if (wd2.toList == s.toList) = true then 3 else if (wd3.toList == s.toList) = true then 4 else if (wd4.toList == s.toList) = true then 5 else if (wd5.toList == s.toList) = true then 6 else if (wd6.toList == s.toList) = true then 7 else if (wd7.toList == s.toList) = true then 8 else 0
theorem kind_no {s : ByteArray} (h0 : (wd0.toList == s.toList) = false) (h1 : (wd1.toList == s.toList) = false) (h2 : (wd2.toList == s.toList) = false) (h3 : (wd3.toList == s.toList) = false) (h4 : (wd4.toList == s.toList) = false) (h5 : (wd5.toList == s.toList) = false) (h6 : (wd6.toList == s.toList) = false) (h7 : (wd7.toList == s.toList) = false) : kindN s = 0 := by simp [kindN, h0, h1, h2, h3, h4, h5, h6, h7]
def tagC (s : ByteArray) : Int := if kindN s = 0 then 4 else 0
def Past (s : ByteArray) (i : Nat) : Prop := (0 < i → (wd0.toList == s.toList) = false) ∧ (1 < i → (wd1.toList == s.toList) = false) ∧ (2 < i → (wd2.toList == s.toList) = false) ∧ (3 < i → (wd3.toList == s.toList) = false) ∧ (4 < i → (wd4.toList == s.toList) = false) ∧ (5 < i → (wd5.toList == s.toList) = false) ∧ (6 < i → (wd6.toList == s.toList) = false) ∧ (7 < i → (wd7.toList == s.toList) = false)
theorem past0 (s : ByteArray) : Past s 0 := by simp [Past]
theorem past1 {s : ByteArray} (h : Past s 0) (hn : (wd0.toList == s.toList) = false) : Past s 1 := by simp_all [Past]
theorem kind_at0 {s : ByteArray} (h : Past s 0) (hn : (wd0.toList == s.toList) = true) : kindN s = 1 := by simp [Past] at h; simp_all [kindN]
theorem past2 {s : ByteArray} (h : Past s 1) (hn : (wd1.toList == s.toList) = false) : Past s 2 := by simp_all [Past]
theorem kind_at1 {s : ByteArray} (h : Past s 1) (hn : (wd1.toList == s.toList) = true) : kindN s = 2 := by simp [Past] at h; simp_all [kindN]
theorem past3 {s : ByteArray} (h : Past s 2) (hn : (wd2.toList == s.toList) = false) : Past s 3 := by simp_all [Past]
theorem kind_at2 {s : ByteArray} (h : Past s 2) (hn : (wd2.toList == s.toList) = true) : kindN s = 3 := by simp [Past] at h; simp_all [kindN]
theorem past4 {s : ByteArray} (h : Past s 3) (hn : (wd3.toList == s.toList) = false) : Past s 4 := by simp_all [Past]
theorem kind_at3 {s : ByteArray} (h : Past s 3) (hn : (wd3.toList == s.toList) = true) : kindN s = 4 := by simp [Past] at h; simp_all [kindN]
theorem past5 {s : ByteArray} (h : Past s 4) (hn : (wd4.toList == s.toList) = false) : Past s 5 := by simp_all [Past]
theorem kind_at4 {s : ByteArray} (h : Past s 4) (hn : (wd4.toList == s.toList) = true) : kindN s = 5 := by simp [Past] at h; simp_all [kindN]
theorem past6 {s : ByteArray} (h : Past s 5) (hn : (wd5.toList == s.toList) = false) : Past s 6 := by simp_all [Past]
theorem kind_at5 {s : ByteArray} (h : Past s 5) (hn : (wd5.toList == s.toList) = true) : kindN s = 6 := by simp [Past] at h; simp_all [kindN]
theorem past7 {s : ByteArray} (h : Past s 6) (hn : (wd6.toList == s.toList) = false) : Past s 7 := by simp_all [Past]
theorem kind_at6 {s : ByteArray} (h : Past s 6) (hn : (wd6.toList == s.toList) = true) : kindN s = 7 := by simp [Past] at h; simp_all [kindN]
theorem past8 {s : ByteArray} (h : Past s 7) (hn : (wd7.toList == s.toList) = false) : Past s 8 := by simp_all [Past]
theorem kind_at7 {s : ByteArray} (h : Past s 7) (hn : (wd7.toList == s.toList) = true) : kindN s = 8 := by simp [Past] at h; simp_all [kindN]
theorem past_end {s : ByteArray} (h : Past s 8) : kindN s = 0 := by unfold Past at h; obtain ⟨h0, h1, h2, h3, h4, h5, h6, h7⟩ := h; exact kind_no (h0 (by decide)) (h1 (by decide)) (h2 (by decide)) (h3 (by decide)) (h4 (by decide)) (h5 (by decide)) (h6 (by decide)) (h7 (by decide))
theorem in8 {i : Nat} (h : i ≤ 8) : i = 0 ∨ i = 1 ∨ i = 2 ∨ i = 3 ∨ i = 4 ∨ i = 5 ∨ i = 6 ∨ i = 7 ∨ i = 8 := by omega
theorem retK {a b : Int} (h : a = b) : Ending.returned (.int .i64 a) = Ending.returned (.int .i64 b) := by rw [h]
set_option maxRecDepth 100000 in
set_option maxHeartbeats 4000000 in
theorem specKind (s : ByteArray) (w : World) :
    Calls Tryz.prog 32 #[.string s] w fun e w' => e = .returned (.int .i64 (kindN s)) ∧ Below w.heap.size w w' := by
  go_enter Tryz.func32, Tryz.ntmps32
  go_wp2
  go_loopw [4] (fun x wr => ∃ i : Nat, x = .int .i64 i ∧ i ≤ 8 ∧ Hid (Past s i) ∧ wr = w.alloc (.cells #[.string wd0, .string wd1, .string wd2, .string wd3, .string wd4, .string wd5, .string wd6, .string wd7] 9)) (fun x _ => 8 - (intOf x).toNat)
  case atStart => exact ⟨0, rfl, by decide, hid (past0 s), rfl⟩
  case round =>
    obtain ⟨i, rfl, hi, HP, rfl⟩ := hrel
    rcases in8 hi with rfl | rfl | rfl | rfl | rfl | rfl | rfl | rfl | rfl
    · by_cases hq : (wd0.toList == s.toList) = true
      · have HV : Hid (kindN s = 1) := hid (kind_at0 HP.out hq)
        go_wp2
        go_ret
        exact ⟨by rw [HV.out]; rfl, (Below.refl _ w).alloc (Nat.le_refl _) _⟩
      · have hd : (wd0.toList == s.toList) = false := Bool.eq_false_iff.2 hq
        have HN := hid (past1 HP.out hd)
        clear hq
        go_wp2
        exact ⟨⟨1, rfl, by decide, HN, trivial⟩, by decide⟩
    · by_cases hq : (wd1.toList == s.toList) = true
      · have HV : Hid (kindN s = 2) := hid (kind_at1 HP.out hq)
        go_wp2
        go_ret
        exact ⟨by rw [HV.out]; rfl, (Below.refl _ w).alloc (Nat.le_refl _) _⟩
      · have hd : (wd1.toList == s.toList) = false := Bool.eq_false_iff.2 hq
        have HN := hid (past2 HP.out hd)
        clear hq
        go_wp2
        exact ⟨⟨2, rfl, by decide, HN, trivial⟩, by decide⟩
    · by_cases hq : (wd2.toList == s.toList) = true
      · have HV : Hid (kindN s = 3) := hid (kind_at2 HP.out hq)
        go_wp2
        go_ret
        exact ⟨by rw [HV.out]; rfl, (Below.refl _ w).alloc (Nat.le_refl _) _⟩
      · have hd : (wd2.toList == s.toList) = false := Bool.eq_false_iff.2 hq
        have HN := hid (past3 HP.out hd)
        clear hq
        go_wp2
        exact ⟨⟨3, rfl, by decide, HN, trivial⟩, by decide⟩
    · by_cases hq : (wd3.toList == s.toList) = true
      · have HV : Hid (kindN s = 4) := hid (kind_at3 HP.out hq)
        go_wp2
        go_ret
        exact ⟨by rw [HV.out]; rfl, (Below.refl _ w).alloc (Nat.le_refl _) _⟩
      · have hd : (wd3.toList == s.toList) = false := Bool.eq_false_iff.2 hq
        have HN := hid (past4 HP.out hd)
        clear hq
        go_wp2
        exact ⟨⟨4, rfl, by decide, HN, trivial⟩, by decide⟩
    · by_cases hq : (wd4.toList == s.toList) = true
      · have HV : Hid (kindN s = 5) := hid (kind_at4 HP.out hq)
        go_wp2
        go_ret
        exact ⟨by rw [HV.out]; rfl, (Below.refl _ w).alloc (Nat.le_refl _) _⟩
      · have hd : (wd4.toList == s.toList) = false := Bool.eq_false_iff.2 hq
        have HN := hid (past5 HP.out hd)
        clear hq
        go_wp2
        exact ⟨⟨5, rfl, by decide, HN, trivial⟩, by decide⟩
    · by_cases hq : (wd5.toList == s.toList) = true
      · have HV : Hid (kindN s = 6) := hid (kind_at5 HP.out hq)
        go_wp2
        go_ret
        exact ⟨by rw [HV.out]; rfl, (Below.refl _ w).alloc (Nat.le_refl _) _⟩
      · have hd : (wd5.toList == s.toList) = false := Bool.eq_false_iff.2 hq
        have HN := hid (past6 HP.out hd)
        clear hq
        go_wp2
        exact ⟨⟨6, rfl, by decide, HN, trivial⟩, by decide⟩
    · by_cases hq : (wd6.toList == s.toList) = true
      · have HV : Hid (kindN s = 7) := hid (kind_at6 HP.out hq)
        go_wp2
        go_ret
        exact ⟨by rw [HV.out]; rfl, (Below.refl _ w).alloc (Nat.le_refl _) _⟩
      · have hd : (wd6.toList == s.toList) = false := Bool.eq_false_iff.2 hq
        have HN := hid (past7 HP.out hd)
        clear hq
        go_wp2
        exact ⟨⟨7, rfl, by decide, HN, trivial⟩, by decide⟩
    · by_cases hq : (wd7.toList == s.toList) = true
      · have HV : Hid (kindN s = 8) := hid (kind_at7 HP.out hq)
        go_wp2
        go_ret
        exact ⟨by rw [HV.out]; rfl, (Below.refl _ w).alloc (Nat.le_refl _) _⟩
      · have hd : (wd7.toList == s.toList) = false := Bool.eq_false_iff.2 hq
        have HN := hid (past8 HP.out hd)
        clear hq
        go_wp2
        exact ⟨⟨8, rfl, by decide, HN, trivial⟩, by decide⟩
    · go_wp2
      go_ret
      exact ⟨by rw [past_end HP.out]; rfl, (Below.refl _ w).alloc (Nat.le_refl _) _⟩
theorem und88 : Tryz.prog.underlying 157 = some (.array 8 156) := by kernel_rfl
theorem range_of {w : World} (hr : Rul w) : w.rangeAt 1 0 ruleVals := by
  intro j v hv
  have hj : j < 56 := (List.getElem?_eq_some_iff.1 hv).1
  rw [Nat.zero_add, hr j hj]; exact hv
theorem index0 (w : World) : (Instr.index 157 (.agg ruleVals.toArray) (.int .i64 0)).run Tryz.prog w = .ok (.agg #[.string wd0, .bool false, .bool false, .int .i64 0, .int .i64 0, .int .i64 1, .int .i64 24]) w := by kernel_rfl
theorem index1 (w : World) : (Instr.index 157 (.agg ruleVals.toArray) (.int .i64 1)).run Tryz.prog w = .ok (.agg #[.string wd1, .bool true, .bool false, .int .i64 0, .int .i64 0, .int .i64 0, .int .i64 0]) w := by kernel_rfl
theorem index2 (w : World) : (Instr.index 157 (.agg ruleVals.toArray) (.int .i64 2)).run Tryz.prog w = .ok (.agg #[.string wd2, .bool false, .bool false, .int .i64 0, .int .i64 0, .int .i64 2, .int .i64 24]) w := by kernel_rfl
theorem index3 (w : World) : (Instr.index 157 (.agg ruleVals.toArray) (.int .i64 3)).run Tryz.prog w = .ok (.agg #[.string wd3, .bool false, .bool false, .int .i64 0, .int .i64 0, .int .i64 2, .int .i64 24]) w := by kernel_rfl
theorem index4 (w : World) : (Instr.index 157 (.agg ruleVals.toArray) (.int .i64 4)).run Tryz.prog w = .ok (.agg #[.string wd4, .bool false, .bool false, .int .i64 0, .int .i64 9, .int .i64 0, .int .i64 0]) w := by kernel_rfl
theorem index5 (w : World) : (Instr.index 157 (.agg ruleVals.toArray) (.int .i64 5)).run Tryz.prog w = .ok (.agg #[.string wd5, .bool false, .bool false, .int .i64 1, .int .i64 99, .int .i64 0, .int .i64 0]) w := by kernel_rfl
theorem index6 (w : World) : (Instr.index 157 (.agg ruleVals.toArray) (.int .i64 6)).run Tryz.prog w = .ok (.agg #[.string wd6, .bool false, .bool true, .int .i64 0, .int .i64 3, .int .i64 0, .int .i64 0]) w := by kernel_rfl
theorem index7 (w : World) : (Instr.index 157 (.agg ruleVals.toArray) (.int .i64 7)).run Tryz.prog w = .ok (.agg #[.string wd7, .bool false, .bool false, .int .i64 1, .int .i64 99, .int .i64 2, .int .i64 2]) w := by kernel_rfl
set_option maxRecDepth 100000 in
set_option maxHeartbeats 4000000 in
theorem implKind (s : ByteArray) (w : World) (hr : Rul w) :
    Calls Tryz.prog 67 #[.string s] w fun e w' => e = .returned (.int .i64 (kindN s)) ∧ Below w.heap.size w w' := by
  have h88 := range_of hr
  clear hr
  go_enter Tryz.func67, Tryz.ntmps67
  go_wp2_with (refine wpList_load_mid rfl 157 _ rfl 1 0 rfl ruleVals _ h88 und88 rfl (by kernel_rfl) ?_)
  clear h88
  go_loopw [3, 4, 6] (fun _ _ x wr => ∃ i : Nat, x = .int .i64 i ∧ i ≤ 8 ∧ Hid (Past s i) ∧ Hid (Below w.heap.size w wr)) (fun _ _ x _ => 8 - (intOf x).toNat)
  case atStart => exact ⟨0, rfl, by decide, hid (past0 s), hid (Below.refl _ w)⟩
  case round =>
    obtain ⟨i, rfl, hi, HP, HB⟩ := hrel
    rcases in8 hi with rfl | rfl | rfl | rfl | rfl | rfl | rfl | rfl | rfl
    · have HX : Hid (Below w.heap.size w (wr.alloc (.cells #[.string wd0, .bool false, .bool false, .int .i64 0, .int .i64 0, .int .i64 1, .int .i64 24] 156))) := hid (HB.out.alloc HB.out.size _)
      have hx := index0 wr
      by_cases hq : (wd0.toList == s.toList) = true
      · have HV : Hid (kindN s = 1) := hid (kind_at0 HP.out hq)
        go_wp2
        go_ret
        exact ⟨by rw [HV.out]; rfl, HX.out⟩
      · have hd : (wd0.toList == s.toList) = false := Bool.eq_false_iff.2 hq
        have HN := hid (past1 HP.out hd)
        clear hq
        go_wp2
        exact ⟨⟨1, rfl, by decide, HN, HX⟩, by decide⟩
    · have HX : Hid (Below w.heap.size w (wr.alloc (.cells #[.string wd1, .bool true, .bool false, .int .i64 0, .int .i64 0, .int .i64 0, .int .i64 0] 156))) := hid (HB.out.alloc HB.out.size _)
      have hx := index1 wr
      by_cases hq : (wd1.toList == s.toList) = true
      · have HV : Hid (kindN s = 2) := hid (kind_at1 HP.out hq)
        go_wp2
        go_ret
        exact ⟨by rw [HV.out]; rfl, HX.out⟩
      · have hd : (wd1.toList == s.toList) = false := Bool.eq_false_iff.2 hq
        have HN := hid (past2 HP.out hd)
        clear hq
        go_wp2
        exact ⟨⟨2, rfl, by decide, HN, HX⟩, by decide⟩
    · have HX : Hid (Below w.heap.size w (wr.alloc (.cells #[.string wd2, .bool false, .bool false, .int .i64 0, .int .i64 0, .int .i64 2, .int .i64 24] 156))) := hid (HB.out.alloc HB.out.size _)
      have hx := index2 wr
      by_cases hq : (wd2.toList == s.toList) = true
      · have HV : Hid (kindN s = 3) := hid (kind_at2 HP.out hq)
        go_wp2
        go_ret
        exact ⟨by rw [HV.out]; rfl, HX.out⟩
      · have hd : (wd2.toList == s.toList) = false := Bool.eq_false_iff.2 hq
        have HN := hid (past3 HP.out hd)
        clear hq
        go_wp2
        exact ⟨⟨3, rfl, by decide, HN, HX⟩, by decide⟩
    · have HX : Hid (Below w.heap.size w (wr.alloc (.cells #[.string wd3, .bool false, .bool false, .int .i64 0, .int .i64 0, .int .i64 2, .int .i64 24] 156))) := hid (HB.out.alloc HB.out.size _)
      have hx := index3 wr
      by_cases hq : (wd3.toList == s.toList) = true
      · have HV : Hid (kindN s = 4) := hid (kind_at3 HP.out hq)
        go_wp2
        go_ret
        exact ⟨by rw [HV.out]; rfl, HX.out⟩
      · have hd : (wd3.toList == s.toList) = false := Bool.eq_false_iff.2 hq
        have HN := hid (past4 HP.out hd)
        clear hq
        go_wp2
        exact ⟨⟨4, rfl, by decide, HN, HX⟩, by decide⟩
    · have HX : Hid (Below w.heap.size w (wr.alloc (.cells #[.string wd4, .bool false, .bool false, .int .i64 0, .int .i64 9, .int .i64 0, .int .i64 0] 156))) := hid (HB.out.alloc HB.out.size _)
      have hx := index4 wr
      by_cases hq : (wd4.toList == s.toList) = true
      · have HV : Hid (kindN s = 5) := hid (kind_at4 HP.out hq)
        go_wp2
        go_ret
        exact ⟨by rw [HV.out]; rfl, HX.out⟩
      · have hd : (wd4.toList == s.toList) = false := Bool.eq_false_iff.2 hq
        have HN := hid (past5 HP.out hd)
        clear hq
        go_wp2
        exact ⟨⟨5, rfl, by decide, HN, HX⟩, by decide⟩
    · have HX : Hid (Below w.heap.size w (wr.alloc (.cells #[.string wd5, .bool false, .bool false, .int .i64 1, .int .i64 99, .int .i64 0, .int .i64 0] 156))) := hid (HB.out.alloc HB.out.size _)
      have hx := index5 wr
      by_cases hq : (wd5.toList == s.toList) = true
      · have HV : Hid (kindN s = 6) := hid (kind_at5 HP.out hq)
        go_wp2
        go_ret
        exact ⟨by rw [HV.out]; rfl, HX.out⟩
      · have hd : (wd5.toList == s.toList) = false := Bool.eq_false_iff.2 hq
        have HN := hid (past6 HP.out hd)
        clear hq
        go_wp2
        exact ⟨⟨6, rfl, by decide, HN, HX⟩, by decide⟩
    · have HX : Hid (Below w.heap.size w (wr.alloc (.cells #[.string wd6, .bool false, .bool true, .int .i64 0, .int .i64 3, .int .i64 0, .int .i64 0] 156))) := hid (HB.out.alloc HB.out.size _)
      have hx := index6 wr
      by_cases hq : (wd6.toList == s.toList) = true
      · have HV : Hid (kindN s = 7) := hid (kind_at6 HP.out hq)
        go_wp2
        go_ret
        exact ⟨by rw [HV.out]; rfl, HX.out⟩
      · have hd : (wd6.toList == s.toList) = false := Bool.eq_false_iff.2 hq
        have HN := hid (past7 HP.out hd)
        clear hq
        go_wp2
        exact ⟨⟨7, rfl, by decide, HN, HX⟩, by decide⟩
    · have HX : Hid (Below w.heap.size w (wr.alloc (.cells #[.string wd7, .bool false, .bool false, .int .i64 1, .int .i64 99, .int .i64 2, .int .i64 2] 156))) := hid (HB.out.alloc HB.out.size _)
      have hx := index7 wr
      by_cases hq : (wd7.toList == s.toList) = true
      · have HV : Hid (kindN s = 8) := hid (kind_at7 HP.out hq)
        go_wp2
        go_ret
        exact ⟨by rw [HV.out]; rfl, HX.out⟩
      · have hd : (wd7.toList == s.toList) = false := Bool.eq_false_iff.2 hq
        have HN := hid (past8 HP.out hd)
        clear hq
        go_wp2
        exact ⟨⟨8, rfl, by decide, HN, HX⟩, by decide⟩
    · go_wp2
      go_ret
      exact ⟨by rw [past_end HP.out]; rfl, HB.out⟩
set_option maxRecDepth 100000 in
set_option maxHeartbeats 4000000 in
theorem implTag (s : ByteArray) (w : World) (hr : Rul w) :
    Calls Tryz.prog 66 #[.string s] w fun e w' => e = .returned (.int .i64 (tagC s)) ∧ Below w.heap.size w w' := by
  have HC := hid (implKind s w hr)
  go_enter Tryz.func66, Tryz.ntmps66
  go_wp2_with fail
  refine HC.out.mono ?_
  rintro e w1 ⟨rfl, hb⟩
  by_cases hk : kindN s = 0
  · have HV : Hid (tagC s = 4) := hid (by simp [tagC, hk])
    have b1 : (kindN s == 0) = true := beq_iff_eq.2 hk
    clear hk
    go_wp2
    go_ret
    exact ⟨by rw [HV.out]; rfl, hb⟩
  · have HV : Hid (tagC s = 0) := hid (by simp [tagC, hk])
    have b1 : (kindN s == 0) = false := beq_eq_false_iff_ne.2 hk
    clear hk
    go_wp2
    go_ret
    exact ⟨by rw [HV.out]; rfl, hb⟩
end Pf
end Go.Proofs.YtahkpgffoiaeiaaGreatDoor
/- Rows of nodes that a function has made itself: their cells, kept over what grows; as a list of nodes. -/
namespace Go.Proofs.YtahkpgffoiaeiaaGreatDoor
open Go.RowKit
set_option linter.unusedVariables false
namespace Ex
open Nd (NodeD)
def nval (n : NodeD) : List Value := [.int .i64 n.kind, .int .i64 n.value, .int .i64 n.left, .int .i64 n.right]
def nvals (l : List NodeD) : List Value := l.flatMap nval
theorem nvals_len (l : List NodeD) : (nvals l).length = l.length * 4 := by
  induction l with
  | nil => rfl
  | cons a l ih => simp only [nvals, List.flatMap_cons, List.length_append, List.length_cons] at ih ⊢; rw [ih]; simp [nval]; omega
theorem nvals_snoc (l : List NodeD) (n : NodeD) : nvals (l ++ [n]) = nvals l ++ nval n := by simp [nvals]
theorem own4_slice {w : World} {base n : Nat} {e : TypeId} {v : Value} {xs : List Value} (h : w.ownsRow base e 4 v n xs) : ∃ a cap, v = .slice a n cap := by
  obtain ⟨hl, ⟨rfl, rfl⟩ | ⟨g', cap', cur, hv, _⟩⟩ := h
  · exact ⟨_, _, rfl⟩
  · exact ⟨_, _, hv⟩
theorem owns_keep {w w' : World} {base : Nat} {e : TypeId} {size n : Nat} {v : Value} {xs : List Value} (h : w.ownsRow base e size v n xs) (hb : Below w.heap.size w w') : w'.ownsRow base e size v n xs :=
  h.kept (row := none) ⟨hb.os, hb.tape, hb.output, hb.size, fun k hk _ => hb.block k hk⟩ (by cases v.ownBlock <;> simp)
theorem grown_cell2 {w w' : World} {row : Option Nat} {b o : Nat} {v : Value} (h : w.grownBy w' row) (hc : w.cell? ⟨b, o, none⟩ = some v) (hr : row ≠ some b) : w'.cell? ⟨b, o, none⟩ = some v := by
  have hb : b < w.heap.size := by
    rcases Nat.lt_or_ge b w.heap.size with h1 | h1
    · exact h1
    · simp [World.cell?, Array.getElem?_eq_none h1] at hc
  simp only [World.cell?] at hc ⊢
  rw [h.block b hb (fun e => hr e.symm)]
  exact hc
theorem grown_free2 {w w' : World} {row : Option Nat} {b o : Nat} (h : w.grownBy w' row) (hb : b < w.heap.size) (hc : w.frozen? ⟨b, o, none⟩ = false) (hr : row ≠ some b) : w'.frozen? ⟨b, o, none⟩ = false := by
  simp only [World.frozen?] at hc ⊢
  rw [h.block b hb (fun e => hr e.symm)]
  exact hc
theorem infoNode : (Tryz.prog.info? 143).map (fun i => (i.zero, i.size, i.bytes)) = some (some (.agg #[.int .i64 0, .int .i64 0, .int .i64 0, .int .i64 0]), 4, 32) := by kernel_rfl
theorem nvals_get : ∀ (l : List NodeD) (i : Nat) (h : i < l.length), (nvals l)[i * 4]? = some (.int .i64 l[i].kind) ∧ (nvals l)[i * 4 + 1]? = some (.int .i64 l[i].value) ∧ (nvals l)[i * 4 + 2]? = some (.int .i64 l[i].left) ∧ (nvals l)[i * 4 + 3]? = some (.int .i64 l[i].right)
  | [], i, h => by simp at h
  | n :: l, 0, h => by simp [nvals, nval]
  | n :: l, i + 1, h => by
    have ih := nvals_get l i (by simpa using h)
    have e : nvals (n :: l) = nval n ++ nvals l := by simp [nvals]
    have e4 : (nval n).length = 4 := rfl
    simp only [List.getElem_cons_succ]
    rw [e]
    refine ⟨?_, ?_, ?_, ?_⟩
    · rw [List.getElem?_append_right (by omega), e4, show (i + 1) * 4 - 4 = i * 4 by omega]; exact ih.1
    · rw [List.getElem?_append_right (by omega), e4, show (i + 1) * 4 + 1 - 4 = i * 4 + 1 by omega]; exact ih.2.1
    · rw [List.getElem?_append_right (by omega), e4, show (i + 1) * 4 + 2 - 4 = i * 4 + 2 by omega]; exact ih.2.2.1
    · rw [List.getElem?_append_right (by omega), e4, show (i + 1) * 4 + 3 - 4 = i * 4 + 3 by omega]; exact ih.2.2.2
theorem at_of_owns {w : World} {B : Nat} {v : Value} {ns : List NodeD} (h : w.ownsRow B 143 4 v ns.length (nvals ns)) : Nd.At w B v ns := by
  obtain ⟨hl, ⟨rfl, h0⟩ | ⟨g, cap, cur, rfl, hbg, hg, hle, hm, hs, ht⟩⟩ := h
  · exact ⟨none, 0, by rw [h0], by omega, by unfold maxLen; omega, .inl (List.length_eq_zero_iff.1 h0)⟩
  · refine ⟨some ⟨g, 0, none⟩, cap, rfl, hle, hm, .inr ⟨g, 0, rfl, hbg, (Array.getElem?_eq_some_iff.1 hg).1, fun i hi => ?_⟩⟩
    have hc : ∀ j v, j < ns.length * 4 → (nvals ns)[j]? = some v → w.cell? ⟨g, 0 + j, none⟩ = some v := fun j v hj hv => by
      have h2 := congrArg (·[j]?) ht
      simp only [List.getElem?_take, hj, if_true, hv] at h2
      have h3 : cur[j]? = some v := by simpa using h2
      simp [World.cell?, hg, h3]
    obtain ⟨g1, g2, g3, g4⟩ := nvals_get ns i hi
    exact ⟨hc _ _ (by omega) g1, hc _ _ (by omega) g2, hc _ _ (by omega) g3, hc _ _ (by omega) g4⟩
end Ex
end Go.Proofs.YtahkpgffoiaeiaaGreatDoor
