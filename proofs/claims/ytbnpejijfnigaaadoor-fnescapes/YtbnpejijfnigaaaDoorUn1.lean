/- What the program's readNumber and readNumbered answer. -/
import Derived.Test.YtbnpejijfnigaaaDoorUn0
import Derived.WalkSpells
namespace Go.Proofs.YtbnpejijfnigaaaDoor
open Go.Shelf Go.RowKit
set_option linter.unusedVariables false
namespace Un
open Esc
def numI (d : List UInt8) : Option Nat := if d = [] ∨ 3 < d.length ∨ (d.head? = some 48 ∧ 1 < d.length) ∨ d.all dig = false then none else some (val d)
def numV (o : Option Nat) : Value := match o with
  | none => .tuple #[.int .i64 0, .bool false]
  | some v => .tuple #[.int .i64 v, .bool true]
theorem numI_bad {d : List UInt8} (h : d = [] ∨ 3 < d.length ∨ (d.head? = some 48 ∧ 1 < d.length) ∨ d.all dig = false) : numV (numI d) = .tuple #[.int .i64 0, .bool false] := by
  unfold numI; rw [if_pos h]; rfl
theorem head0 (s : ByteArray) (h : 0 < s.size) : s.data.toList.head? = some s[0] := by
  rw [List.head?_eq_getElem?, List.getElem?_eq_getElem (by rw [len_size]; exact h)]
  rfl
theorem dig_yes {c : UInt8} (h1 : ¬ c.toNat < 48) (h2 : ¬ 57 < c.toNat) : dig c = true := by
  unfold dig; rw [decide_eq_true (by omega), decide_eq_true (by omega)]; rfl
theorem dig_lo {c : UInt8} (h1 : c.toNat < 48) : dig c = false := by
  unfold dig; rw [decide_eq_false (by omega)]; rfl
theorem dig_hi {c : UInt8} (h1 : 57 < c.toNat) : dig c = false := by
  unfold dig; rw [decide_eq_false (p := c.toNat ≤ 57) (by omega), Bool.and_false]
theorem dig_no (s : ByteArray) (k : Nat) (h : k < s.size) (hn : dig s[k] = false) : s.data.toList.all dig = false := by
  rw [List.all_eq_false]
  refine ⟨s[k], ?_, by simp [hn]⟩
  exact List.getElem_mem (l := s.data.toList) (by simpa using h)
theorem val_lt : ∀ (k : Nat) (d : List UInt8), d.length ≤ k → d.all dig = true → val d < 10 ^ k := by
  intro k
  induction k with
  | zero => intro d h _; obtain rfl := List.length_eq_zero_iff.1 (Nat.le_zero.1 h); simp [val]
  | succ k ih =>
    intro d h ha
    rcases List.eq_nil_or_concat d with rfl | ⟨e, c, rfl⟩
    · simp [val]; exact Nat.pos_of_ne_zero (by simp)
    · simp only [List.concat_eq_append] at *
      rw [val_snoc, Nat.pow_succ]
      rw [List.all_append, Bool.and_eq_true] at ha
      have h1 := ih e (by simp at h; omega) ha.1
      have h2 : dig c = true := by simpa using ha.2
      unfold dig at h2
      simp at h2
      omega
theorem byte_ne {c : UInt8} {k : Nat} (hk : k < 256) (h : c.toNat ≠ k) : c ≠ k.toUInt8 := by
  intro e; apply h; rw [e]; simp [Nat.toUInt8]; omega
theorem byte_eq {c : UInt8} {k : Nat} (hk : k < 256) (h : c.toNat = k) : c = k.toUInt8 := UInt8.toNat_inj.1 (by rw [h]; simp [Nat.toUInt8]; omega)
set_option maxHeartbeats 1000000 in
theorem readNumber (s : ByteArray) (w : World) (hs : s.size ≤ 400) :
    Calls Tryd.prog 35 #[.string s, .int .i64 3] w fun e w' => e = .returned (numV (numI s.data.toList)) ∧ w' = w := by
  by_cases h0 : s.size = 0
  · have HV : Hid (numV (numI s.data.toList) = .tuple #[.int .i64 0, .bool false]) := numI_bad (.inl (List.length_eq_zero_iff.1 (by rw [len_size]; exact h0)))
    obtain rfl : s = ⟨#[]⟩ := by
      apply ByteArray.ext
      apply Array.toList_inj.1
      exact List.length_eq_zero_iff.1 (by rw [len_size]; exact h0)
    go_enter Tryd.func35, Tryd.ntmps35
    go_wp2
    go_ret2
    exact ⟨by rw [HV.out]; rfl, rfl⟩
  have hp : 0 < s.size := by omega
  have he : s.toList.isEmpty = false := by
    rw [ByteArray.toList_eq, List.isEmpty_eq_false_iff]; intro e; have := congrArg List.length e; rw [len_size] at this; rw [List.length_nil] at this; omega
  have he' : ¬ s.toList = [] := by rwa [List.isEmpty_eq_false_iff] at he
  by_cases h3 : 3 < s.size
  · have HV : Hid (numV (numI s.data.toList) = .tuple #[.int .i64 0, .bool false]) := numI_bad (.inr (.inl (by rw [len_size]; exact h3)))
    have q : (3 : Int) < (s.size : Int) := by omega
    go_enter Tryd.func35, Tryd.ntmps35
    go_wp2
    go_ret2
    exact ⟨by rw [HV.out]; rfl, rfl⟩
  have q3 : ¬ (3 : Int) < (s.size : Int) := by omega
  by_cases hz : s[0].toNat = 48 ∧ 1 < s.size
  · have HV : Hid (numV (numI s.data.toList) = .tuple #[.int .i64 0, .bool false]) := numI_bad (.inr (.inr (.inl (by rw [head0 s hp, len_size]; exact ⟨congrArg some (byte_eq (k := 48) (by decide) hz.1), hz.2⟩))))
    have b1 : ((s[0].toNat : Int) == 48) = true := by rw [hz.1]; rfl
    have q1 : (1 : Int) < (s.size : Int) := by omega
    clear hz
    go_enter Tryd.func35, Tryd.ntmps35
    go_wp2
    go_ret2
    exact ⟨by rw [HV.out]; rfl, rfl⟩
  have HL : Hid (∀ d, s.data.toList.all dig = d → numI s.data.toList = if d = true then some (val s.data.toList) else none) := fun d hd => by
    unfold numI
    rw [head0 s hp, len_size, hd]
    have n1 : ¬ s.data.toList = [] := by intro e; have := congrArg List.length e; rw [len_size] at this; rw [List.length_nil] at this; omega
    have n2 : s[0] = 48 → s.size ≤ 1 := fun h => Nat.le_of_not_lt fun h2 => hz ⟨by rw [h]; rfl, h2⟩
    cases d
    · simp
    · simp [n1, h3]
      exact n2
  have loop : ∀ (q : (((s[0].toNat : Int) == 48) = false) ∨ (((s[0].toNat : Int) == 48) = true ∧ ¬ (1 : Int) < (s.size : Int))), Calls Tryd.prog 35 #[.string s, .int .i64 3] w fun e w' => e = .returned (numV (numI s.data.toList)) ∧ w' = w := by
    intro q
    clear hz
    rcases q with q | ⟨q, q'⟩
    all_goals
      go_enter Tryd.func35, Tryd.ntmps35
      go_wp2
      go_loop [6, 26] (fun n i => ∃ k : Nat, k ≤ s.size ∧ i = .int .i64 k ∧ n = .int .i64 (val (s.data.toList.take k)) ∧ (s.data.toList.take k).all dig = true) (fun _ i => s.size - (intOf i).toNat)
      case atStart => exact ⟨0, Nat.zero_le _, rfl, rfl, rfl⟩
      case round =>
        obtain ⟨k, hk, rfl, rfl, ha⟩ := hrel
        have HA : Hid ((s.data.toList.take k).all dig = true) := ha
        have hv : val (s.data.toList.take k) < 1000 := by
          have := val_lt 3 (s.data.toList.take k) (by rw [List.length_take, len_size]; omega) ha
          simpa using this
        clear ha
        by_cases hlt : k < s.size
        · have HN : Hid (val (s.data.toList.take (k + 1)) = val (s.data.toList.take k) * 10 + (s[k].toNat - 48)) := by
            rw [take_snoc s k hlt]; exact val_snoc _ _
          generalize val (s.data.toList.take k) = v at *
          have q1 : (k : Int) < (s.size : Int) := by omega
          by_cases h48 : s[k].toNat < 48
          · have HV : Hid (numI s.data.toList = none) := hid (by
              have := HL.out false (dig_no s k hlt (dig_lo h48))
              simpa using this)
            have b1 : decide ((s[k].toNat : Int) < 48) = true := decide_eq_true (by omega)
            go_wp2
            go_ret2
            exact ⟨by rw [HV.out]; rfl, rfl⟩
          by_cases h57 : 57 < s[k].toNat
          · have HV : Hid (numI s.data.toList = none) := hid (by
              have := HL.out false (dig_no s k hlt (dig_hi h57))
              simpa using this)
            have b1 : decide ((s[k].toNat : Int) < 48) = false := decide_eq_false (by omega)
            have b2 : decide ((57 : Int) < (s[k].toNat : Int)) = true := decide_eq_true (by omega)
            go_wp2
            go_ret2
            exact ⟨by rw [HV.out]; rfl, rfl⟩
          have HS : Hid ((s.data.toList.take (k + 1)).all dig = true) := hid (by
            rw [take_snoc s k hlt, List.all_append, HA.out]
            simp [dig_yes h48 h57])
          generalize hc : s[k].toNat = c at *
          have b1 : ¬ (c : Int) < 48 := by omega
          have b2 : ¬ (57 : Int) < (c : Int) := by omega
          have b3 : (48 : Int) ≤ (c : Int) := by omega
          have b4 : (c : Int) ≤ 57 := by omega
          go_wp2
          refine ⟨⟨k + 1, by omega, by go_num, ?_, HS.out⟩, by simp [intOf]; omega⟩
          rw [HN.out]
          congr 1
          omega
        · have HV : Hid (numI s.data.toList = some (val (s.data.toList.take k))) := hid (by
            have ha := HA.out
            rw [List.take_of_length_le (by rw [len_size]; omega)] at ha ⊢
            have := HL.out true ha
            simpa using this)
          go_wp2
          go_ret2
          exact ⟨by rw [HV.out]; rfl, rfl⟩
  by_cases h48 : s[0].toNat = 48
  · exact loop (.inr ⟨by rw [h48]; rfl, fun h => hz ⟨h48, by omega⟩⟩)
  · exact loop (.inl (beq_eq_false_iff_ne.2 (by omega)))
end Un
end Go.Proofs.YtbnpejijfnigaaaDoor

