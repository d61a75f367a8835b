/- Numbers of attrs: the program's readNumber and the specification's l5Number, at any text. -/
import Derived.Test.YtahkpgffoiaeiaaGreatDoorJProcOf13
namespace Go.Proofs.YtahkpgffoiaeiaaGreatDoor
open Go.RowKit
set_option linter.unusedVariables false
namespace Po
open Ex (hid str str_size str_toList isD valD valD_take valD_lt numBad num_bad1 num_bad2 num_bad3 num_good)
theorem isD_of {b : UInt8} (h1 : 48 ≤ b.toNat) (h2 : b.toNat ≤ 57) : isD b = true := by unfold isD; rw [decide_eq_true h1, decide_eq_true h2]; rfl
theorem isD_no {b : UInt8} (h : b.toNat < 48 ∨ 57 < b.toNat) : isD b = false := by
  unfold isD
  rcases h with h | h
  · rw [decide_eq_false (by omega)]; rfl
  · rw [decide_eq_false (p := b.toNat ≤ 57) (by omega), Bool.and_false]
/-- What a text says as a number of at most two digits. -/
def numF (d : List UInt8) : Option Int := if numBad 2 d = true then none else if d.all isD = true then some (valD d : Int) else none
def numAns (d : List UInt8) (e : Ending) : Prop := (numF d = none ∧ e = .returned (.tuple #[.int .i64 0, .bool false])) ∨ (∃ n, numF d = some n ∧ e = .returned (.tuple #[.int .i64 n, .bool true]))
theorem numF_bad {d : List UInt8} (h : numBad 2 d = true) : numF d = none := by unfold numF; rw [if_pos h]
theorem numF_good {d : List UInt8} (h : numBad 2 d = false) (h2 : ∀ b ∈ d, isD b = true) : numF d = some (valD d : Int) := by
  unfold numF; rw [if_neg (by simp [h]), if_pos (List.all_eq_true.2 h2)]
theorem numF_digit {d : List UInt8} {k : Nat} (hk : k < d.length) (h : isD d[k] = false) : numF d = none := by
  unfold numF
  have : ¬ d.all isD = true := fun hc => by
    have := List.all_eq_true.1 hc d[k] (List.getElem_mem hk)
    rw [h] at this; simp at this
  rw [if_neg this]
  split <;> rfl
theorem numF_le {d : List UInt8} {n : Int} (h : numF d = some n) : 0 ≤ n ∧ n ≤ 99 := by
  unfold numF at h
  split at h
  · simp at h
  · rename_i hb
    split at h
    · rename_i ha
      have hv := valD_lt d.length d rfl (List.all_eq_true.1 ha)
      have hl : d.length ≤ 2 := by
        by_cases c : 2 < d.length
        · exact absurd (num_bad2 c) hb
        · omega
      have hp : 10 ^ d.length ≤ 100 := Nat.le_trans (Nat.pow_le_pow_right (by omega) hl) (by decide)
      simp at h
      omega
    · simp at h
theorem all_snoc {d : List UInt8} {k : Nat} (hk : k < d.length) (h : ∀ b ∈ d.take k, isD b = true) (h2 : isD d[k] = true) : ∀ b ∈ d.take (k + 1), isD b = true := by
  intro b hb
  rw [List.take_add_one, List.getElem?_eq_getElem hk] at hb
  rcases List.mem_append.1 hb with hb | hb
  · exact h b hb
  · rw [List.mem_singleton.1 hb]; exact h2
theorem guard_of {d : List UInt8} (z0 : ¬ d.length = 0) (z2 : ¬ (d.head? = some 48 ∧ 1 < d.length)) (h0 : 0 < (str d).size) : ((((str d)[0]'h0).toNat : Int) == 48) = false ∨ (((((str d)[0]'h0).toNat : Int) == 48) = true ∧ ¬ (1 : Int) < (d.length : Int)) := by
  cases hx : ((((str d)[0]'h0).toNat : Int) == 48)
  · exact .inl rfl
  · refine .inr ⟨rfl, fun h => z2 ⟨?_, by omega⟩⟩
    cases d with
    | nil => simp at z0
    | cons c r =>
      have hc : (str (c :: r))[0]'h0 = c := rfl
      rw [hc] at hx
      have : c.toNat = 48 := by have := beq_iff_eq.1 hx; omega
      have : c = 48 := UInt8.toNat_inj.1 this
      rw [this]; rfl
set_option maxRecDepth 100000 in
set_option maxHeartbeats 4000000 in
theorem implNum (d : List UInt8) (w : World) (hl : d.length ≤ 1048576) :
    Calls Tryz.prog 89 #[.string (str d), .int .i64 2] w fun e w' => numAns d e ∧ w' = w := by
  have e2 : (str d).size = d.length := str_size d
  by_cases z0 : d.length = 0
  · have e1 : (str d).toList.isEmpty = true := by rw [str_toList]; simpa using z0
    have HV := hid (numF_bad (num_bad1 (most := 2) z0))
    clear z0 e2
    generalize str d = sd at *
    go_enter Tryz.func89, Tryz.ntmps89
    go_wp2
    go_ret2
    exact ⟨.inl ⟨HV.out, rfl⟩, rfl⟩
  have e1 : (str d).toList.isEmpty = false := by rw [str_toList]; cases d with | nil => simp at z0 | cons c r => rfl
  by_cases z1 : 2 < d.length
  · have HV := hid (numF_bad (num_bad2 z1))
    have q1 : (2 : Int) < (d.length : Int) := by omega
    generalize str d = sd at *
    go_enter Tryz.func89, Tryz.ntmps89
    go_wp2
    go_ret2
    exact ⟨.inl ⟨HV.out, rfl⟩, rfl⟩
  have q1 : ¬ (2 : Int) < (d.length : Int) := by omega
  have h0 : 0 < (str d).size := by omega
  by_cases z2 : d.head? = some 48 ∧ 1 < d.length
  · have HV := hid (numF_bad (num_bad3 (most := 2) z2.1 z2.2))
    have q2 : (1 : Int) < (d.length : Int) := by omega
    have e3 : ((((str d)[0]'h0).toNat : Int) == 48) = true := by
      have hh := z2.1
      cases d with
      | nil => simp at hh
      | cons c r =>
        have : (str (c :: r))[0]'h0 = c := rfl
        rw [this]
        simp at hh
        rw [hh]; rfl
    clear z2
    generalize str d = sd at *
    go_enter Tryz.func89, Tryz.ntmps89
    go_wp2
    go_ret2
    exact ⟨.inl ⟨HV.out, rfl⟩, rfl⟩
  have HV := hid (num_good (most := 2) z0 z1 z2)
  have hguard := guard_of z0 z2 h0
  clear z2
  have H0 := hid z0
  clear z0
  rcases hguard with g1 | ⟨g1, g2⟩
  · go_enter Tryz.func89, Tryz.ntmps89
    go_wp2
    go_loop [6, 7, 26] (fun v _ x => ∃ k : Nat, x = .int .i64 k ∧ k ≤ d.length ∧ v = .int .i64 (valD (d.take k) : Int) ∧ ∀ b ∈ d.take k, isD b = true) (fun _ _ x => d.length - (intOf x).toNat)
    case atStart => exact ⟨0, rfl, Nat.zero_le _, rfl, by simp⟩
    case round =>
      obtain ⟨k, rfl, hk, rfl, hall⟩ := hrel
      by_cases hlt : k < d.length
      · have q2 : (k : Int) < (d.length : Int) := by omega
        have hks : k < (str d).size := by omega
        have hx : ((str d)[k]'hks).toNat = d[k].toNat := rfl
        by_cases hdg : 48 ≤ d[k].toNat ∧ d[k].toNat ≤ 57
        · have hv := valD_lt k (d.take k) (by simp; omega) hall
          have hp : 10 ^ k ≤ 10000 := Nat.le_trans (Nat.pow_le_pow_right (by omega) (by omega : k ≤ 4)) (by decide)
          have HT := hid (valD_take hlt)
          have HALL := hid (all_snoc hlt hall (isD_of hdg.1 hdg.2))
          have u1 : ¬ (((str d)[k]'hks).toNat : Int) < 48 := by omega
          have u2 : ¬ (57 : Int) < (((str d)[k]'hks).toNat : Int) := by omega
          have u3 : (48 : Int) ≤ (((str d)[k]'hks).toNat : Int) := by omega
          have u4 : (((str d)[k]'hks).toNat : Int) ≤ 57 := by omega
          have u5 : ((valD (d.take k) : Nat) : Int) ≤ 10000 := by omega
          have u6 : (0 : Int) ≤ ((valD (d.take k) : Nat) : Int) := by omega
          have HDG := hid hdg
          have HXX := hid hx
          clear hx hdg hv hp hall
          generalize valD (d.take k) = vk at *
          go_wp2
          refine ⟨⟨k + 1, by simp, by omega, ?_, HALL.out⟩, by simp [intOf]; omega⟩
          have h1 := HT.out
          have h2 := HDG.out
          have h3 := HXX.out
          congr 1
          omega
        · have HN := hid (numF_digit (d := d) hlt (isD_no (by omega)))
          clear hall
          have hc : (((str d)[k]'hks).toNat : Int) < 48 ∨ (¬ (((str d)[k]'hks).toNat : Int) < 48 ∧ (57 : Int) < (((str d)[k]'hks).toNat : Int)) := by omega
          clear hx hdg
          rcases hc with u1 | ⟨u1, u2⟩
          · go_wp2
            go_ret2
            exact ⟨.inl ⟨HN.out, rfl⟩, rfl⟩
          · go_wp2
            go_ret2
            exact ⟨.inl ⟨HN.out, rfl⟩, rfl⟩
      · have hkd : k = d.length := by omega
        have HF := hid (numF_good HV.out (by rw [hkd, List.take_length] at hall; exact hall))
        clear hall
        rw [hkd, List.take_length]
        go_wp2
        go_ret2
        exact ⟨.inr ⟨_, HF.out, rfl⟩, rfl⟩
  · go_enter Tryz.func89, Tryz.ntmps89
    go_wp2
    go_loop [6, 7, 26] (fun v _ x => ∃ k : Nat, x = .int .i64 k ∧ k ≤ d.length ∧ v = .int .i64 (valD (d.take k) : Int) ∧ ∀ b ∈ d.take k, isD b = true) (fun _ _ x => d.length - (intOf x).toNat)
    case atStart => exact ⟨0, rfl, Nat.zero_le _, rfl, by simp⟩
    case round =>
      obtain ⟨k, rfl, hk, rfl, hall⟩ := hrel
      by_cases hlt : k < d.length
      · have q2 : (k : Int) < (d.length : Int) := by omega
        have hks : k < (str d).size := by omega
        have hx : ((str d)[k]'hks).toNat = d[k].toNat := rfl
        by_cases hdg : 48 ≤ d[k].toNat ∧ d[k].toNat ≤ 57
        · have hv := valD_lt k (d.take k) (by simp; omega) hall
          have hp : 10 ^ k ≤ 10000 := Nat.le_trans (Nat.pow_le_pow_right (by omega) (by omega : k ≤ 4)) (by decide)
          have HT := hid (valD_take hlt)
          have HALL := hid (all_snoc hlt hall (isD_of hdg.1 hdg.2))
          have u1 : ¬ (((str d)[k]'hks).toNat : Int) < 48 := by omega
          have u2 : ¬ (57 : Int) < (((str d)[k]'hks).toNat : Int) := by omega
          have u3 : (48 : Int) ≤ (((str d)[k]'hks).toNat : Int) := by omega
          have u4 : (((str d)[k]'hks).toNat : Int) ≤ 57 := by omega
          have u5 : ((valD (d.take k) : Nat) : Int) ≤ 10000 := by omega
          have u6 : (0 : Int) ≤ ((valD (d.take k) : Nat) : Int) := by omega
          have HDG := hid hdg
          have HXX := hid hx
          clear hx hdg hv hp hall
          generalize valD (d.take k) = vk at *
          go_wp2
          refine ⟨⟨k + 1, by simp, by omega, ?_, HALL.out⟩, by simp [intOf]; omega⟩
          have h1 := HT.out
          have h2 := HDG.out
          have h3 := HXX.out
          congr 1
          omega
        · have HN := hid (numF_digit (d := d) hlt (isD_no (by omega)))
          clear hall
          have hc : (((str d)[k]'hks).toNat : Int) < 48 ∨ (¬ (((str d)[k]'hks).toNat : Int) < 48 ∧ (57 : Int) < (((str d)[k]'hks).toNat : Int)) := by omega
          clear hx hdg
          rcases hc with u1 | ⟨u1, u2⟩
          · go_wp2
            go_ret2
            exact ⟨.inl ⟨HN.out, rfl⟩, rfl⟩
          · go_wp2
            go_ret2
            exact ⟨.inl ⟨HN.out, rfl⟩, rfl⟩
      · have hkd : k = d.length := by omega
        have HF := hid (numF_good HV.out (by rw [hkd, List.take_length] at hall; exact hall))
        clear hall
        rw [hkd, List.take_length]
        go_wp2
        go_ret2
        exact ⟨.inr ⟨_, HF.out, rfl⟩, rfl⟩
set_option maxRecDepth 100000 in
set_option maxHeartbeats 4000000 in
theorem specNum (d : List UInt8) (w : World) (hl : d.length ≤ 1048576) :
    Calls Tryz.prog 54 #[.string (str d)] w fun e w' => numAns d e ∧ w' = w := by
  have e2 : (str d).size = d.length := str_size d
  by_cases z0 : d.length = 0
  · have q0 : (d.length : Int) < 1 := by omega
    have HV := hid (numF_bad (num_bad1 (most := 2) z0))
    clear z0
    generalize str d = sd at *
    go_enter Tryz.func54, Tryz.ntmps54
    go_wp2
    go_ret2
    exact ⟨.inl ⟨HV.out, rfl⟩, rfl⟩
  have q0 : ¬ (d.length : Int) < 1 := by omega
  by_cases z1 : 2 < d.length
  · have HV := hid (numF_bad (num_bad2 z1))
    have q1 : (2 : Int) < (d.length : Int) := by omega
    generalize str d = sd at *
    go_enter Tryz.func54, Tryz.ntmps54
    go_wp2
    go_ret2
    exact ⟨.inl ⟨HV.out, rfl⟩, rfl⟩
  have q1 : ¬ (2 : Int) < (d.length : Int) := by omega
  have h0 : 0 < (str d).size := by omega
  by_cases z2 : d.head? = some 48 ∧ 1 < d.length
  · have HV := hid (numF_bad (num_bad3 (most := 2) z2.1 z2.2))
    have q2 : (1 : Int) < (d.length : Int) := by omega
    have e3 : ((((str d)[0]'h0).toNat : Int) == 48) = true := by
      have hh := z2.1
      cases d with
      | nil => simp at hh
      | cons c r =>
        have : (str (c :: r))[0]'h0 = c := rfl
        rw [this]
        simp at hh
        rw [hh]; rfl
    clear z2
    generalize str d = sd at *
    go_enter Tryz.func54, Tryz.ntmps54
    go_wp2
    go_ret2
    exact ⟨.inl ⟨HV.out, rfl⟩, rfl⟩
  have HV := hid (num_good (most := 2) z0 z1 z2)
  have hguard : ¬ (1 : Int) < (d.length : Int) ∨ ((1 : Int) < (d.length : Int) ∧ ((((str d)[0]'h0).toNat : Int) == 48) = false) := by
    rcases guard_of z0 z2 h0 with g | ⟨g, g2⟩
    · by_cases c : (1 : Int) < (d.length : Int)
      · exact .inr ⟨c, g⟩
      · exact .inl c
    · exact .inl g2
  clear z2
  have H0 := hid z0
  clear z0
  rcases hguard with g1 | ⟨g1, g2⟩
  · go_enter Tryz.func54, Tryz.ntmps54
    go_wp2
    go_loop [4, 5] (fun v x => ∃ k : Nat, x = .int .i64 k ∧ k ≤ d.length ∧ v = .int .i64 (valD (d.take k) : Int) ∧ ∀ b ∈ d.take k, isD b = true) (fun _ x => d.length - (intOf x).toNat)
    case atStart => exact ⟨0, rfl, Nat.zero_le _, rfl, by simp⟩
    case round =>
      obtain ⟨k, rfl, hk, rfl, hall⟩ := hrel
      by_cases hlt : k < d.length
      · have q2 : (k : Int) < (d.length : Int) := by omega
        have hks : k < (str d).size := by omega
        have hx : ((str d)[k]'hks).toNat = d[k].toNat := rfl
        by_cases hdg : 48 ≤ d[k].toNat ∧ d[k].toNat ≤ 57
        · have hv := valD_lt k (d.take k) (by simp; omega) hall
          have hp : 10 ^ k ≤ 10000 := Nat.le_trans (Nat.pow_le_pow_right (by omega) (by omega : k ≤ 4)) (by decide)
          have HT := hid (valD_take hlt)
          have HALL := hid (all_snoc hlt hall (isD_of hdg.1 hdg.2))
          have u1 : ¬ (((str d)[k]'hks).toNat : Int) < 48 := by omega
          have u2 : ¬ (57 : Int) < (((str d)[k]'hks).toNat : Int) := by omega
          have u3 : (48 : Int) ≤ (((str d)[k]'hks).toNat : Int) := by omega
          have u4 : (((str d)[k]'hks).toNat : Int) ≤ 57 := by omega
          have u5 : ((valD (d.take k) : Nat) : Int) ≤ 10000 := by omega
          have u6 : (0 : Int) ≤ ((valD (d.take k) : Nat) : Int) := by omega
          have HDG := hid hdg
          have HXX := hid hx
          clear hx hdg hv hp hall
          generalize valD (d.take k) = vk at *
          go_wp2
          refine ⟨⟨k + 1, by simp, by omega, ?_, HALL.out⟩, by simp [intOf]; omega⟩
          have h1 := HT.out
          have h2 := HDG.out
          have h3 := HXX.out
          congr 1
          omega
        · have HN := hid (numF_digit (d := d) hlt (isD_no (by omega)))
          clear hall
          have hc : (((str d)[k]'hks).toNat : Int) < 48 ∨ (¬ (((str d)[k]'hks).toNat : Int) < 48 ∧ (57 : Int) < (((str d)[k]'hks).toNat : Int)) := by omega
          clear hx hdg
          rcases hc with u1 | ⟨u1, u2⟩
          · go_wp2
            go_ret2
            exact ⟨.inl ⟨HN.out, rfl⟩, rfl⟩
          · go_wp2
            go_ret2
            exact ⟨.inl ⟨HN.out, rfl⟩, rfl⟩
      · have hkd : k = d.length := by omega
        have HF := hid (numF_good HV.out (by rw [hkd, List.take_length] at hall; exact hall))
        clear hall
        rw [hkd, List.take_length]
        go_wp2
        go_ret2
        exact ⟨.inr ⟨_, HF.out, rfl⟩, rfl⟩
  · go_enter Tryz.func54, Tryz.ntmps54
    go_wp2
    go_loop [4, 5] (fun v x => ∃ k : Nat, x = .int .i64 k ∧ k ≤ d.length ∧ v = .int .i64 (valD (d.take k) : Int) ∧ ∀ b ∈ d.take k, isD b = true) (fun _ x => d.length - (intOf x).toNat)
    case atStart => exact ⟨0, rfl, Nat.zero_le _, rfl, by simp⟩
    case round =>
      obtain ⟨k, rfl, hk, rfl, hall⟩ := hrel
      by_cases hlt : k < d.length
      · have q2 : (k : Int) < (d.length : Int) := by omega
        have hks : k < (str d).size := by omega
        have hx : ((str d)[k]'hks).toNat = d[k].toNat := rfl
        by_cases hdg : 48 ≤ d[k].toNat ∧ d[k].toNat ≤ 57
        · have hv := valD_lt k (d.take k) (by simp; omega) hall
          have hp : 10 ^ k ≤ 10000 := Nat.le_trans (Nat.pow_le_pow_right (by omega) (by omega : k ≤ 4)) (by decide)
          have HT := hid (valD_take hlt)
          have HALL := hid (all_snoc hlt hall (isD_of hdg.1 hdg.2))
          have u1 : ¬ (((str d)[k]'hks).toNat : Int) < 48 := by omega
          have u2 : ¬ (57 : Int) < (((str d)[k]'hks).toNat : Int) := by omega
          have u3 : (48 : Int) ≤ (((str d)[k]'hks).toNat : Int) := by omega
          have u4 : (((str d)[k]'hks).toNat : Int) ≤ 57 := by omega
          have u5 : ((valD (d.take k) : Nat) : Int) ≤ 10000 := by omega
          have u6 : (0 : Int) ≤ ((valD (d.take k) : Nat) : Int) := by omega
          have HDG := hid hdg
          have HXX := hid hx
          clear hx hdg hv hp hall
          generalize valD (d.take k) = vk at *
          go_wp2
          refine ⟨⟨k + 1, by simp, by omega, ?_, HALL.out⟩, by simp [intOf]; omega⟩
          have h1 := HT.out
          have h2 := HDG.out
          have h3 := HXX.out
          congr 1
          omega
        · have HN := hid (numF_digit (d := d) hlt (isD_no (by omega)))
          clear hall
          have hc : (((str d)[k]'hks).toNat : Int) < 48 ∨ (¬ (((str d)[k]'hks).toNat : Int) < 48 ∧ (57 : Int) < (((str d)[k]'hks).toNat : Int)) := by omega
          clear hx hdg
          rcases hc with u1 | ⟨u1, u2⟩
          · go_wp2
            go_ret2
            exact ⟨.inl ⟨HN.out, rfl⟩, rfl⟩
          · go_wp2
            go_ret2
            exact ⟨.inl ⟨HN.out, rfl⟩, rfl⟩
      · have hkd : k = d.length := by omega
        have HF := hid (numF_good HV.out (by rw [hkd, List.take_length] at hall; exact hall))
        clear hall
        rw [hkd, List.take_length]
        go_wp2
        go_ret2
        exact ⟨.inr ⟨_, HF.out, rfl⟩, rfl⟩
end Po
end Go.Proofs.YtahkpgffoiaeiaaGreatDoor
