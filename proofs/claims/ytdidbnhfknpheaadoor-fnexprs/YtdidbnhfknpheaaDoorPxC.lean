/- The program's reading: readNumber. -/
import Derived.Test.YtdidbnhfknpheaaDoorPxB
namespace Go.Proofs.YtdidbnhfknpheaaDoor
open Go.RowKit
set_option linter.unusedVariables false
namespace Ex
open Nd (NodeD)
theorem valD_take {d : List UInt8} {k : Nat} (h : k < d.length) : valD (d.take (k + 1)) = valD (d.take k) * 10 + (d[k].toNat - 48) := by
  rw [List.take_add_one, List.getElem?_eq_getElem h]
  exact valD_snoc _ _
theorem isD_get {d : List UInt8} (hd : ∀ b ∈ d, isD b = true) {k : Nat} (h : k < d.length) : 48 ≤ d[k].toNat ∧ d[k].toNat ≤ 57 := by
  have := hd d[k] (List.getElem_mem h)
  simpa [isD] using this
theorem num_bad1 {most : Nat} {d : List UInt8} (h : d.length = 0) : numBad most d = true := by unfold numBad; simp [h]
theorem num_bad2 {most : Nat} {d : List UInt8} (h : most < d.length) : numBad most d = true := by unfold numBad; simp [h]
theorem num_bad3 {most : Nat} {d : List UInt8} (h : d.head? = some 48) (h2 : 1 < d.length) : numBad most d = true := by unfold numBad; simp [h, h2]
theorem num_good {most : Nat} {d : List UInt8} (h : d.length ≠ 0) (h2 : ¬ most < d.length) (h3 : ¬ (d.head? = some 48 ∧ 1 < d.length)) : numBad most d = false := by
  unfold numBad
  simp only [Bool.or_eq_false_iff, Bool.and_eq_false_iff, decide_eq_false_iff_not]
  exact ⟨⟨h, h2⟩, by
    by_cases c : d.head? = some 48
    · exact .inr (fun h => h3 ⟨c, h⟩)
    · exact .inl c⟩
def numAns (most : Nat) (d : List UInt8) (e : Ending) : Prop := (numBad most d = true ∧ e = .returned (.tuple #[.int .i64 0, .bool false])) ∨ (numBad most d = false ∧ e = .returned (.tuple #[.int .i64 (valD d : Int), .bool true]))
set_option maxRecDepth 100000 in
set_option maxHeartbeats 4000000 in
theorem implNumber (most : Nat) (d : List UInt8) (w : World) (hd : ∀ b ∈ d, isD b = true) (hl : d.length ≤ 1000) (h1 : 1 ≤ most) (h4 : most ≤ 4) :
    Calls Tryd.prog 41 #[.string (str d), .int .i64 (most : Int)] w fun e w' => numAns most d e ∧ w' = w := by
  have e2 : (str d).size = d.length := str_size d
  by_cases z0 : d.length = 0
  · have e1 : (str d).toList.isEmpty = true := by rw [str_toList]; simpa using z0
    have HV := hid (num_bad1 (most := most) z0)
    clear z0 hd e2
    generalize str d = sd at *
    go_enter Tryd.func41, Tryd.ntmps41
    go_wp2
    go_ret2
    exact ⟨.inl ⟨HV.out, rfl⟩, rfl⟩
  have e1 : (str d).toList.isEmpty = false := by rw [str_toList]; cases d with | nil => simp at z0 | cons c r => rfl
  by_cases z1 : most < d.length
  · have HV := hid (num_bad2 z1)
    have q1 : (most : Int) < (d.length : Int) := by omega
    clear hd
    generalize str d = sd at *
    go_enter Tryd.func41, Tryd.ntmps41
    go_wp2
    go_ret2
    exact ⟨.inl ⟨HV.out, rfl⟩, rfl⟩
  have q1 : ¬ (most : Int) < (d.length : Int) := by omega
  have h0 : 0 < (str d).size := by omega
  by_cases z2 : d.head? = some 48 ∧ 1 < d.length
  · have HV := hid (num_bad3 (most := most) z2.1 z2.2)
    have q2 : (1 : Int) < (d.length : Int) := by omega
    have e3 : ((((str d)[0]'h0).toNat : Int) == 48) = true := by
      have hh := z2.1
      cases d with
      | nil => simp at hh
      | cons c r =>
        have : (str (c :: r))[0]'h0 = c := rfl
        rw [this]
        simp at hh
        rw [hh]; rfl
    clear hd z2
    generalize str d = sd at *
    go_enter Tryd.func41, Tryd.ntmps41
    go_wp2
    go_ret2
    exact ⟨.inl ⟨HV.out, rfl⟩, rfl⟩
  have HV := hid (num_good (most := most) z0 z1 z2)
  have hguard : ((((str d)[0]'h0).toNat : Int) == 48) = false ∨ (((((str d)[0]'h0).toNat : Int) == 48) = true ∧ ¬ (1 : Int) < (d.length : Int)) := by
    cases hx : ((((str d)[0]'h0).toNat : Int) == 48)
    · exact .inl rfl
    · refine .inr ⟨rfl, fun h => z2 ⟨?_, by omega⟩⟩
      cases d with
      | nil => simp at z0
      | cons c r =>
        have hc : (str (c :: r))[0]'h0 = c := rfl
        rw [hc] at hx
        have : c.toNat = 48 := by have := beq_iff_eq.1 hx; omega
        have : c = 48 := UInt8.toNat_inj.1 this
        rw [this]; rfl
  have HD := hid hd
  clear hd z2
  have H0 := hid z0
  clear z0
  rcases hguard with g1 | ⟨g1, g2⟩
  · go_enter Tryd.func41, Tryd.ntmps41
    go_wp2
    go_loop [6, 7, 26] (fun v _ x => ∃ k : Nat, x = .int .i64 k ∧ k ≤ d.length ∧ v = .int .i64 (valD (d.take k) : Int)) (fun _ _ x => d.length - (intOf x).toNat)
    case atStart => exact ⟨0, rfl, Nat.zero_le _, rfl⟩
    case round =>
      obtain ⟨k, rfl, hk, rfl⟩ := hrel
      by_cases hlt : k < d.length
      · have q2 : (k : Int) < (d.length : Int) := by omega
        have hks : k < (str d).size := by omega
        have hdg := isD_get HD.out hlt
        have hx : ((str d)[k]'hks).toNat = d[k].toNat := rfl
        have hv := valD_lt k (d.take k) (by simp; omega) (fun b hb => HD.out b (List.mem_of_mem_take hb))
        have hp : 10 ^ k ≤ 10000 := Nat.le_trans (Nat.pow_le_pow_right (by omega) (by omega : k ≤ 4)) (by decide)
        have HT := hid (valD_take hlt)
        have u1 : ¬ (((str d)[k]'hks).toNat : Int) < 48 := by omega
        have u2 : ¬ (57 : Int) < (((str d)[k]'hks).toNat : Int) := by omega
        have u3 : (48 : Int) ≤ (((str d)[k]'hks).toNat : Int) := by omega
        have u4 : (((str d)[k]'hks).toNat : Int) ≤ 57 := by omega
        have u5 : ((valD (d.take k) : Nat) : Int) ≤ 10000 := by omega
        have u6 : (0 : Int) ≤ ((valD (d.take k) : Nat) : Int) := by omega
        have HDG := hid hdg
        have HXX := hid hx
        clear hx hdg hv hp
        generalize valD (d.take k) = vk at *
        go_wp2
        refine ⟨⟨k + 1, by simp, by omega, ?_⟩, by simp [intOf]; omega⟩
        have h1 := HT.out
        have h2 := HDG.out
        have h3 := HXX.out
        congr 1
        omega
      · have hkd : k = d.length := by omega
        rw [hkd, List.take_length]
        go_wp2
        go_ret2
        exact ⟨.inr ⟨HV.out, rfl⟩, rfl⟩
  · go_enter Tryd.func41, Tryd.ntmps41
    go_wp2
    go_loop [6, 7, 26] (fun v _ x => ∃ k : Nat, x = .int .i64 k ∧ k ≤ d.length ∧ v = .int .i64 (valD (d.take k) : Int)) (fun _ _ x => d.length - (intOf x).toNat)
    case atStart => exact ⟨0, rfl, Nat.zero_le _, rfl⟩
    case round =>
      obtain ⟨k, rfl, hk, rfl⟩ := hrel
      by_cases hlt : k < d.length
      · have q2 : (k : Int) < (d.length : Int) := by omega
        have hks : k < (str d).size := by omega
        have hdg := isD_get HD.out hlt
        have hx : ((str d)[k]'hks).toNat = d[k].toNat := rfl
        have hv := valD_lt k (d.take k) (by simp; omega) (fun b hb => HD.out b (List.mem_of_mem_take hb))
        have hp : 10 ^ k ≤ 10000 := Nat.le_trans (Nat.pow_le_pow_right (by omega) (by omega : k ≤ 4)) (by decide)
        have HT := hid (valD_take hlt)
        have u1 : ¬ (((str d)[k]'hks).toNat : Int) < 48 := by omega
        have u2 : ¬ (57 : Int) < (((str d)[k]'hks).toNat : Int) := by omega
        have u3 : (48 : Int) ≤ (((str d)[k]'hks).toNat : Int) := by omega
        have u4 : (((str d)[k]'hks).toNat : Int) ≤ 57 := by omega
        have u5 : ((valD (d.take k) : Nat) : Int) ≤ 10000 := by omega
        have u6 : (0 : Int) ≤ ((valD (d.take k) : Nat) : Int) := by omega
        have HDG := hid hdg
        have HXX := hid hx
        clear hx hdg hv hp
        generalize valD (d.take k) = vk at *
        go_wp2
        refine ⟨⟨k + 1, by simp, by omega, ?_⟩, by simp [intOf]; omega⟩
        have h1 := HT.out
        have h2 := HDG.out
        have h3 := HXX.out
        congr 1
        omega
      · have hkd : k = d.length := by omega
        rw [hkd, List.take_length]
        go_wp2
        go_ret2
        exact ⟨.inr ⟨HV.out, rfl⟩, rfl⟩
end Ex
end Go.Proofs.YtdidbnhfknpheaaDoor
