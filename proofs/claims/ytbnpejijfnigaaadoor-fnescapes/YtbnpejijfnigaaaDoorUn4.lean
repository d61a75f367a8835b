/- What the program's readByte answers, where no number has a 0 ahead. Condition: the table of entities lies as its initialiser lays it. -/
import Derived.Test.YtbnpejijfnigaaaDoorUn3
namespace Go.Proofs.YtbnpejijfnigaaaDoor
open Go.Shelf Go.RowKit
set_option linter.unusedVariables false
namespace Un
open Esc
theorem cons0 (s : ByteArray) (h : 0 < s.size) : ∃ r, s.data.toList = s[0] :: r := by
  cases hl : s.data.toList with
  | nil => have := len_size s; rw [hl] at this; simp at this; omega
  | cons c r =>
    have := head0 s h
    rw [hl] at this
    exact ⟨r, by rw [Option.some.inj this]⟩
theorem one_sign {l r : List UInt8} {c : UInt8} (hl : l = c :: r) (h : c.toNat = 60 ∨ c.toNat = 62 ∨ c.toNat = 34) : one l = none := by
  subst hl
  unfold one
  simp only
  rw [if_neg (by omega), if_neg (by omega)]
theorem one_plain {l r : List UInt8} {c : UInt8} (hl : l = c :: r) (h0 : c.toNat ≠ 38) (h1 : c.toNat ≠ 60) (h2 : c.toNat ≠ 62) (h3 : c.toNat ≠ 34) : Reads (one l) c 1 := by
  subst hl
  unfold Reads one
  simp only
  rw [if_neg h0]
  cases hp : plainB c with
  | true => exact .inl (by rw [if_pos ⟨rfl, h1, h2, h3⟩])
  | false => exact .inr ⟨by rw [if_neg (by simp)], .inr rfl⟩
theorem one_num {l r : List UInt8} {c : UInt8} (hl : l = c :: r) (h0 : c.toNat = 38) (hp : [38, 35].isPrefixOf l = true) : one l = numOf (r.drop 1) ∧ ∃ m, r = 35 :: m := by
  subst hl
  refine ⟨?_, ?_⟩
  · unfold one
    simp only
    rw [if_pos h0, if_pos hp]
  · cases r with
    | nil => simp [List.isPrefixOf] at hp
    | cons d m =>
      refine ⟨m, ?_⟩
      simp [List.isPrefixOf] at hp
      rw [hp.2]
theorem one_named {l r : List UInt8} {c : UInt8} (hl : l = c :: r) (h0 : c.toNat = 38) (hp : [38, 35].isPrefixOf l = false) : one l = named l := by
  subst hl
  unfold one
  simp only
  rw [if_pos h0, if_neg (by rw [hp]; decide)]
set_option maxHeartbeats 1000000 in
theorem readByte (s : ByteArray) (w : World) (hs : s.size ≤ 400) (h0 : 0 < s.size) (hz : noz s.data.toList = true) (he : Ent w) :
    Calls Tryd.prog 15 #[.string s] w fun e w' => ∃ (b : UInt8) (n : Nat), e = .returned (.tuple #[.int .u8 b.toNat, .int .i64 n]) ∧ Reads (one s.data.toList) b n ∧ Below w.heap.size w w' := by
  have HE := hid he
  have HZ := hid hz
  clear he hz
  obtain ⟨r, hr⟩ := cons0 s h0
  have HR := hid hr
  clear hr
  by_cases h60 : s[0].toNat = 60
  · have HO := hid (one_sign HR.out (.inl h60))
    have b1 : ((s[0].toNat : Int) == 60) = true := by rw [h60]; rfl
    clear h60
    go_enter Tryd.func15, Tryd.ntmps15
    go_wp2
    go_ret2
    exact ⟨0, 0, rfl, .inr ⟨HO.out, .inl rfl⟩, Below.refl _ _⟩
  have b1 : ((s[0].toNat : Int) == 60) = false := beq_eq_false_iff_ne.2 (by omega)
  by_cases h62 : s[0].toNat = 62
  · have HO := hid (one_sign HR.out (.inr (.inl h62)))
    have b2 : ((s[0].toNat : Int) == 62) = true := by rw [h62]; rfl
    clear h60 h62
    go_enter Tryd.func15, Tryd.ntmps15
    go_wp2
    go_ret2
    exact ⟨0, 0, rfl, .inr ⟨HO.out, .inl rfl⟩, Below.refl _ _⟩
  have b2 : ((s[0].toNat : Int) == 62) = false := beq_eq_false_iff_ne.2 (by omega)
  by_cases h34 : s[0].toNat = 34
  · have HO := hid (one_sign HR.out (.inr (.inr h34)))
    have b3 : ((s[0].toNat : Int) == 34) = true := by rw [h34]; rfl
    clear h60 h62 h34
    go_enter Tryd.func15, Tryd.ntmps15
    go_wp2
    go_ret2
    exact ⟨0, 0, rfl, .inr ⟨HO.out, .inl rfl⟩, Below.refl _ _⟩
  have b3 : ((s[0].toNat : Int) == 34) = false := beq_eq_false_iff_ne.2 (by omega)
  by_cases h38 : s[0].toNat = 38
  · have b4 : ((s[0].toNat : Int) == 38) = true := by rw [h38]; rfl
    cases hp : [38, 35].isPrefixOf s.data.toList with
    | true =>
      have HP : Hid (Lib.hasPrefix s.data.toList ({ data := #[38, 35] } : ByteArray).data.toList = true) := hid hp
      obtain ⟨ho, m, rfl⟩ := one_num HR.out h38 hp
      have HO := hid ho
      have hm : s.data.toList = 38 :: 35 :: m := by rw [HR.out, byte_eq (k := 38) (by decide) h38]; rfl
      have hzm : m.head? ≠ some 48 := by
        have h := HZ.out
        rw [hm] at h
        unfold noz at h
        have h1 := (Bool.and_eq_true_iff.1 h).1
        intro hh
        cases m with
        | nil => cases hh
        | cons x q =>
          rw [List.head?_cons] at hh
          rw [Option.some.inj hh] at h1
          simp [List.isPrefixOf] at h1
      have HC := hid (fun w => readNumbered s m w hs hm hzm)
      clear h60 h62 h34 h38 hp ho hm hzm
      go_enter Tryd.func15, Tryd.ntmps15
      go_wp2_with fail
      refine (Tryd.strings_HasPrefix s _ _).mono ?_
      rintro e w1 ⟨rfl, hw1⟩
      rw [HP.out]
      subst hw1
      go_wp2_with fail
      refine (HC.out _).mono ?_
      rintro e w1 ⟨b, n, rfl, hrd, hw1⟩
      subst hw1
      have HRD := hid hrd
      clear hrd
      go_wp2
      go_ret2
      exact ⟨b, n, rfl, by rw [HO.out]; exact HRD.out, Below.refl _ _⟩
    | false =>
      have HP : Hid (Lib.hasPrefix s.data.toList ({ data := #[38, 35] } : ByteArray).data.toList = false) := hid hp
      have HO := hid (one_named HR.out h38 hp)
      have HC := hid (readNamed s w HE.out)
      clear h60 h62 h34 h38 hp
      go_enter Tryd.func15, Tryd.ntmps15
      go_wp2_with fail
      refine (Tryd.strings_HasPrefix s _ _).mono ?_
      rintro e w1 ⟨rfl, hw1⟩
      rw [HP.out]
      subst hw1
      go_wp2_with fail
      refine HC.out.mono ?_
      rintro e w1 ⟨b, n, rfl, hrd, hb⟩
      have HRD := hid hrd
      have HB := hid hb
      clear hrd hb
      go_wp2
      go_ret2
      exact ⟨b, n, rfl, by rw [HO.out]; exact HRD.out, HB.out⟩
  · have b4 : ((s[0].toNat : Int) == 38) = false := beq_eq_false_iff_ne.2 (by omega)
    have HO := hid (one_plain HR.out h38 h60 h62 h34)
    clear h60 h62 h34 h38
    go_enter Tryd.func15, Tryd.ntmps15
    go_wp2
    go_ret2
    exact ⟨s[0], 1, rfl, HO.out, Below.refl _ _⟩
end Un
end Go.Proofs.YtbnpejijfnigaaaDoor

