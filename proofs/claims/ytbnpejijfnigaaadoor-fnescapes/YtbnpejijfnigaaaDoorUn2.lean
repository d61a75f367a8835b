/- What the program's readNumbered answers, where no number has a 0 ahead. -/
import Derived.Test.YtbnpejijfnigaaaDoorUn1
namespace Go.Proofs.YtbnpejijfnigaaaDoor
open Go.Shelf Go.RowKit
set_option linter.unusedVariables false
namespace Un
open Esc
theorem ext_take (s : ByteArray) (a b : Nat) : s.extract a b = ⟨((s.data.toList.drop a).take (b - a)).toArray⟩ := by
  apply ByteArray.ext
  apply Array.toList_inj.1
  rw [ByteArray.data_extract, Array.toList_extract, List.extract_eq_take_drop]
theorem idx_spec (c : UInt8) : ∀ m : List UInt8, (Lib.indexByte m c = -1 ∧ c ∉ m) ∨ ∃ e : Nat, Lib.indexByte m c = e ∧ m[e]? = some c ∧ c ∉ m.take e
  | [] => .inl ⟨rfl, by simp⟩
  | b :: l => by
    unfold Lib.indexByte
    by_cases hb : b = c
    · subst hb
      exact .inr ⟨0, by simp, by simp, by simp⟩
    · have hb' : (b == c) = false := beq_eq_false_iff_ne.2 hb
      have hcb : ¬ c = b := fun e => hb e.symm
      rcases idx_spec c l with ⟨h1, h2⟩ | ⟨e, h1, h2, h3⟩
      · exact .inl ⟨by simp [hb', h1], by simp [h2, hcb]⟩
      · refine .inr ⟨e + 1, ?_, by simpa using h2, by simp [h3, hcb]⟩
        have : ((e : Int) == -1) = false := beq_eq_false_iff_ne.2 (by omega)
        simp [hb', h1, this]
theorem numOf_no {m : List UInt8} (h : (59 : UInt8) ∉ m) : numOf m = none := by
  unfold numOf
  rw [if_neg]
  rintro ⟨_, _, h3, _⟩
  exact h (List.mem_of_getElem? h3)
theorem tw_all {m : List UInt8} {e : Nat} (he : m[e]? = some 59) (ha : (m.take e).all dig = true) : m.takeWhile dig = m.take e := by
  have hl := (List.getElem?_eq_some_iff.1 he).1
  have h59 : m[e] = 59 := (List.getElem?_eq_some_iff.1 he).2
  conv => lhs; rw [← List.take_append_drop e m]
  rw [List.drop_eq_getElem_cons hl, h59, List.takeWhile_append_of_pos (by simpa using ha)]
  simp [dig]
theorem tw_some {m : List UInt8} {e : Nat} (ha : (m.take e).all dig = false) : (m.takeWhile dig).length < e ∧ (m.takeWhile dig).length < m.length := by
  rw [List.all_eq_false] at ha
  obtain ⟨x, hx, hd⟩ := ha
  obtain ⟨i, hi, hxi⟩ := List.getElem_of_mem hx
  have hi' : i < e ∧ i < m.length := by rw [List.length_take] at hi; omega
  have hle : (m.takeWhile dig).length ≤ i := by
    rcases Nat.lt_or_ge i (m.takeWhile dig).length with h | h
    · exfalso
      have hpre := List.takeWhile_prefix (l := m) dig
      have hget : (m.takeWhile dig)[i] = m[i]'(by omega) := hpre.getElem h
      have hmem : (m.takeWhile dig)[i] ∈ m.takeWhile dig := List.getElem_mem h
      have hdig : dig (m.takeWhile dig)[i] = true := by
        have := List.all_takeWhile (l := m) (p := dig)
        rw [List.all_eq_true] at this
        exact this _ hmem
      rw [hget] at hdig
      rw [List.getElem_take] at hxi
      rw [hxi] at hdig
      exact hd hdig
    · exact h
  omega
theorem numOf_at {m : List UInt8} {e : Nat} (he : m[e]? = some 59) (hn : (59 : UInt8) ∉ m.take e) : numOf m = if (m.take e).all dig = true ∧ e ≠ 0 ∧ e ≤ 3 ∧ 32 ≤ val (m.take e) ∧ val (m.take e) ≤ 126 then some ((val (m.take e)).toUInt8, e + 3) else none := by
  have hl := (List.getElem?_eq_some_iff.1 he).1
  cases ha : (m.take e).all dig with
  | true =>
    unfold numOf
    rw [tw_all he ha]
    have : (m.take e).length = e := by rw [List.length_take]; omega
    rw [this]
    simp [he]
  | false =>
    rw [if_neg (by simp)]
    have h := tw_some ha
    unfold numOf
    rw [if_neg]
    rintro ⟨_, _, h3, _⟩
    apply hn
    rw [List.mem_take_iff_getElem]
    exact ⟨_, by omega, (List.getElem?_eq_some_iff.1 h3).2⟩
def Reads (o : Option (UInt8 × Nat)) (b : UInt8) (n : Nat) : Prop := o = some (b, n) ∨ (o = none ∧ (n = 0 ∨ plainB b = false))
theorem val_byte {v : Nat} (h : v ≤ 126) : v.toUInt8.toNat = v := by simp [Nat.toUInt8]; omega
set_option maxHeartbeats 1000000 in
theorem readNumbered (s : ByteArray) (m : List UInt8) (w : World) (hs : s.size ≤ 400) (hm : s.data.toList = 38 :: 35 :: m) (hz : m.head? ≠ some 48) :
    Calls Tryd.prog 26 #[.string s] w fun e w' => ∃ (b : UInt8) (n : Nat), e = .returned (.tuple #[.int .u8 b.toNat, .int .i64 n]) ∧ Reads (numOf m) b n ∧ w' = w := by
  have hsz : s.size = m.length + 2 := by rw [← len_size, hm]; rfl
  rcases idx_spec 59 m with ⟨h1, h2⟩ | ⟨e, h1, h2, h3⟩
  · have HI : Hid (Lib.indexByte s.data.toList (59 : Int).toNat.toUInt8 = -1) := hid (by
      rw [hm]
      show Lib.indexByte (38 :: 35 :: m) 59 = -1
      unfold Lib.indexByte
      unfold Lib.indexByte
      rw [h1]
      rfl)
    have HN := numOf_no h2
    clear hm
    go_enter Tryd.func26, Tryd.ntmps26
    go_wp2_with fail
    refine (Tryd.strings_IndexByte s 59 w).mono ?_
    rintro e w' ⟨rfl, rfl⟩
    rw [HI.out]
    go_wp2
    go_ret2
    exact ⟨0, 0, rfl, .inr ⟨HN, .inl rfl⟩, rfl⟩
  · have HI : Hid (Lib.indexByte s.data.toList (59 : Int).toNat.toUInt8 = ((e + 2 : Nat) : Int)) := hid (by
      rw [hm]
      show Lib.indexByte (38 :: 35 :: m) 59 = _
      unfold Lib.indexByte
      unfold Lib.indexByte
      rw [h1]
      have e1 : ((e : Int) == -1) = false := beq_eq_false_iff_ne.2 (by omega)
      have e2 : ((e : Int) + 1 == -1) = false := beq_eq_false_iff_ne.2 (by omega)
      have e3 : ((38 : UInt8) == 59) = false := by decide
      have e4 : ((35 : UInt8) == 59) = false := by decide
      simp only [e1, e2, e3, e4, if_false, Bool.false_eq_true]
      omega)
    have hl := (List.getElem?_eq_some_iff.1 h2).1
    have HD : Hid ((s.extract 2 (e + 2)).data.toList = m.take e) := hid (by
      rw [ext_take, hm]
      simp)
    have HN := numOf_at h2 h3
    have hds : (s.extract 2 (e + 2)).size ≤ 400 := by
      rw [← len_size, HD.out, List.length_take]; omega
    have q1 : ((e + 2 : Nat) : Int) ≤ (s.size : Int) := by omega
    have q2 : ¬ ((e + 2 : Nat) : Int) < 0 := by omega
    have q3 : (2 : Int) ≤ ((e + 2 : Nat) : Int) := by omega
    clear hm
    generalize hE : e + 2 = E at *
    go_enter Tryd.func26, Tryd.ntmps26
    go_wp2_with fail
    refine (Tryd.strings_IndexByte s 59 w).mono ?_
    rintro e' w' ⟨rfl, rfl⟩
    rw [HI.out]
    go_wp2_with fail
    refine (readNumber _ _ hds).mono ?_
    rintro e' w' ⟨rfl, rfl⟩
    rw [HD.out]
    cases hI : numI (m.take e) with
    | none =>
      have HN' : Hid (numOf m = none) := hid (by
        rw [HN, if_neg]
        rintro ⟨ha, h0, he3, _⟩
        unfold numI at hI
        rw [if_neg] at hI
        · cases hI
        · have hlt : (m.take e).length = e := by rw [List.length_take]; omega
          rintro (h | h | ⟨h, _⟩ | h)
          · rw [h] at hlt; exact h0 hlt.symm
          · omega
          · apply hz
            obtain ⟨k, rfl⟩ := Nat.exists_eq_succ_of_ne_zero h0
            cases m with
            | nil => simp at h
            | cons c r => simpa using h
          · rw [ha] at h; cases h)
      unfold numV
      go_wp2
      go_ret2
      exact ⟨0, 0, rfl, .inr ⟨HN'.out, .inl rfl⟩, rfl⟩
    | some v =>
      have hI' : (m.take e).all dig = true ∧ e ≠ 0 ∧ e ≤ 3 ∧ val (m.take e) = v := by
        have hlt : (m.take e).length = e := by rw [List.length_take]; omega
        unfold numI at hI
        split at hI
        · cases hI
        · rename_i hc
          have hc1 : ¬ m.take e = [] := fun h => hc (.inl h)
          have hc2 : ¬ 3 < (m.take e).length := fun h => hc (.inr (.inl h))
          have hc3 : ¬ (m.take e).all dig = false := fun h => hc (.inr (.inr (.inr h)))
          refine ⟨by simpa using hc3, fun h => hc1 (by rw [h]; rfl), by omega, Option.some.inj hI⟩
      obtain ⟨ha, h0, he3, hv⟩ := hI'
      have hv3 : v < 1000 := by
        have := val_lt 3 (m.take e) (by rw [List.length_take]; omega) ha
        rw [hv] at this
        simpa using this
      rw [ha, hv] at HN
      have HN' : Hid (numOf m = if 32 ≤ v ∧ v ≤ 126 then some (v.toUInt8, E + 1) else none) := hid (by
        rw [HN, ← hE]
        simp [h0, he3])
      clear HN hI hv ha
      unfold numV
      by_cases hv126 : 126 < v
      · have HF : Hid (numOf m = none) := hid (by rw [HN'.out, if_neg]; omega)
        have q4 : (126 : Int) < (v : Int) := by omega
        go_wp2
        go_ret2
        exact ⟨0, 0, rfl, .inr ⟨HF.out, .inl rfl⟩, rfl⟩
      · have q4 : ¬ (126 : Int) < (v : Int) := by omega
        have q5 : (v : Int) ≤ 255 := by omega
        have hvb := val_byte (v := v) (by omega)
        go_wp2
        go_ret2
        refine ⟨v.toUInt8, E + 1, ?_, ?_, rfl⟩
        · rw [hvb]
          rfl
        · by_cases h32 : 32 ≤ v
          · exact .inl (by rw [HN'.out, if_pos ⟨h32, by omega⟩])
          · exact .inr ⟨by rw [HN'.out, if_neg (by omega)], .inr (by unfold plainB; rw [hvb, decide_eq_false h32]; rfl)⟩
end Un
end Go.Proofs.YtbnpejijfnigaaaDoor

