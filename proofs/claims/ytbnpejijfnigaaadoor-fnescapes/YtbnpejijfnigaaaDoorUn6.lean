/- What the specification's l1Starts and l1Number answer. -/
import Derived.Test.YtbnpejijfnigaaaDoorUn2
namespace Go.Proofs.YtbnpejijfnigaaaDoor
open Go.Shelf Go.RowKit
set_option linter.unusedVariables false
namespace Un
open Esc
theorem pre_take (l p : List UInt8) : Lib.hasPrefix l p = (l.take p.length == p) := by
  rw [Bool.eq_iff_iff, beq_iff_eq]
  unfold Lib.hasPrefix
  rw [List.isPrefixOf_iff_prefix, List.prefix_iff_eq_take]
  exact eq_comm
theorem st_yes (s p : ByteArray) (k : Nat) : ((s.extract k (k + p.size)).toList == p.toList) = Lib.hasPrefix (s.data.toList.drop k) p.data.toList := by
  rw [pre_take, ByteArray.toList_eq, ByteArray.toList_eq, ext_take, len_size, Nat.add_sub_cancel_left]
theorem st_no (s p : ByteArray) (k : Nat) (h : ¬ k + p.size ≤ s.size) (hk : k ≤ s.size) : Lib.hasPrefix (s.data.toList.drop k) p.data.toList = false := by
  rw [Bool.eq_false_iff]
  intro e
  have := List.IsPrefix.length_le (List.isPrefixOf_iff_prefix.1 e)
  rw [List.length_drop, len_size, len_size] at this
  omega
theorem ret_bool {a b : Bool} (h : a = b) : Ending.returned (.bool a) = .returned (.bool b) := by rw [h]
set_option maxHeartbeats 1000000 in
theorem specStarts (s p : ByteArray) (k : Nat) (w : World) (hs2 : s.size ≤ 1048576) (hk : k ≤ s.size) (hp : p.size ≤ 10) :
    Calls Tryd.prog 30 #[.string s, .int .i64 k, .string p] w fun e w' => e = .returned (.bool (Lib.hasPrefix (s.data.toList.drop k) p.data.toList)) ∧ w' = w := by
  by_cases h : k + p.size ≤ s.size
  · have b0 : (k : Int) + (p.size : Int) ≤ (s.size : Int) := by omega
    go_enter Tryd.func30, Tryd.ntmps30
    go_wp2
    go_ret
    exact ⟨ret_bool (st_yes s p k), rfl⟩
  · have b0 : ¬ (k : Int) + (p.size : Int) ≤ (s.size : Int) := by omega
    have HN : Hid (Lib.hasPrefix (s.data.toList.drop k) p.data.toList = false) := st_no s p k h hk
    go_enter Tryd.func30, Tryd.ntmps30
    go_wp2
    go_ret
    exact ⟨ret_bool HN.out.symm, rfl⟩
theorem numOf_some {m : List UInt8} {p : UInt8 × Nat} (h : numOf m = some p) : ∃ e, e ≠ 0 ∧ e ≤ 3 ∧ m[e]? = some 59 ∧ (m.take e).all dig = true := by
  unfold numOf at h
  split at h
  · rename_i hc
    refine ⟨(m.takeWhile dig).length, hc.1, hc.2.1, hc.2.2.1, ?_⟩
    rw [← List.prefix_iff_eq_take.1 (List.takeWhile_prefix (l := m) dig)]
    exact List.all_takeWhile
  · cases h
/-- Where the reading of digits stops. -/
def Stops (m : List UInt8) (j : Nat) : Prop := j ≤ 3 ∧ j ≤ m.length ∧ (m.take j).all dig = true ∧ (j = m.length ∨ j = 3 ∨ ∃ h : j < m.length, dig m[j] = false)
theorem dig_at {m : List UInt8} {e j : Nat} (h : (m.take e).all dig = true) (hj : j < e) (hl : j < m.length) : dig m[j] = true := by
  rw [List.all_eq_true] at h
  apply h
  rw [List.mem_take_iff_getElem]
  exact ⟨j, by omega, rfl⟩
theorem Stops.no {m : List UInt8} {j : Nat} (h : Stops m j) (hb : j = 0 ∨ m[j]? ≠ some 59) : numOf m = none := by
  cases hn : numOf m with
  | none => rfl
  | some p =>
    exfalso
    obtain ⟨e, h0, h3, h59, ha⟩ := numOf_some hn
    obtain ⟨j3, jl, ja, js⟩ := h
    have hel := (List.getElem?_eq_some_iff.1 h59).1
    have he59 : m[e] = 59 := (List.getElem?_eq_some_iff.1 h59).2
    rcases Nat.lt_trichotomy e j with hlt | heq | hgt
    · have := dig_at ja hlt hel
      rw [he59] at this
      revert this; decide
    · subst heq
      rcases hb with hb | hb
      · exact h0 hb
      · exact hb h59
    · rcases js with h | h | ⟨hl, h⟩
      · omega
      · omega
      · rw [dig_at ha hgt hl] at h; cases h
theorem Stops.at {m : List UInt8} {j : Nat} (h : Stops m j) (h0 : j ≠ 0) (hb : m[j]? = some 59) : numOf m = if 32 ≤ val (m.take j) ∧ val (m.take j) ≤ 126 then some ((val (m.take j)).toUInt8, j + 3) else none := by
  obtain ⟨j3, jl, ja, js⟩ := h
  rw [numOf_at hb (fun hm => by
    rw [List.all_eq_true] at ja
    have := ja _ hm
    revert this; decide)]
  simp [ja, h0, j3]
theorem drop_at (s : ByteArray) (k j : Nat) (h : k + j < s.size) : (s.data.toList.drop k)[j]? = some s[k + j] := by
  rw [List.getElem?_drop, List.getElem?_eq_getElem (by rw [len_size]; exact h)]
  rfl
theorem drop_get (s : ByteArray) (k j : Nat) (h : k + j < s.size) (h' : j < (s.data.toList.drop k).length) : (s.data.toList.drop k)[j] = s[k + j] := by
  have := drop_at s k j h
  rw [List.getElem?_eq_getElem h'] at this
  exact Option.some.inj this
set_option maxHeartbeats 2000000 in
theorem specNumber (s : ByteArray) (a : Nat) (w : World) (hs : s.size ≤ 1048576) (ha : a + 2 ≤ s.size) :
    Calls Tryd.prog 31 #[.string s, .int .i64 a] w fun e w' => ∃ (b : UInt8) (n : Nat), e = .returned (.tuple #[.int .u8 b.toNat, .int .i64 n]) ∧ (numOf (s.data.toList.drop (a + 2)) = some (b, n) ∨ (numOf (s.data.toList.drop (a + 2)) = none ∧ n = 0)) ∧ w' = w := by
  have HLEN : Hid ((s.data.toList.drop (a + 2)).length = s.size - (a + 2)) := hid (by rw [List.length_drop, len_size])
  have HAT := hid (drop_at s (a + 2))
  have HGT := hid (drop_get s (a + 2))
  generalize s.data.toList.drop (a + 2) = m at *
  go_enter Tryd.func31, Tryd.ntmps31
  go_wp2_with fail
  go_loop [6, 7] (fun n i => ∃ j : Nat, j ≤ 3 ∧ a + 2 + j ≤ s.size ∧ i = .int .i64 ((a + 2 + j : Nat) : Int) ∧ n = .int .i64 (val (m.take j)) ∧ Hid ((m.take j).all dig = true)) (fun _ i => s.size - (intOf i).toNat)
  case atStart => exact ⟨0, by omega, by omega, by go_num, rfl, rfl⟩
  case round =>
    obtain ⟨j, hj3, hjs, rfl, rfl, HA⟩ := hrel
    have hjl : j ≤ m.length := by rw [HLEN.out]; omega
    have hv : val (m.take j) < 1000 := by
      have := val_lt 3 (m.take j) (by rw [List.length_take]; omega) HA.out
      simpa using this
    have stop : ∀ (hst : j = m.length ∨ j = 3 ∨ ∃ h : j < m.length, dig m[j] = false), Hid (Stops m j) := fun hst => ⟨hj3, hjl, HA.out, hst⟩
    have HST := hid stop
    clear stop
    generalize hq : a + 2 + j = q at *
    by_cases h1 : q < s.size
    · have hjm : j < m.length := by rw [HLEN.out]; omega
      have hat : m[j]? = some s[q] := by have := HAT.out j (by omega); rw [this]; subst hq; rfl
      have hgt : m[j] = s[q] := by rw [HGT.out j (by omega) hjm]; subst hq; rfl
      by_cases h2 : j < 3
      · have q2 : (q : Int) < (a : Int) + 5 := by omega
        by_cases h48 : s[q].toNat < 48
        · have HS := (HST.out (.inr (.inr ⟨hjm, by rw [hgt]; exact dig_lo h48⟩)))
          have b1 : ¬ (48 : Int) ≤ (s[q].toNat : Int) := by omega
          by_cases hj0 : j = 0
          · have HN := hid (HS.out.no (.inl hj0))
            have b0 : ((q : Int) == (a : Int) + 2) = true := beq_iff_eq.2 (by omega)
            go_wp2
            go_ret2
            exact ⟨0, 0, rfl, .inr ⟨HN.out, rfl⟩, rfl⟩
          have b0 : ((q : Int) == (a : Int) + 2) = false := beq_eq_false_iff_ne.2 (by omega)
          have HN := hid (HS.out.no (.inr (by rw [hat]; intro e; rw [Option.some.inj e] at h48; revert h48; decide)))
          have b5 : ((s[q].toNat : Int) != 59) = true := by rw [bne_iff_ne]; omega
          go_wp2
          go_ret2
          exact ⟨0, 0, rfl, .inr ⟨HN.out, rfl⟩, rfl⟩
        by_cases h57 : 57 < s[q].toNat
        · have HS := (HST.out (.inr (.inr ⟨hjm, by rw [hgt]; exact dig_hi h57⟩)))
          have b1 : (48 : Int) ≤ (s[q].toNat : Int) := by omega
          have b2 : ¬ (s[q].toNat : Int) ≤ 57 := by omega
          by_cases hj0 : j = 0
          · have HN := hid (HS.out.no (.inl hj0))
            have b0 : ((q : Int) == (a : Int) + 2) = true := beq_iff_eq.2 (by omega)
            go_wp2
            go_ret2
            exact ⟨0, 0, rfl, .inr ⟨HN.out, rfl⟩, rfl⟩
          have b0 : ((q : Int) == (a : Int) + 2) = false := beq_eq_false_iff_ne.2 (by omega)
          by_cases h59 : s[q].toNat = 59
          · have hm59 : m[j]? = some 59 := by rw [hat]; exact congrArg some (byte_eq (k := 59) (by decide) h59)
            have HN := hid (HS.out.at hj0 hm59)
            have b5 : ((s[q].toNat : Int) != 59) = false := by rw [h59]; rfl
            clear hat hgt hm59
            generalize val (m.take j) = v at *
            by_cases h32 : v < 32
            · have HN := hid (HN.out.trans (if_neg (by omega)))
              have b6 : (v : Int) < 32 := by omega
              go_wp2
              go_ret2
              exact ⟨0, 0, rfl, .inr ⟨HN.out, rfl⟩, rfl⟩
            by_cases h126 : 126 < v
            · have HN := hid (HN.out.trans (if_neg (by omega)))
              have b6 : ¬ (v : Int) < 32 := by omega
              have b7 : (126 : Int) < (v : Int) := by omega
              go_wp2
              go_ret2
              exact ⟨0, 0, rfl, .inr ⟨HN.out, rfl⟩, rfl⟩
            · have HN := hid (HN.out.trans (if_pos ⟨by omega, by omega⟩))
              have b6 : ¬ (v : Int) < 32 := by omega
              have b7 : ¬ (126 : Int) < (v : Int) := by omega
              have b8 : (v : Int) ≤ 126 := by omega
              have hvb := val_byte (v := v) (by omega)
              go_wp2
              go_ret2
              refine ⟨v.toUInt8, j + 3, ?_, .inl HN.out, rfl⟩
              rw [hvb, show ((j + 3 : Nat) : Int) = (q : Int) + 1 - (a : Int) from by omega]
              rfl
          · have HN := hid (HS.out.no (.inr (by rw [hat]; intro e; exact h59 (by rw [Option.some.inj e]; rfl))))
            have b5 : ((s[q].toNat : Int) != 59) = true := by rw [bne_iff_ne]; omega
            go_wp2
            go_ret2
            exact ⟨0, 0, rfl, .inr ⟨HN.out, rfl⟩, rfl⟩
        · have HX : Hid ((m.take (j + 1)).all dig = true ∧ val (m.take (j + 1)) = val (m.take j) * 10 + (s[q].toNat - 48)) := hid (by
            rw [List.take_succ_eq_append_getElem hjm, hgt, val_snoc, List.all_append, HA.out]
            simp [dig_yes h48 h57])
          generalize val (m.take j) = v at *
          clear hat hgt
          generalize hc : s[q].toNat = c at *
          have b1 : (48 : Int) ≤ (c : Int) := by omega
          have b2 : (c : Int) ≤ 57 := by omega
          go_wp2
          refine ⟨⟨j + 1, by omega, by omega, ?_, ?_, HX.out.1⟩, by simp [intOf]; omega⟩
          · congr 1; omega
          · rw [HX.out.2]; congr 1; omega
      · have hj3' : j = 3 := by omega
        have HS := HST.out (.inr (.inl hj3'))
        have q2 : ¬ (q : Int) < (a : Int) + 5 := by omega
        have hj0 : j ≠ 0 := by omega
        have b0 : ((q : Int) == (a : Int) + 2) = false := beq_eq_false_iff_ne.2 (by omega)
        by_cases h59 : s[q].toNat = 59
        · have hm59 : m[j]? = some 59 := by rw [hat]; exact congrArg some (byte_eq (k := 59) (by decide) h59)
          have HN := hid (HS.out.at hj0 hm59)
          have b5 : ((s[q].toNat : Int) != 59) = false := by rw [h59]; rfl
          clear hat hgt hm59
          generalize val (m.take j) = v at *
          by_cases h32 : v < 32
          · have HN := hid (HN.out.trans (if_neg (by omega)))
            have b6 : (v : Int) < 32 := by omega
            go_wp2
            go_ret2
            exact ⟨0, 0, rfl, .inr ⟨HN.out, rfl⟩, rfl⟩
          by_cases h126 : 126 < v
          · have HN := hid (HN.out.trans (if_neg (by omega)))
            have b6 : ¬ (v : Int) < 32 := by omega
            have b7 : (126 : Int) < (v : Int) := by omega
            go_wp2
            go_ret2
            exact ⟨0, 0, rfl, .inr ⟨HN.out, rfl⟩, rfl⟩
          · have HN := hid (HN.out.trans (if_pos ⟨by omega, by omega⟩))
            have b6 : ¬ (v : Int) < 32 := by omega
            have b7 : ¬ (126 : Int) < (v : Int) := by omega
            have b8 : (v : Int) ≤ 126 := by omega
            have hvb := val_byte (v := v) (by omega)
            go_wp2
            go_ret2
            refine ⟨v.toUInt8, j + 3, ?_, .inl HN.out, rfl⟩
            rw [hvb, show ((j + 3 : Nat) : Int) = (q : Int) + 1 - (a : Int) from by omega]
            rfl
        · have HN := hid (HS.out.no (.inr (by rw [hat]; intro e; exact h59 (by rw [Option.some.inj e]; rfl))))
          have b5 : ((s[q].toNat : Int) != 59) = true := by rw [bne_iff_ne]; omega
          go_wp2
          go_ret2
          exact ⟨0, 0, rfl, .inr ⟨HN.out, rfl⟩, rfl⟩
    · have HS := HST.out (.inl (by rw [HLEN.out]; omega))
      have q1 : ¬ (q : Int) < (s.size : Int) := by omega
      have q2 : (s.size : Int) ≤ (q : Int) := by omega
      by_cases hj0 : j = 0
      · have HN := hid (HS.out.no (.inl hj0))
        have b0 : ((q : Int) == (a : Int) + 2) = true := beq_iff_eq.2 (by omega)
        go_wp2
        go_ret2
        exact ⟨0, 0, rfl, .inr ⟨HN.out, rfl⟩, rfl⟩
      have b0 : ((q : Int) == (a : Int) + 2) = false := beq_eq_false_iff_ne.2 (by omega)
      have HN := hid (HS.out.no (.inr (by rw [List.getElem?_eq_none (by rw [HLEN.out]; omega)]; simp)))
      go_wp2
      go_ret2
      exact ⟨0, 0, rfl, .inr ⟨HN.out, rfl⟩, rfl⟩
end Un
end Go.Proofs.YtbnpejijfnigaaaDoor

