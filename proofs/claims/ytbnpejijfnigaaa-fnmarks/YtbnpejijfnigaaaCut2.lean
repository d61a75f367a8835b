/- Where a mark ends, as the specification's l1End tells it. -/
import Derived.Test.YtbnpejijfnigaaaCut1
namespace Go.Proofs.Ytbnpejijfnigaaa
open Go.Shelf Go.RowKit
set_option linter.unusedVariables false
namespace Cut
theorem pre_take (l p : List UInt8) : Lib.hasPrefix l p = (l.take p.length == p) := by
  rw [Bool.eq_iff_iff, beq_iff_eq]
  unfold Lib.hasPrefix
  rw [List.isPrefixOf_iff_prefix, List.prefix_iff_eq_take]
  exact eq_comm
theorem st_yes (s p : ByteArray) (k : Nat) : ((s.extract k (k + p.size)).toList == p.toList) = Lib.hasPrefix (s.data.toList.drop k) p.data.toList := by
  rw [pre_take, ByteArray.toList_eq, ByteArray.toList_eq, Lib.extract_data, len_size, Nat.add_sub_cancel_left]
theorem st_no (s p : ByteArray) (k : Nat) (h : ¬ k + p.size ≤ s.size) (hk : k ≤ s.size) : Lib.hasPrefix (s.data.toList.drop k) p.data.toList = false := by
  rw [Bool.eq_false_iff]
  intro e
  have := List.IsPrefix.length_le (List.isPrefixOf_iff_prefix.1 e)
  rw [List.length_drop, len_size, len_size] at this
  omega
theorem ret_bool {a b : Bool} (h : a = b) : Ending.returned (.bool a) = .returned (.bool b) := by rw [h]
set_option maxHeartbeats 1000000 in
theorem specStarts (s p : ByteArray) (k : Nat) (w : World) (hs2 : s.size ≤ 1048576) (hk : k ≤ s.size) (hp : p.size ≤ 10) :
    Calls Try.prog 24 #[.string s, .int .i64 k, .string p] w fun e w' => e = .returned (.bool (Lib.hasPrefix (s.data.toList.drop k) p.data.toList)) ∧ w' = w := by
  by_cases h : k + p.size ≤ s.size
  · have b0 : (k : Int) + (p.size : Int) ≤ (s.size : Int) := by omega
    go_enter Try.func24, Try.ntmps24
    go_wp2
    go_ret
    exact ⟨ret_bool (st_yes s p k), rfl⟩
  · have b0 : ¬ (k : Int) + (p.size : Int) ≤ (s.size : Int) := by omega
    have HN : Hid (Lib.hasPrefix (s.data.toList.drop k) p.data.toList = false) := st_no s p k h hk
    go_enter Try.func24, Try.ntmps24
    go_wp2
    go_ret
    exact ⟨ret_bool HN.out.symm, rfl⟩
def endVal (l : List UInt8) (k : Nat) : Nat := if markLen (l.drop k) = 0 then 0 else k + markLen (l.drop k)
theorem drop3 (l : List UInt8) (k m q : Nat) (h : k + m ≤ q) : ((l.drop k).drop m).drop (q - (k + m)) = l.drop q := by
  rw [List.drop_drop, List.drop_drop]; congr 1; omega
theorem end_no {s : ByteArray} {p : List UInt8} {k m q : Nat} (h1 : k + m ≤ q) (h : fe p ((s.data.toList.drop k).drop m) = (fe p (((s.data.toList.drop k).drop m).drop (q - (k + m)))).map (· + (q - (k + m)))) (hq : q < s.size) (hp : Lib.hasPrefix (s.data.toList.drop q) p = false) :
    fe p ((s.data.toList.drop k).drop m) = (fe p (((s.data.toList.drop k).drop m).drop (q + 1 - (k + m)))).map (· + (q + 1 - (k + m))) := by
  rw [show q + 1 - (k + m) = q - (k + m) + 1 from by omega]
  exact fe_drop_no h (by rw [List.length_drop, List.length_drop, len_size]; omega) (by rw [drop3 _ _ _ _ h1]; exact hp)
theorem end_yes {s : ByteArray} {p : List UInt8} {k m q n : Nat} (hn : p.length = n) (hM : markLen (s.data.toList.drop k) = endBy p m ((s.data.toList.drop k).drop m)) (h1 : k + m ≤ q) (h : fe p ((s.data.toList.drop k).drop m) = (fe p (((s.data.toList.drop k).drop m).drop (q - (k + m)))).map (· + (q - (k + m)))) (hq : q < s.size) (hp : Lib.hasPrefix (s.data.toList.drop q) p = true) (hm : 0 < m := by decide) :
    endVal s.data.toList k = q + n := by
  have h2 := end_some (m := m) (fe_drop_yes h (by rw [List.length_drop, List.length_drop, len_size]; omega) (by rw [drop3 _ _ _ _ h1]; exact hp))
  unfold endVal
  rw [hM, h2, hn, if_neg (by omega)]
  omega
theorem end_end {s : ByteArray} {p : List UInt8} {k m q : Nat} (hM : markLen (s.data.toList.drop k) = endBy p m ((s.data.toList.drop k).drop m)) (h : fe p ((s.data.toList.drop k).drop m) = (fe p (((s.data.toList.drop k).drop m).drop (q - (k + m)))).map (· + (q - (k + m)))) (hk : k + m ≤ q) (hq : ¬ q < s.size) : endVal s.data.toList k = 0 := by
  unfold endVal
  rw [hM, end_none (fe_drop_end h (by rw [List.length_drop, List.length_drop, len_size]; omega)), if_pos rfl]
theorem mark_gt {s : ByteArray} {k : Nat} (hk : k < s.size) (h60 : s[k].toNat = 60) (hc : Lib.hasPrefix (s.data.toList.drop k) comB = false) : markLen (s.data.toList.drop k) = endBy [62] 1 ((s.data.toList.drop k).drop 1) := by
  rw [markLen_gt hc]
  have h0 := fe_drop_no (fe_zero [62] (s.data.toList.drop k)) (by rw [List.length_drop, len_size]; omega) (by rw [List.drop_drop, Nat.add_zero, pre_byte s k hk]; exact byte_ne s k hk (by omega))
  unfold endBy
  rw [h0]
  cases fe [62] (List.drop (0 + 1) (List.drop k s.data.toList)) <;> simp
  omega
theorem com_size {s : ByteArray} {k : Nat} (hk : k < s.size) (hc : Lib.hasPrefix (s.data.toList.drop k) comB = true) : k + 4 ≤ s.size := by
  have := List.IsPrefix.length_le (List.isPrefixOf_iff_prefix.1 hc)
  rw [List.length_drop, len_size] at this
  have : comB.length = 4 := rfl
  omega

set_option maxHeartbeats 2000000 in
theorem specEndGt (s : ByteArray) (k : Nat) (w : World) (hs2 : s.size ≤ 1048576) (hk : k < s.size) (h60 : s[k].toNat = 60) (hc : Lib.hasPrefix (s.data.toList.drop k) comB = false) :
    Calls Try.prog 21 #[.string s, .int .i64 k] w fun e w' => e = .returned (.int .i64 (endVal s.data.toList k)) ∧ w' = w := by
  have HC : Hid (Lib.hasPrefix (s.data.toList.drop k) comB = false) := hc
  have HM : Hid (markLen (s.data.toList.drop k) = endBy [62] 1 ((s.data.toList.drop k).drop 1)) := mark_gt hk h60 hc
  have hk4 : k + 1 ≤ s.size := by omega
  clear hc h60
  go_enter Try.func21, Try.ntmps21
  go_wp2_with fail
  refine (specStarts s _ k _ hs2 (by omega) (by simp [ByteArray.size])).mono ?_
  rintro e w' ⟨rfl, rfl⟩
  rw [show Lib.hasPrefix (s.data.toList.drop k) ({ data := #[60, 33, 45, 45] } : ByteArray).data.toList = false from HC.out]
  go_wp2_with fail
  go_loop [7] (fun i => ∃ q : Nat, i = .int .i64 q ∧ k + 1 ≤ q ∧ q ≤ s.size ∧ Hid (fe [62] ((s.data.toList.drop k).drop 1) = (fe [62] (((s.data.toList.drop k).drop 1).drop (q - (k + 1)))).map (· + (q - (k + 1))))) (fun i => s.size - (intOf i).toNat)
  case atStart => exact ⟨k + 1, by simp, Nat.le_refl _, hk4, hid (by simp)⟩
  case round =>
    obtain ⟨q, rfl, hq1, hq2, HQ⟩ := hrel
    by_cases hlt : q < s.size
    · cases hp : Lib.hasPrefix (s.data.toList.drop q) [62]
      · have HN : Hid (fe [62] ((s.data.toList.drop k).drop 1) = (fe [62] (((s.data.toList.drop k).drop 1).drop (q + 1 - (k + 1)))).map (· + (q + 1 - (k + 1)))) := end_no hq1 HQ.out hlt hp
        have HP : Hid (Lib.hasPrefix (s.data.toList.drop q) [62] = false) := hp
        clear hp
        go_wp2_with fail
        refine (specStarts s _ q _ hs2 (by omega) (by simp [ByteArray.size])).mono ?_
        rintro e w' ⟨rfl, rfl⟩
        rw [show Lib.hasPrefix (s.data.toList.drop q) ({ data := #[62] } : ByteArray).data.toList = false from HP.out]
        go_wp2
        exact ⟨⟨q + 1, by simp, by omega, by omega, HN⟩, by simp [intOf]; omega⟩
      · have HV : Hid (endVal s.data.toList k = q + 1) := end_yes rfl HM.out hq1 HQ.out hlt hp
        have HP : Hid (Lib.hasPrefix (s.data.toList.drop q) [62] = true) := hp
        clear hp
        go_wp2_with fail
        refine (specStarts s _ q _ hs2 (by omega) (by simp [ByteArray.size])).mono ?_
        rintro e w' ⟨rfl, rfl⟩
        rw [show Lib.hasPrefix (s.data.toList.drop q) ({ data := #[62] } : ByteArray).data.toList = true from HP.out]
        go_wp2
        go_ret
        exact ⟨ret_nat (by rw [HV.out]; simp), rfl⟩
    · have HV : Hid (endVal s.data.toList k = 0) := end_end HM.out HQ.out (by omega) hlt
      go_wp2
      go_ret
      exact ⟨ret_nat (by rw [HV.out]; rfl), rfl⟩

set_option maxHeartbeats 2000000 in
theorem specEndCom (s : ByteArray) (k : Nat) (w : World) (hs2 : s.size ≤ 1048576) (hk : k < s.size) (h60 : s[k].toNat = 60) (hc : Lib.hasPrefix (s.data.toList.drop k) comB = true) :
    Calls Try.prog 21 #[.string s, .int .i64 k] w fun e w' => e = .returned (.int .i64 (endVal s.data.toList k)) ∧ w' = w := by
  have HC : Hid (Lib.hasPrefix (s.data.toList.drop k) comB = true) := hc
  have HM : Hid (markLen (s.data.toList.drop k) = endBy comE 4 ((s.data.toList.drop k).drop 4)) := markLen_com hc
  have hk4 : k + 4 ≤ s.size := com_size hk hc
  clear hc h60
  go_enter Try.func21, Try.ntmps21
  go_wp2_with fail
  refine (specStarts s _ k _ hs2 (by omega) (by simp [ByteArray.size])).mono ?_
  rintro e w' ⟨rfl, rfl⟩
  rw [show Lib.hasPrefix (s.data.toList.drop k) ({ data := #[60, 33, 45, 45] } : ByteArray).data.toList = true from HC.out]
  go_wp2_with fail
  go_loop [7] (fun i => ∃ q : Nat, i = .int .i64 q ∧ k + 4 ≤ q ∧ q ≤ s.size ∧ Hid (fe comE ((s.data.toList.drop k).drop 4) = (fe comE (((s.data.toList.drop k).drop 4).drop (q - (k + 4)))).map (· + (q - (k + 4))))) (fun i => s.size - (intOf i).toNat)
  case atStart => exact ⟨k + 4, by simp, Nat.le_refl _, hk4, hid (by simp)⟩
  case round =>
    obtain ⟨q, rfl, hq1, hq2, HQ⟩ := hrel
    by_cases hlt : q < s.size
    · cases hp : Lib.hasPrefix (s.data.toList.drop q) comE
      · have HN : Hid (fe comE ((s.data.toList.drop k).drop 4) = (fe comE (((s.data.toList.drop k).drop 4).drop (q + 1 - (k + 4)))).map (· + (q + 1 - (k + 4)))) := end_no hq1 HQ.out hlt hp
        have HP : Hid (Lib.hasPrefix (s.data.toList.drop q) comE = false) := hp
        clear hp
        go_wp2_with fail
        refine (specStarts s _ q _ hs2 (by omega) (by simp [ByteArray.size])).mono ?_
        rintro e w' ⟨rfl, rfl⟩
        rw [show Lib.hasPrefix (s.data.toList.drop q) ({ data := #[45, 45, 62] } : ByteArray).data.toList = false from HP.out]
        go_wp2
        exact ⟨⟨q + 1, by simp, by omega, by omega, HN⟩, by simp [intOf]; omega⟩
      · have HV : Hid (endVal s.data.toList k = q + 3) := end_yes rfl HM.out hq1 HQ.out hlt hp
        have HP : Hid (Lib.hasPrefix (s.data.toList.drop q) comE = true) := hp
        clear hp
        go_wp2_with fail
        refine (specStarts s _ q _ hs2 (by omega) (by simp [ByteArray.size])).mono ?_
        rintro e w' ⟨rfl, rfl⟩
        rw [show Lib.hasPrefix (s.data.toList.drop q) ({ data := #[45, 45, 62] } : ByteArray).data.toList = true from HP.out]
        go_wp2
        go_ret
        exact ⟨ret_nat (by rw [HV.out]; simp), rfl⟩
    · have HV : Hid (endVal s.data.toList k = 0) := end_end HM.out HQ.out (by omega) hlt
      go_wp2
      go_ret
      exact ⟨ret_nat (by rw [HV.out]; rfl), rfl⟩

theorem specEnd (s : ByteArray) (k : Nat) (w : World) (hs2 : s.size ≤ 1048576) (hk : k < s.size) (h60 : s[k].toNat = 60) :
    Calls Try.prog 21 #[.string s, .int .i64 k] w fun e w' => e = .returned (.int .i64 (endVal s.data.toList k)) ∧ w' = w := by
  cases hc : Lib.hasPrefix (s.data.toList.drop k) comB
  · exact specEndGt s k w hs2 hk h60 hc
  · exact specEndCom s k w hs2 hk h60 hc
end Cut
end Go.Proofs.Ytbnpejijfnigaaa
