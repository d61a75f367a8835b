/- How many bytes the mark has that a text begins with, as the program's markSize tells it. -/
import Derived.Test.YtbnpejijfnigaaaRows
import Derived.Test.YtbnpejijfnigaaaShelf
import Derived.Test.YtbnpejijfnigaaaCut0
import Derived.WalkKit
import Derived.ProofKit
import Derived.WalkMore
import Derived.ScopeJumps
import Derived.WalkSpells
namespace Go.Proofs.Ytbnpejijfnigaaa
open Go.Shelf Go.RowKit
set_option linter.unusedVariables false
namespace Cut
theorem hid {p : Prop} (h : p) : Hid p := h
theorem len_size (s : ByteArray) : s.data.toList.length = s.size := by simp
theorem markLen_gt {l : List UInt8} (hc : Lib.hasPrefix l [60, 33, 45, 45] = false) : markLen l = endBy [62] 0 l := by
  unfold markLen; rw [if_neg]; unfold Lib.hasPrefix at hc; unfold comB; simp [hc]
theorem markLen_com {l : List UInt8} (hc : Lib.hasPrefix l [60, 33, 45, 45] = true) : markLen l = endBy comE 4 (l.drop 4) := by
  unfold markLen; rw [if_pos]; exact hc
theorem end_none {p l : List UInt8} {m : Nat} (h : fe p l = none) : endBy p m l = 0 := by unfold endBy; rw [h]
theorem end_some {p l : List UInt8} {m j : Nat} (h : fe p l = some j) : endBy p m l = m + j + p.length := by unfold endBy; rw [h]
theorem pre_byte (s : ByteArray) (k : Nat) (h : k < s.size) (c : UInt8) : [c].isPrefixOf (s.data.toList.drop k) = (c == s[k]) := by
  rw [pre_one c _ k (by simpa using h)]; rfl
theorem byte_eq (s : ByteArray) (k : Nat) (h : k < s.size) (h62 : s[k].toNat = 62) : ((62 : UInt8) == s[k]) = true := by
  rw [beq_iff_eq]; apply UInt8.toNat_inj.1; rw [h62]; rfl
theorem byte_ne (s : ByteArray) (k : Nat) (h : k < s.size) (h62 : s[k].toNat ≠ 62) : ((62 : UInt8) == s[k]) = false := by
  rw [beq_eq_false_iff_ne]; intro e; apply h62; rw [← e]; rfl
theorem gt_end {s : ByteArray} {k : Nat} (h : fe [62] s.data.toList = (fe [62] (s.data.toList.drop k)).map (· + k)) (hk : ¬ k < s.size) : endBy [62] 0 s.data.toList = 0 := end_none (fe_drop_end h (by rw [len_size]; omega))
theorem gt_yes {s : ByteArray} {k : Nat} (h : fe [62] s.data.toList = (fe [62] (s.data.toList.drop k)).map (· + k)) (hk : k < s.size) (h62 : s[k].toNat = 62) : endBy [62] 0 s.data.toList = k + 1 := by
  rw [end_some (fe_drop_yes h (by rw [len_size]; omega) (by rw [pre_byte s k hk]; exact byte_eq s k hk h62))]; simp
theorem gt_no {s : ByteArray} {k : Nat} (h : fe [62] s.data.toList = (fe [62] (s.data.toList.drop k)).map (· + k)) (hk : k < s.size) (h62 : s[k].toNat ≠ 62) : fe [62] s.data.toList = (fe [62] (s.data.toList.drop (k + 1))).map (· + (k + 1)) :=
  fe_drop_no h (by rw [len_size]; omega) (by rw [pre_byte s k hk]; exact byte_ne s k hk h62)
theorem ret_nat {a b : Int} (h : a = b) : Ending.returned (.int .i64 a) = .returned (.int .i64 b) := by rw [h]
set_option maxHeartbeats 2000000 in
theorem implMarkGt (s : ByteArray) (w : World) (hs : s.size ≤ maxLen) (hc : Lib.hasPrefix s.data.toList [60, 33, 45, 45] = false) :
    Calls Try.prog 22 #[.string s] w fun e w' => e = .returned (.int .i64 (endBy [62] 0 s.data.toList)) ∧ w' = w := by
  unfold maxLen at hs
  have HC : Hid (Lib.hasPrefix s.data.toList [60, 33, 45, 45] = false) := hc
  clear hc
  go_enter Try.func22, Try.ntmps22
  go_wp2_with fail
  refine wp_scope_jumps 1 (fun a' w' => w' = w ∧ ∃ (k : Nat) (u6 u7 u8 u9 u10 u11 u12 u13 u14 u15 u16 : Value), a' = { tmps := #[.string s, undef, .int .i64 0, .int .i64 k, .string s, .bool false, u6, u7, u8, u9, u10, u11, u12, u13, u14, u15, u16, undef, undef, undef, undef, undef, undef, undef, undef, undef, undef, undef, undef, undef], defers := [] } ∧ k ≤ s.size ∧ Hid (fe [62] s.data.toList = (fe [62] (s.data.toList.drop k)).map (· + k))) (fun a' _ => s.size - (intOf (a'.tmps.getD 3 undef)).toNat) rfl ?_ ?_
  · go_wp2_with fail
    refine (Try.strings_HasPrefix _ _ _).mono ?_
    rintro e w' ⟨rfl, rfl⟩
    rw [show Lib.hasPrefix s.data.toList ({ data := #[60, 33, 45, 45] } : ByteArray).data.toList = false from HC.out]
    have H0 : Hid (fe [62] s.data.toList = (fe [62] (s.data.toList.drop 0)).map (· + 0)) := fe_zero _ _
    go_wp2
    go_step3
    by_cases hlt : 0 < s.size
    · have b0 : ((0 : Int) == (s.size : Int)) = false := beq_eq_false_iff_ne.2 (by omega)
      by_cases h62 : s[0].toNat = 62
      · have HV : Hid (endBy [62] 0 s.data.toList = 0 + 1) := gt_yes H0.out hlt h62
        have b1 : ((s[0].toNat : Int) == 62) = true := beq_iff_eq.2 (by omega)
        clear h62
        go_wp2
        simp only [Exit.jump]
        go_ret
        exact ⟨ret_nat (by rw [HV.out]; rfl), rfl⟩
      · have HN : Hid (fe [62] s.data.toList = (fe [62] (s.data.toList.drop (0 + 1))).map (· + (0 + 1))) := gt_no H0.out hlt h62
        have b1 : ((s[0].toNat : Int) == 62) = false := beq_eq_false_iff_ne.2 (by omega)
        clear h62
        go_wp2
        go_step3
        exact ⟨rfl, rfl, 1, _, _, _, _, _, _, _, _, _, _, _, rfl, by omega, HN.out⟩
    · have HV : Hid (endBy [62] 0 s.data.toList = 0) := gt_end H0.out hlt
      have b0 : ((0 : Int) == (s.size : Int)) = true := beq_iff_eq.2 (by omega)
      go_wp2
      simp only [Exit.jump]
      go_ret
      exact ⟨ret_nat (by rw [HV.out]; rfl), rfl⟩
  · rintro a' w' ⟨rfl, k, u6, u7, u8, u9, u10, u11, u12, u13, u14, u15, u16, rfl, hk, HK⟩
    by_cases hlt : k < s.size
    · have b0 : ((k : Int) == (s.size : Int)) = false := beq_eq_false_iff_ne.2 (by omega)
      by_cases h62 : s[k].toNat = 62
      · have HV : Hid (endBy [62] 0 s.data.toList = k + 1) := gt_yes HK.out hlt h62
        have b1 : ((s[k].toNat : Int) == 62) = true := beq_iff_eq.2 (by omega)
        clear h62
        go_wp2
        simp only [Exit.jump]
        go_ret
        exact ⟨ret_nat (by rw [HV.out]; simp), rfl⟩
      · have HN : Hid (fe [62] s.data.toList = (fe [62] (s.data.toList.drop (k + 1))).map (· + (k + 1))) := gt_no HK.out hlt h62
        have b1 : ((s[k].toNat : Int) == 62) = false := beq_eq_false_iff_ne.2 (by omega)
        clear h62
        go_wp2
        go_step3
        refine ⟨rfl, ⟨rfl, k + 1, _, _, _, _, _, _, _, _, _, _, _, rfl, by omega, HN.out⟩, ?_⟩
        simp [intOf]
        omega
    · have HV : Hid (endBy [62] 0 s.data.toList = 0) := gt_end HK.out hlt
      have b0 : ((k : Int) == (s.size : Int)) = true := beq_iff_eq.2 (by omega)
      go_wp2
      simp only [Exit.jump]
      go_ret
      exact ⟨ret_nat (by rw [HV.out]; rfl), rfl⟩

theorem com_end {s : ByteArray} {k : Nat} (h4 : 4 ≤ k) (h : fe comE (s.data.toList.drop 4) = (fe comE ((s.data.toList.drop 4).drop (k - 4))).map (· + (k - 4))) (hk : ¬ k < s.size) : endBy comE 4 (s.data.toList.drop 4) = 0 := end_none (fe_drop_end h (by rw [List.length_drop, len_size]; omega))
theorem com_drop {s : ByteArray} {k : Nat} (h4 : 4 ≤ k) : (s.data.toList.drop 4).drop (k - 4) = s.data.toList.drop k := by rw [List.drop_drop]; congr 1; omega
theorem com_yes {s : ByteArray} {k : Nat} (h4 : 4 ≤ k) (h : fe comE (s.data.toList.drop 4) = (fe comE ((s.data.toList.drop 4).drop (k - 4))).map (· + (k - 4))) (hk : k < s.size) (hp : Lib.hasPrefix (s.data.toList.drop k) comE = true) : endBy comE 4 (s.data.toList.drop 4) = k + 3 := by
  rw [end_some (fe_drop_yes h (by rw [List.length_drop, len_size]; omega) (by rw [com_drop h4]; exact hp))]; simp [comE]; omega
theorem com_no {s : ByteArray} {k : Nat} (h4 : 4 ≤ k) (h : fe comE (s.data.toList.drop 4) = (fe comE ((s.data.toList.drop 4).drop (k - 4))).map (· + (k - 4))) (hk : k < s.size) (hp : Lib.hasPrefix (s.data.toList.drop k) comE = false) : fe comE (s.data.toList.drop 4) = (fe comE ((s.data.toList.drop 4).drop (k + 1 - 4))).map (· + (k + 1 - 4)) := by
  rw [show k + 1 - 4 = k - 4 + 1 from by omega]
  exact fe_drop_no h (by rw [List.length_drop, len_size]; omega) (by rw [com_drop h4]; exact hp)
theorem pre_le {s : ByteArray} (hc : Lib.hasPrefix s.data.toList [60, 33, 45, 45] = true) : 4 ≤ s.size := by
  have := List.IsPrefix.length_le (List.isPrefixOf_iff_prefix.1 hc)
  rw [len_size] at this; simpa using this
theorem pre_ext (s : ByteArray) (k : Nat) (p : List UInt8) : Lib.hasPrefix (s.extract k s.size).data.toList p = Lib.hasPrefix (s.data.toList.drop k) p := by rw [Lib.extract_to_end]
set_option maxHeartbeats 2000000 in
theorem implMarkCom (s : ByteArray) (w : World) (hs : s.size ≤ maxLen) (hc : Lib.hasPrefix s.data.toList [60, 33, 45, 45] = true) :
    Calls Try.prog 22 #[.string s] w fun e w' => e = .returned (.int .i64 (endBy comE 4 (s.data.toList.drop 4))) ∧ w' = w := by
  unfold maxLen at hs
  have HC : Hid (Lib.hasPrefix s.data.toList [60, 33, 45, 45] = true) := hc
  have h4 := pre_le hc
  clear hc
  go_enter Try.func22, Try.ntmps22
  go_wp2_with fail
  refine wp_scope_jumps 0 (fun a' w' => w' = w ∧ ∃ (k : Nat) (u18 u19 u20 u21 u22 u23 u24 u25 u26 u27 u28 u29 : Value), a' = { tmps := #[.string s, undef, .int .i64 0, .int .i64 k, .string s, .bool true, undef, undef, undef, undef, undef, undef, undef, undef, undef, undef, undef, undef, u18, u19, u20, u21, u22, u23, u24, u25, u26, u27, u28, u29], defers := [] } ∧ k ≤ s.size ∧ 4 ≤ k ∧ Hid (fe comE (s.data.toList.drop 4) = (fe comE ((s.data.toList.drop 4).drop (k - 4))).map (· + (k - 4)))) (fun a' _ => s.size - (intOf (a'.tmps.getD 3 undef)).toNat) rfl ?_ ?_
  · go_wp2_with fail
    refine (Try.strings_HasPrefix _ _ _).mono ?_
    rintro e w' ⟨rfl, rfl⟩
    rw [show Lib.hasPrefix s.data.toList ({ data := #[60, 33, 45, 45] } : ByteArray).data.toList = true from HC.out]
    go_wp2
    go_step3
    exact ⟨rfl, rfl, 4, _, _, _, _, _, _, _, _, _, _, _, _, rfl, by omega, Nat.le_refl _, hid (by simp)⟩
  · rintro a' w' ⟨rfl, k, u18, u19, u20, u21, u22, u23, u24, u25, u26, u27, u28, u29, rfl, hk, hk4, HK⟩
    by_cases hlt : k < s.size
    · have b0 : ((k : Int) == (s.size : Int)) = false := beq_eq_false_iff_ne.2 (by omega)
      have hk1 : (k : Int) ≤ (s.size : Int) := by omega
      cases hp : Lib.hasPrefix (s.data.toList.drop k) comE
      · have HN : Hid (fe comE (s.data.toList.drop 4) = (fe comE ((s.data.toList.drop 4).drop (k + 1 - 4))).map (· + (k + 1 - 4))) := com_no hk4 HK.out hlt hp
        have HP : Hid (Lib.hasPrefix (s.extract k s.size).data.toList comE = false) := (pre_ext s k comE).trans hp
        clear hp
        go_wp2_with fail
        refine (Try.strings_HasPrefix _ _ _).mono ?_
        rintro e w' ⟨rfl, rfl⟩
        rw [show Lib.hasPrefix (s.extract k s.size).data.toList ({ data := #[45, 45, 62] } : ByteArray).data.toList = false from HP.out]
        go_wp2
        go_step3
        refine ⟨rfl, ⟨rfl, k + 1, _, _, _, _, _, _, _, _, _, _, _, _, rfl, by omega, by omega, HN.out⟩, ?_⟩
        simp [intOf]
        omega
      · have HV : Hid (endBy comE 4 (s.data.toList.drop 4) = k + 3) := com_yes hk4 HK.out hlt hp
        have HP : Hid (Lib.hasPrefix (s.extract k s.size).data.toList comE = true) := (pre_ext s k comE).trans hp
        have hk3 : k + 3 ≤ 9223372036854775807 := by
          have h3 := List.IsPrefix.length_le (List.isPrefixOf_iff_prefix.1 hp)
          simp only [List.length_drop, len_size, comE, List.length_cons, List.length_nil] at h3
          omega
        clear hp
        go_wp2_with fail
        refine (Try.strings_HasPrefix _ _ _).mono ?_
        rintro e w' ⟨rfl, rfl⟩
        rw [show Lib.hasPrefix (s.extract k s.size).data.toList ({ data := #[45, 45, 62] } : ByteArray).data.toList = true from HP.out]
        go_wp2
        simp only [Exit.jump]
        go_ret
        exact ⟨ret_nat (by rw [HV.out]; simp), rfl⟩
    · have HV : Hid (endBy comE 4 (s.data.toList.drop 4) = 0) := com_end hk4 HK.out hlt
      have b0 : ((k : Int) == (s.size : Int)) = true := beq_iff_eq.2 (by omega)
      go_wp2
      simp only [Exit.jump]
      go_ret
      exact ⟨ret_nat (by rw [HV.out]; rfl), rfl⟩
theorem implMark (s : ByteArray) (w : World) (hs : s.size ≤ maxLen) :
    Calls Try.prog 22 #[.string s] w fun e w' => e = .returned (.int .i64 (markLen s.data.toList)) ∧ w' = w := by
  cases hc : Lib.hasPrefix s.data.toList [60, 33, 45, 45]
  · rw [markLen_gt hc]; exact implMarkGt s w hs hc
  · rw [markLen_com hc]; exact implMarkCom s w hs hc
end Cut
end Go.Proofs.Ytbnpejijfnigaaa
