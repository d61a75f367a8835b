/- The program's words of a step. Condition: the tables of rules and of powers of ten lie as their initialisers lay them. -/
import Derived.Test.YtnbmpofmieagfaaGreatDoorJFnProcs37
namespace Go.Proofs.YtnbmpofmieagfaaGreatDoor
open Go.RowKit
set_option linter.unusedVariables false
set_option linter.unusedSimpArgs false
namespace Pf
open Ex (hid inR eFault str str_app str_size textOf add_str Tab implInt implExprText)
open Nd (NodeD)
open St (StepD)
open Go.Lib (decDigits)
set_option maxRecDepth 100000 in
set_option maxHeartbeats 8000000 in
theorem words1 (B : Nat) (s : StepD) (vc ve : Value) (w : World) (hF : Fine s) (hq : 0 < s.cond.length) (hle : s.cond.length ≤ 1048576 ∧ s.expr.length ≤ 1048576) (hc : Nd.At w B vc s.cond) (he : Nd.At w B ve s.expr) (hr : Rul w) (ht : Tab w) :
    Calls Tryz.prog 30 #[.agg #[.int .i64 s.kind, .int .i64 s.parent, .string s.name, .int .i64 s.arg, vc, ve]] w (WPost s w) := by
  obtain ⟨ac, cc, rfl⟩ := hc.slice
  obtain ⟨ae, ce, rfl⟩ := he.slice
  obtain ⟨j0, hj, hy0, hy1, hy2⟩ := info_parts infoStr
  have hb0 : Below w.heap.size w (w.alloc (.cells #[.int .i64 s.kind, .int .i64 s.parent, .string s.name, .int .i64 s.arg, .slice ac s.cond.length cc, .slice ae s.expr.length ce] 53)) := (Below.refl _ w).alloc (Nat.le_refl _) _
  have SB := hid (SAt.new w s (.slice ac s.cond.length cc) (.slice ae s.expr.length ce))
  have HRL := hid (fun (w' : World) (h : Below w.heap.size w w') => ruleOk s.kind w' hF.kind (hr.below h hr.lt))
  have HFI : Hid (∀ w', Below w.heap.size w w' → Calls Tryz.prog 57 #[.int .i64 s.arg, .int .i64 10] w' fun e w'' => e = .returned (.string (str (decDigits s.arg.toNat))) ∧ Below w'.heap.size w' w'') := hid (fun w' h => implInt s.arg w' hF.arg.1 (by have := hF.arg.2; omega) (ht.below h))
  have HEX := hid (fun (w' : World) (h : Below w.heap.size w w') => implExprText B s.expr (.slice ae s.expr.length ce) w' hle.2 (he.below h) (ht.below h))
  have HCO := hid (implExprText B s.cond (.slice ac s.cond.length cc) _ hle.1 (hc.below hb0) (ht.below hb0))
  have HW := hid (rule_word s.kind)
  have HKN : Hid ((ruleD s.kind).hn = true → s.kind = 2) := hid (by rcases kinds hF.kind with h | h | h | h | h | h | h | h <;> rw [h] <;> decide)
  have HKE : Hid ((ruleD s.kind).hn = false → (ruleD s.kind).he = true → s.kind = 7) := hid (by rcases kinds hF.kind with h | h | h | h | h | h | h | h <;> rw [h] <;> decide)
  have HKA : Hid ((ruleD s.kind).hn = false → (ruleD s.kind).he = false → decide (0 < (ruleD s.kind).ma) = true → s.kind = 5 ∨ s.kind = 6 ∨ s.kind = 8) := hid (by rcases kinds hF.kind with h | h | h | h | h | h | h | h <;> rw [h] <;> decide)
  have HKO : Hid ((ruleD s.kind).hn = false → (ruleD s.kind).he = false → decide (0 < (ruleD s.kind).ma) = false → s.kind ≠ 2 ∧ s.kind ≠ 7 ∧ ¬ (s.kind = 5 ∨ s.kind = 6 ∨ s.kind = 8)) := hid (by rcases kinds hF.kind with h | h | h | h | h | h | h | h <;> rw [h] <;> decide)
  have HQ := hid hq
  have fT := fieldText
  have zd : (str (decDigits s.arg.toNat)).size ≤ 2 := by rw [str_size]; exact dig_len hF.arg
  have y1 : (ByteArray.mk #[118]).size = 1 := rfl
  have ad := add_str (ByteArray.mk #[118]) (str (decDigits s.arg.toNat)) (by omega)
  have q1 : (0 : Int) < (s.cond.length : Int) := by omega
  have hz0 : (w.alloc (.cells #[.int .i64 s.kind, .int .i64 s.parent, .string s.name, .int .i64 s.arg, .slice ac s.cond.length cc, .slice ae s.expr.length ce] 53)).heap.size = w.heap.size + 1 := by simp
  clear hc he hr ht hF hq zd y1
  unfold WPost
  go_enter Tryz.func30, Tryz.ntmps30
  go_wp2_with fail
  refine HCO.out.mono ?_
  rintro e w1 ⟨rfl, hb1⟩
  have K1 : Below (w.heap.size + 1) (w.alloc (.cells #[.int .i64 s.kind, .int .i64 s.parent, .string s.name, .int .i64 s.arg, .slice ac s.cond.length cc, .slice ae s.expr.length ce] 53)) w1 := hb1.mono (by simp)
  have l1 := K1.size
  rw [hz0] at l1
  generalize htc : str (textOf s.cond) = tc at *
  have HTC := hid htc
  clear htc
  go_wp2_with (at_builtin; go_must (refine wpList_append_own _ rfl _ _ 69 rfl (w.heap.size + 1) 9 j0 (.string ⟨#[]⟩) 1 16 Tryz.underlying69 hj hy0 hy1 hy2 rfl (by decide) _ _ _ rfl (World.ownsRow_nil _ _ _ 1) ⟨w1.heap.size, 0, none⟩ 2 2 [.string (ByteArray.mk #[105, 102]), .string tc] rfl rfl (cell_two _ _ rfl _ _ _) (by simp [Value.oneCell']) (by unfold maxLen; omega) (by omega) (by simp; omega) ?_); intro v2 w2 hown2 hg2 _; obtain ⟨g2, c2, rfl⟩ := ownsRow_succ hown2; have K2 : Below (w.heap.size + 1) (w.alloc (.cells #[.int .i64 s.kind, .int .i64 s.parent, .string s.name, .int .i64 s.arg, .slice ac s.cond.length cc, .slice ae s.expr.length ce] 53)) w2 := (K1.alloc (by omega) _).grown hg2 (by simp; omega) (fun b e => by cases e); have d2 := (SB.out.below K2 (by omega)).k)
  have B2 := hid (hb0.trans (K2.mono (by omega)))
  refine (HRL.out _ B2.out).mono ?_
  rintro e w3 ⟨rfl, hb3⟩
  have l2 := K2.size
  rw [hz0] at l2
  have K3 := K2.trans (hb3.mono l2)
  have hown3 := own_below hown2 hb3
  clear hown2 hg2
  have l3 := K3.size
  rw [hz0] at l3
  simp only [RuleD.row]
  generalize ruleD s.kind = rl at *
  have d3 := (SB.out.below K3 (by omega)).a
  have M3 := RAt.new w3 rl
  have d5 := M3.c0
  go_wp2_with (at_builtin; go_must (refine wpList_append_own _ rfl _ _ 69 rfl (w.heap.size + 1) 9 j0 (.string ⟨#[]⟩) 1 16 Tryz.underlying69 hj hy0 hy1 hy2 rfl (by decide) _ _ _ rfl ((hown3.alloc _).alloc _) ⟨w3.heap.size + 1, 0, none⟩ 1 1 [.string rl.word] rfl rfl (Pt.cell_one _ _ (by simp) _ _) (by simp [Value.oneCell']) (by unfold maxLen; omega) (by omega) (by simp; omega) ?_); intro v4 w4 hown4 hg4 _; obtain ⟨g4, c4, rfl⟩ := ownsRow_succ hown4; have K4 : Below (w.heap.size + 1) (w.alloc (.cells #[.int .i64 s.kind, .int .i64 s.parent, .string s.name, .int .i64 s.arg, .slice ac s.cond.length cc, .slice ae s.expr.length ce] 53)) w4 := ((K3.alloc (by omega) _).alloc (by simp; omega) _).grown hg4 (by simp; omega) (fun b e => (Pt.own_lt hown3 e).1); have d4 := (SB.out.below K4 (by omega)).a)
  have M4 := hid ((M3.alloc (by simp) _).grown hg4 (own_ne (hown3) (by omega)))
  have B4 := hb0.trans (K4.mono (by omega))
  have l4 := K4.size
  rw [hz0] at l4
  have lr : w3.heap.size < w4.heap.size := by have := hg4.size; simp at this; omega
  refine (HFI.out _ B4).mono ?_
  rintro e w5 ⟨rfl, hb5⟩
  have K5 := K4.trans (hb5.mono l4)
  have B5 := hid (hb0.trans (K5.mono (by omega)))
  have l5 := hb5.size
  have hown5 := own_below hown4 hb5
  have M5 := M4.out.below hb5 lr
  obtain ⟨m0, m1, m2, m3, m4, m5, m6⟩ := M5
  have S5 := SB.out.below K5 (by omega)
  have dn := S5.n
  have de := S5.e
  clear hown4 hg4 hown3 d3 d4 d5 M3 M4 hb5 hb3 K4 B4 S5
  generalize hda : str (decDigits s.arg.toNat) = da at *
  have HDA := hid hda
  clear hda
  have lz : w.heap.size + 1 ≤ w5.heap.size := by omega
  cases hn : rl.hn
  · rw [hn] at m1
    cases hh : rl.he
    · rw [hh] at m2
      have HHA := hid (hasArg rl w5)
      rw [hn, hh] at HHA
      go_wp2_with fail
      refine HHA.out.mono ?_
      rintro e w6 ⟨rfl, hb6⟩
      have l6 := hb6.size
      have K6 := K5.trans (hb6.mono lz)
      have hown6 := own_below hown5 hb6
      cases hm : decide (0 < rl.ma)
      · have hko := HKO.out hn hh hm
        go_wp2
        go_ret
        refine ⟨⟨[(ByteArray.mk #[105, 102]), tc, rl.word], _, rfl, by simp, by simp, ?_, ?_⟩, ?_⟩
        · simpa [strVals] using hown6
        · have ec : condL s = [105, 102, 32] ++ textOf s.cond ++ [32] := by unfold condL; rw [if_neg (by have := HQ.out; omega)]
          have et : tailL s = [] := by unfold tailL; rw [if_neg hko.1, if_neg hko.2.1, if_neg hko.2.2]
          unfold lineL
          rw [ec, et, ← HW.out]
          rw [← HTC.out]
          simp [Lib.join, List.intercalate, List.intersperse, str_data, v_str]
        · exact hb0.trans ((K6).mono (by omega))
      · have hka := HKA.out hn hh hm
        go_wp2_with (at_builtin; go_must (refine wpList_append_own _ rfl _ _ 69 rfl (w.heap.size + 1) 9 j0 (.string ⟨#[]⟩) 1 16 Tryz.underlying69 hj hy0 hy1 hy2 rfl (by decide) _ _ _ rfl (hown6.alloc _) ⟨w6.heap.size, 0, none⟩ 1 1 [.string da] rfl rfl (Pt.cell_one _ _ rfl _ _) (by simp [Value.oneCell']) (by unfold maxLen; omega) (by omega) (by simp; omega) ?_); intro v7 w7 hown7 hg7 _)
        go_ret
        refine ⟨⟨[(ByteArray.mk #[105, 102]), tc, rl.word, da], _, rfl, by simp, by simp, ?_, ?_⟩, ?_⟩
        · simpa [strVals] using hown7
        · have ec : condL s = [105, 102, 32] ++ textOf s.cond ++ [32] := by unfold condL; rw [if_neg (by have := HQ.out; omega)]
          have et : tailL s = [32] ++ decDigits s.arg.toNat := by unfold tailL; rw [if_neg (by omega), if_neg (by omega), if_pos hka]
          unfold lineL
          rw [ec, et, ← HW.out]
          rw [← HTC.out, ← HDA.out]
          simp [Lib.join, List.intercalate, List.intersperse, str_data, v_str]
        · exact hb0.trans (((K6.alloc (by omega) _).grown hg7 (by simp; omega) (fun b e => (Pt.own_lt hown6 e).1)).mono (by omega))
    · rw [hh] at m2
      have hke := hid (HKE.out hn hh)
      go_wp2_with fail
      refine (HEX.out _ B5.out).mono ?_
      rintro e w6 ⟨rfl, hb6⟩
      have l6 := hb6.size
      have K6 := K5.trans (hb6.mono lz)
      have hown6 := own_below hown5 hb6
      generalize hte : str (textOf s.expr) = te at *
      have HTE := hid hte
      clear hte
      go_wp2_with (at_builtin; go_must (refine wpList_append_own _ rfl _ _ 69 rfl (w.heap.size + 1) 9 j0 (.string ⟨#[]⟩) 1 16 Tryz.underlying69 hj hy0 hy1 hy2 rfl (by decide) _ _ _ rfl (hown6.alloc _) ⟨w6.heap.size, 0, none⟩ 2 2 [.string (ByteArray.mk #[118] ++ da), .string te] rfl rfl (cell_two _ _ rfl _ _ _) (by simp [Value.oneCell']) (by unfold maxLen; omega) (by omega) (by simp; omega) ?_); intro v7 w7 hown7 hg7 _)
      go_ret
      refine ⟨⟨[(ByteArray.mk #[105, 102]), tc, rl.word, ByteArray.mk #[118] ++ da, te], _, rfl, by simp, by simp, ?_, ?_⟩, ?_⟩
      · simpa [strVals] using hown7
      · have ec : condL s = [105, 102, 32] ++ textOf s.cond ++ [32] := by unfold condL; rw [if_neg (by have := HQ.out; omega)]
        have et : tailL s = [32, 118] ++ decDigits s.arg.toNat ++ [32] ++ textOf s.expr := by unfold tailL; rw [if_neg (by have := hke.out; omega), if_pos hke.out]
        unfold lineL
        rw [ec, et, ← HW.out]
        rw [← HTC.out, ← HDA.out, ← HTE.out]
        simp [Lib.join, List.intercalate, List.intersperse, str_data, v_str]
      · exact hb0.trans (((K6.alloc (by omega) _).grown hg7 (by simp; omega) (fun b e => (Pt.own_lt hown6 e).1)).mono (by omega))
  · rw [hn] at m1
    have hkn := HKN.out hn
    go_wp2_with (at_builtin; go_must (refine wpList_append_own _ rfl _ _ 69 rfl (w.heap.size + 1) 9 j0 (.string ⟨#[]⟩) 1 16 Tryz.underlying69 hj hy0 hy1 hy2 rfl (by decide) _ _ _ rfl (hown5.alloc _) ⟨w5.heap.size, 0, none⟩ 1 1 [.string s.name] rfl rfl (Pt.cell_one _ _ rfl _ _) (by simp [Value.oneCell']) (by unfold maxLen; omega) (by omega) (by simp; omega) ?_); intro v7 w7 hown7 hg7 _)
    go_ret
    refine ⟨⟨[(ByteArray.mk #[105, 102]), tc, rl.word, s.name], _, rfl, by simp, by simp, ?_, ?_⟩, ?_⟩
    · simpa [strVals] using hown7
    · have ec : condL s = [105, 102, 32] ++ textOf s.cond ++ [32] := by unfold condL; rw [if_neg (by have := HQ.out; omega)]
      have et : tailL s = [32] ++ s.name.data.toList := by unfold tailL; rw [if_pos hkn]
      unfold lineL
      rw [ec, et, ← HW.out]
      rw [← HTC.out]
      simp [Lib.join, List.intercalate, List.intersperse, str_data, v_str]
    · exact hb0.trans (((K5.alloc (by omega) _).grown hg7 (by simp; omega) (fun b e => (Pt.own_lt hown5 e).1)).mono (by omega))
end Pf
end Go.Proofs.YtnbmpofmieagfaaGreatDoor
