/- The program's words of a step. Condition: the tables of rules and of powers of ten lie as their initialisers lay them. -/
import Derived.Test.YtnbmpofmieagfaaGreatDoorJFnProcs36
import Derived.Test.YtnbmpofmieagfaaGreatDoorJFnProcs7
import Derived.Test.YtnbmpofmieagfaaGreatDoorJFnProcs34
import Derived.Test.YtnbmpofmieagfaaGreatDoorJFnProcs23
namespace Go.Proofs.YtnbmpofmieagfaaGreatDoor
open Go.RowKit
set_option linter.unusedVariables false
set_option linter.unusedSimpArgs false
namespace Pf
open Ex (hid inR eFault str str_app str_size textOf add_str Tab implInt implExprText)
open Nd (NodeD)
open St (StepD)
open Go.Lib (decDigits)
theorem infoStr : (Tryz.prog.info? 9).map (fun i => (i.zero, i.size, i.bytes)) = some (some (.string ⟨#[]⟩), 1, 16) := by kernel_rfl
theorem cell_two (w : World) (b : Nat) (hb : b = w.heap.size) (x y : Value) (t : TypeId) : ∀ j u, [x, y][j]? = some u → (w.alloc (.cells #[x, y] t)).cell? ((⟨b, 0, none⟩ : Addr).add j) = some u := by
  subst hb
  intro j u hj
  rw [Go.WideShapes.add_plain]
  simp only [Nat.zero_add, World.cell?_alloc_new]
  simpa using hj
theorem own_below {w w' : World} {B n sz : Nat} {e : TypeId} {v : Value} {xs : List Value} (h : w.ownsRow B e sz v n xs) (hb : Below w.heap.size w w') : w'.ownsRow B e sz v n xs := by
  refine ⟨h.1, ?_⟩
  rcases h.2 with h | ⟨g, cap, cur, rfl, h1, h2, r⟩
  · exact .inl h
  · exact .inr ⟨g, cap, cur, rfl, h1, (hb.block g (Array.getElem?_eq_some_iff.1 h2).1).trans h2, r⟩
theorem SAt.below {w w' : World} {g o B : Nat} {s : StepD} {vc ve : Value} (h : SAt w g o s vc ve) (hb : Below B w w') (hg : g < B) : SAt w' g o s vc ve :=
  ⟨kept_cell hb hg h.k, kept_cell hb hg h.p, kept_cell hb hg h.n, kept_cell hb hg h.a, kept_cell hb hg h.c, kept_cell hb hg h.e⟩
/-- A rule at an address. -/
structure RAt (w : World) (g : Nat) (r : RuleD) : Prop where
  c0 : w.cell? ⟨g, 0, none⟩ = some (.string r.word)
  c1 : w.cell? ⟨g, 1, none⟩ = some (.bool r.hn)
  c2 : w.cell? ⟨g, 2, none⟩ = some (.bool r.he)
  c3 : w.cell? ⟨g, 3, none⟩ = some (.int .i64 r.la)
  c4 : w.cell? ⟨g, 4, none⟩ = some (.int .i64 r.ma)
  c5 : w.cell? ⟨g, 5, none⟩ = some (.int .i64 r.lk)
  c6 : w.cell? ⟨g, 6, none⟩ = some (.int .i64 r.mx)
theorem RAt.below {w w' : World} {g B : Nat} {r : RuleD} (h : RAt w g r) (hb : Below B w w') (hg : g < B) : RAt w' g r :=
  ⟨kept_cell hb hg h.c0, kept_cell hb hg h.c1, kept_cell hb hg h.c2, kept_cell hb hg h.c3, kept_cell hb hg h.c4, kept_cell hb hg h.c5, kept_cell hb hg h.c6⟩
theorem RAt.grown {w w' : World} {g : Nat} {r : RuleD} {row : Option Nat} (h : RAt w g r) (hg : w.grownBy w' row) (hr : row ≠ some g) : RAt w' g r :=
  ⟨Pt.grown_cell hg h.c0 hr, Pt.grown_cell hg h.c1 hr, Pt.grown_cell hg h.c2 hr, Pt.grown_cell hg h.c3 hr, Pt.grown_cell hg h.c4 hr, Pt.grown_cell hg h.c5 hr, Pt.grown_cell hg h.c6 hr⟩
theorem RAt.new (w : World) (r : RuleD) : RAt (w.alloc (.cells #[.string r.word, .bool r.hn, .bool r.he, .int .i64 r.la, .int .i64 r.ma, .int .i64 r.lk, .int .i64 r.mx] 100)) w.heap.size r :=
  ⟨by go_simp, by go_simp, by go_simp, by go_simp, by go_simp, by go_simp, by go_simp⟩
theorem RAt.alloc {w : World} {g : Nat} {r : RuleD} (h : RAt w g r) (hg : g < w.heap.size) (ob : Obj) : RAt (w.alloc ob) g r := h.below ((Below.refl _ w).alloc (Nat.le_refl _) ob) hg
theorem SAt.new (w : World) (s : StepD) (vc ve : Value) : SAt (w.alloc (.cells #[.int .i64 s.kind, .int .i64 s.parent, .string s.name, .int .i64 s.arg, vc, ve] 53)) w.heap.size 0 s vc ve :=
  ⟨by go_simp, by go_simp, by go_simp, by go_simp, by go_simp, by go_simp⟩
def strVals (xs : List ByteArray) : List Value := xs.map .string
/-- The words are a row of their own, and joined by a blank they are the line. -/
def WPost (s : StepD) (w : World) : Ending → World → Prop := fun e w' =>
  (∃ (xs : List ByteArray) (u : Value), e = .returned u ∧ 0 < xs.length ∧ xs.length ≤ 8 ∧ w'.ownsRow (w.heap.size + 1) 9 1 u xs.length (strVals xs) ∧ Lib.join (xs.map (·.data.toList)) [32] = lineL s) ∧ Below w.heap.size w w'
theorem rule_word (k : Int) : (ruleD k).word.data.toList = wordL k := by
  unfold ruleD wordL
  repeat' split
  all_goals rfl
theorem fieldText (c : Int) (t : ByteArray) (w : World) : (Instr.field 36 (.agg #[.int .i64 c, .string t]) 1).run Tryz.prog w = .ok (.string t) w := by kernel_rfl
theorem str_data (l : List UInt8) : (str l).data.toList = l := by simp [str]
theorem v_str (l : List UInt8) : (ByteArray.mk #[118] ++ str l).data.toList = 118 :: l := by
  have e : ByteArray.mk #[118] ++ str l = str (118 :: l) := str_app [118] l
  rw [e, str_data]
theorem own_ne {w : World} {B n sz b : Nat} {e : TypeId} {v : Value} {xs : List Value} (h : w.ownsRow B e sz v n xs) (hb : w.heap.size ≤ b) : v.ownBlock ≠ some b := by
  intro hv
  have := (Pt.own_lt h hv).2
  omega
set_option maxRecDepth 100000 in
set_option maxHeartbeats 8000000 in
theorem words0 (B : Nat) (s : StepD) (vc ve : Value) (w : World) (hF : Fine s) (hq : s.cond.length = 0) (hle : s.cond.length ≤ 1048576 ∧ s.expr.length ≤ 1048576) (hc : Nd.At w B vc s.cond) (he : Nd.At w B ve s.expr) (hr : Rul w) (ht : Tab w) :
    Calls Tryz.prog 30 #[.agg #[.int .i64 s.kind, .int .i64 s.parent, .string s.name, .int .i64 s.arg, vc, ve]] w (WPost s w) := by
  obtain ⟨ac, cc, rfl⟩ := hc.slice
  obtain ⟨ae, ce, rfl⟩ := he.slice
  obtain ⟨j0, hj, hy0, hy1, hy2⟩ := info_parts infoStr
  have hb0 : Below w.heap.size w (w.alloc (.cells #[.int .i64 s.kind, .int .i64 s.parent, .string s.name, .int .i64 s.arg, .slice ac s.cond.length cc, .slice ae s.expr.length ce] 53)) := (Below.refl _ w).alloc (Nat.le_refl _) _
  have SB := hid (SAt.new w s (.slice ac s.cond.length cc) (.slice ae s.expr.length ce))
  have HRL := hid (fun (w' : World) (h : Below w.heap.size w w') => ruleOk s.kind w' hF.kind (hr.below h hr.lt))
  have HFI : Hid (∀ w', Below w.heap.size w w' → Calls Tryz.prog 57 #[.int .i64 s.arg, .int .i64 10] w' fun e w'' => e = .returned (.string (str (decDigits s.arg.toNat))) ∧ Below w'.heap.size w' w'') := hid (fun w' h => implInt s.arg w' hF.arg.1 (by have := hF.arg.2; omega) (ht.below h))
  have HEX := hid (fun (w' : World) (h : Below w.heap.size w w') => implExprText B s.expr (.slice ae s.expr.length ce) w' hle.2 (he.below h) (ht.below h))
  have HW := hid (rule_word s.kind)
  have HKN : Hid ((ruleD s.kind).hn = true → s.kind = 2) := hid (by rcases kinds hF.kind with h | h | h | h | h | h | h | h <;> rw [h] <;> decide)
  have HKE : Hid ((ruleD s.kind).hn = false → (ruleD s.kind).he = true → s.kind = 7) := hid (by rcases kinds hF.kind with h | h | h | h | h | h | h | h <;> rw [h] <;> decide)
  have HKA : Hid ((ruleD s.kind).hn = false → (ruleD s.kind).he = false → decide (0 < (ruleD s.kind).ma) = true → s.kind = 5 ∨ s.kind = 6 ∨ s.kind = 8) := hid (by rcases kinds hF.kind with h | h | h | h | h | h | h | h <;> rw [h] <;> decide)
  have HKO : Hid ((ruleD s.kind).hn = false → (ruleD s.kind).he = false → decide (0 < (ruleD s.kind).ma) = false → s.kind ≠ 2 ∧ s.kind ≠ 7 ∧ ¬ (s.kind = 5 ∨ s.kind = 6 ∨ s.kind = 8)) := hid (by rcases kinds hF.kind with h | h | h | h | h | h | h | h <;> rw [h] <;> decide)
  have HQ := hid hq
  have fT := fieldText
  have zd : (str (decDigits s.arg.toNat)).size ≤ 2 := by rw [str_size]; exact dig_len hF.arg
  have y1 : (ByteArray.mk #[118]).size = 1 := rfl
  have ad := add_str (ByteArray.mk #[118]) (str (decDigits s.arg.toNat)) (by omega)
  have q1 : ¬ (0 : Int) < (s.cond.length : Int) := by omega
  have hz0 : (w.alloc (.cells #[.int .i64 s.kind, .int .i64 s.parent, .string s.name, .int .i64 s.arg, .slice ac s.cond.length cc, .slice ae s.expr.length ce] 53)).heap.size = w.heap.size + 1 := by simp
  clear hc he hr ht hF hq zd y1
  unfold WPost
  go_enter Tryz.func30, Tryz.ntmps30
  have K2 := Below.refl (w.heap.size + 1) (w.alloc (.cells #[.int .i64 s.kind, .int .i64 s.parent, .string s.name, .int .i64 s.arg, .slice ac s.cond.length cc, .slice ae s.expr.length ce] 53))
  have B2 := hid hb0
  have d2 := SB.out.k
  go_wp2_with fail
  refine (HRL.out _ B2.out).mono ?_
  rintro e w3 ⟨rfl, hb3⟩
  have K3 : Below (w.heap.size + 1) (w.alloc (.cells #[.int .i64 s.kind, .int .i64 s.parent, .string s.name, .int .i64 s.arg, .slice ac s.cond.length cc, .slice ae s.expr.length ce] 53)) w3 := hb3.mono (by simp)
  have hown3 := World.ownsRow_nil w3 (w.heap.size + 1) 9 1
  have l3 := K3.size
  rw [hz0] at l3
  simp only [RuleD.row]
  generalize ruleD s.kind = rl at *
  have d3 := (SB.out.below K3 (by omega)).a
  have M3 := RAt.new w3 rl
  have d5 := M3.c0
  go_wp2_with (at_builtin; go_must (refine wpList_append_own _ rfl _ _ 69 rfl (w.heap.size + 1) 9 j0 (.string ⟨#[]⟩) 1 16 Tryz.underlying69 hj hy0 hy1 hy2 rfl (by decide) _ _ _ rfl ((hown3.alloc _).alloc _) ⟨w3.heap.size + 1, 0, none⟩ 1 1 [.string rl.word] rfl rfl (Pt.cell_one _ _ (by simp) _ _) (by simp [Value.oneCell']) (by unfold maxLen; omega) (by omega) (by simp; omega) ?_); intro v4 w4 hown4 hg4 _; obtain ⟨g4, c4, rfl⟩ := ownsRow_succ hown4; have K4 : Below (w.heap.size + 1) (w.alloc (.cells #[.int .i64 s.kind, .int .i64 s.parent, .string s.name, .int .i64 s.arg, .slice ac s.cond.length cc, .slice ae s.expr.length ce] 53)) w4 := ((K3.alloc (by omega) _).alloc (by simp; omega) _).grown hg4 (by simp; omega) (fun b e => (Pt.own_lt hown3 e).1); have d4 := (SB.out.below K4 (by omega)).a)
  have M4 := hid ((M3.alloc (by simp) _).grown hg4 (own_ne (hown3) (by omega)))
  have B4 := hb0.trans (K4.mono (by omega))
  have l4 := K4.size
  rw [hz0] at l4
  have lr : w3.heap.size < w4.heap.size := by have := hg4.size; simp at this; omega
  refine (HFI.out _ B4).mono ?_
  rintro e w5 ⟨rfl, hb5⟩
  have K5 := K4.trans (hb5.mono l4)
  have B5 := hid (hb0.trans (K5.mono (by omega)))
  have l5 := hb5.size
  have hown5 := own_below hown4 hb5
  have M5 := M4.out.below hb5 lr
  obtain ⟨m0, m1, m2, m3, m4, m5, m6⟩ := M5
  have S5 := SB.out.below K5 (by omega)
  have dn := S5.n
  have de := S5.e
  clear hown4 hg4 hown3 d3 d4 d5 M3 M4 hb5 hb3 K4 B4 S5
  generalize hda : str (decDigits s.arg.toNat) = da at *
  have HDA := hid hda
  clear hda
  have lz : w.heap.size + 1 ≤ w5.heap.size := by omega
  cases hn : rl.hn
  · rw [hn] at m1
    cases hh : rl.he
    · rw [hh] at m2
      have HHA := hid (hasArg rl w5)
      rw [hn, hh] at HHA
      go_wp2_with fail
      refine HHA.out.mono ?_
      rintro e w6 ⟨rfl, hb6⟩
      have l6 := hb6.size
      have K6 := K5.trans (hb6.mono lz)
      have hown6 := own_below hown5 hb6
      cases hm : decide (0 < rl.ma)
      · have hko := HKO.out hn hh hm
        go_wp2
        go_ret
        refine ⟨⟨[rl.word], _, rfl, by simp, by simp, ?_, ?_⟩, ?_⟩
        · simpa [strVals] using hown6
        · have ec : condL s = [] := by unfold condL; rw [if_pos HQ.out]
          have et : tailL s = [] := by unfold tailL; rw [if_neg hko.1, if_neg hko.2.1, if_neg hko.2.2]
          unfold lineL
          rw [ec, et, ← HW.out]
          simp [Lib.join, List.intercalate, List.intersperse, str_data, v_str]
        · exact hb0.trans ((K6).mono (by omega))
      · have hka := HKA.out hn hh hm
        go_wp2_with (at_builtin; go_must (refine wpList_append_own _ rfl _ _ 69 rfl (w.heap.size + 1) 9 j0 (.string ⟨#[]⟩) 1 16 Tryz.underlying69 hj hy0 hy1 hy2 rfl (by decide) _ _ _ rfl (hown6.alloc _) ⟨w6.heap.size, 0, none⟩ 1 1 [.string da] rfl rfl (Pt.cell_one _ _ rfl _ _) (by simp [Value.oneCell']) (by unfold maxLen; omega) (by omega) (by simp; omega) ?_); intro v7 w7 hown7 hg7 _)
        go_ret
        refine ⟨⟨[rl.word, da], _, rfl, by simp, by simp, ?_, ?_⟩, ?_⟩
        · simpa [strVals] using hown7
        · have ec : condL s = [] := by unfold condL; rw [if_pos HQ.out]
          have et : tailL s = [32] ++ decDigits s.arg.toNat := by unfold tailL; rw [if_neg (by omega), if_neg (by omega), if_pos hka]
          unfold lineL
          rw [ec, et, ← HW.out]
          rw [← HDA.out]
          simp [Lib.join, List.intercalate, List.intersperse, str_data, v_str]
        · exact hb0.trans (((K6.alloc (by omega) _).grown hg7 (by simp; omega) (fun b e => (Pt.own_lt hown6 e).1)).mono (by omega))
    · rw [hh] at m2
      have hke := hid (HKE.out hn hh)
      go_wp2_with fail
      refine (HEX.out _ B5.out).mono ?_
      rintro e w6 ⟨rfl, hb6⟩
      have l6 := hb6.size
      have K6 := K5.trans (hb6.mono lz)
      have hown6 := own_below hown5 hb6
      generalize hte : str (textOf s.expr) = te at *
      have HTE := hid hte
      clear hte
      go_wp2_with (at_builtin; go_must (refine wpList_append_own _ rfl _ _ 69 rfl (w.heap.size + 1) 9 j0 (.string ⟨#[]⟩) 1 16 Tryz.underlying69 hj hy0 hy1 hy2 rfl (by decide) _ _ _ rfl (hown6.alloc _) ⟨w6.heap.size, 0, none⟩ 2 2 [.string (ByteArray.mk #[118] ++ da), .string te] rfl rfl (cell_two _ _ rfl _ _ _) (by simp [Value.oneCell']) (by unfold maxLen; omega) (by omega) (by simp; omega) ?_); intro v7 w7 hown7 hg7 _)
      go_ret
      refine ⟨⟨[rl.word, ByteArray.mk #[118] ++ da, te], _, rfl, by simp, by simp, ?_, ?_⟩, ?_⟩
      · simpa [strVals] using hown7
      · have ec : condL s = [] := by unfold condL; rw [if_pos HQ.out]
        have et : tailL s = [32, 118] ++ decDigits s.arg.toNat ++ [32] ++ textOf s.expr := by unfold tailL; rw [if_neg (by have := hke.out; omega), if_pos hke.out]
        unfold lineL
        rw [ec, et, ← HW.out]
        rw [← HDA.out, ← HTE.out]
        simp [Lib.join, List.intercalate, List.intersperse, str_data, v_str]
      · exact hb0.trans (((K6.alloc (by omega) _).grown hg7 (by simp; omega) (fun b e => (Pt.own_lt hown6 e).1)).mono (by omega))
  · rw [hn] at m1
    have hkn := HKN.out hn
    go_wp2_with (at_builtin; go_must (refine wpList_append_own _ rfl _ _ 69 rfl (w.heap.size + 1) 9 j0 (.string ⟨#[]⟩) 1 16 Tryz.underlying69 hj hy0 hy1 hy2 rfl (by decide) _ _ _ rfl (hown5.alloc _) ⟨w5.heap.size, 0, none⟩ 1 1 [.string s.name] rfl rfl (Pt.cell_one _ _ rfl _ _) (by simp [Value.oneCell']) (by unfold maxLen; omega) (by omega) (by simp; omega) ?_); intro v7 w7 hown7 hg7 _)
    go_ret
    refine ⟨⟨[rl.word, s.name], _, rfl, by simp, by simp, ?_, ?_⟩, ?_⟩
    · simpa [strVals] using hown7
    · have ec : condL s = [] := by unfold condL; rw [if_pos HQ.out]
      have et : tailL s = [32] ++ s.name.data.toList := by unfold tailL; rw [if_pos hkn]
      unfold lineL
      rw [ec, et, ← HW.out]
      simp [Lib.join, List.intercalate, List.intersperse, str_data, v_str]
    · exact hb0.trans (((K5.alloc (by omega) _).grown hg7 (by simp; omega) (fun b e => (Pt.own_lt hown5 e).1)).mono (by omega))
end Pf
end Go.Proofs.YtnbmpofmieagfaaGreatDoor
