/- Laid together: PsA, GoG. -/
import Derived.Test.YtfgckeoigkoflaaGreatDoorJGraphOf28
import Derived.Test.YtfgckeoigkoflaaGreatDoorJGraphOf3
import Derived.Test.YtfgckeoigkoflaaGreatDoorJGraphOf4
import Derived.Test.YtfgckeoigkoflaaGreatDoorJGraphOf14
import Derived.Deep.QuietTactic
import Derived.BigQuiet
import Derived.Laws.OwnMore
import Derived.Test.YtfgckeoigkoflaaGreatDoorJGraphOf34
/- The specification's small functions of processes. -/
namespace Go.Proofs.YtfgckeoigkoflaaGreatDoor
open Go.RowKit
set_option linter.unusedVariables false
namespace Pf
open Ex (hid inR eFault typeCode typeVal specIn)
open Nd (NodeD)
open St (StepD)
open Tr (Chain cutTo onPath top nf ElemD onPath_cons top_lt top_ge chain_tail)
open Pt (chain_get kidVals)
/-- A step at an address. -/
structure SAt (w : World) (g o : Nat) (s : StepD) (vc ve : Value) : Prop where
  k : w.cell? ⟨g, o, none⟩ = some (.int .i64 s.kind)
  p : w.cell? ⟨g, o + 1, none⟩ = some (.int .i64 s.parent)
  n : w.cell? ⟨g, o + 2, none⟩ = some (.string s.name)
  a : w.cell? ⟨g, o + 3, none⟩ = some (.int .i64 s.arg)
  c : w.cell? ⟨g, o + 4, none⟩ = some vc
  e : w.cell? ⟨g, o + 5, none⟩ = some ve
set_option maxRecDepth 100000 in
set_option maxHeartbeats 4000000 in
theorem specBare (s : StepD) (g o : Nat) (vc : Value) (a : Option Addr) (cap : Nat) (w : World) (hl : s.expr.length ≤ 1048576) (h : SAt w g o s vc (.slice a s.expr.length cap)) :
    Calls Tryz.prog 57 #[.pointer (some ⟨g, o, none⟩)] w fun e w' => e = .returned (.bool (bare s)) ∧ w' = w := by
  obtain ⟨c0, c1, c2, c3, c4, c5⟩ := h
  have hlt := Nd.lt_of_cell c0
  unfold bare
  generalize s.kind = kind at *
  generalize s.name = nm at *
  generalize s.arg = arg at *
  generalize s.expr.length = n at *
  clear c1 c4
  have HI := hid (fun w' => specIn kind 5 8 w')
  have hE : decide (n = 0) = ((n : Int) == 0) := by
    by_cases h : n = 0
    · simp [h]
    · have : ((n : Int) == 0) = false := by simp; omega
      simp [h, this]
  rw [hE]
  clear hE
  cases b1 : (kind == 2)
  · cases b2 : nm.toList.isEmpty
    · cases b3 : inR kind 5 8
      · rw [b3] at HI
        go_enter Tryz.func57, Tryz.ntmps57
        go_wp2_with (go_at_call 56; refine (HI.out _).mono ?_; rintro e w1 ⟨rfl, rfl⟩)
        go_ret
        exact ⟨by simp [*], rfl⟩
      · rw [b3] at HI
        go_enter Tryz.func57, Tryz.ntmps57
        go_wp2_with (go_at_call 56; refine (HI.out _).mono ?_; rintro e w1 ⟨rfl, rfl⟩)
        go_ret
        exact ⟨by simp [*], rfl⟩
    · skip
      cases b3 : inR kind 5 8
      · rw [b3] at HI
        cases b4 : (arg == 0)
        · skip
          go_enter Tryz.func57, Tryz.ntmps57
          go_wp2_with (go_at_call 56; refine (HI.out _).mono ?_; rintro e w1 ⟨rfl, rfl⟩)
          go_ret
          exact ⟨by simp [*], rfl⟩
        · skip
          cases b5 : (kind == 7)
          · cases b6 : ((n : Int) == 0)
            · skip
              go_enter Tryz.func57, Tryz.ntmps57
              go_wp2_with (go_at_call 56; refine (HI.out _).mono ?_; rintro e w1 ⟨rfl, rfl⟩)
              go_ret
              exact ⟨by simp [*], rfl⟩
            · skip
              go_enter Tryz.func57, Tryz.ntmps57
              go_wp2_with (go_at_call 56; refine (HI.out _).mono ?_; rintro e w1 ⟨rfl, rfl⟩)
              go_ret
              exact ⟨by simp [*], rfl⟩
          · skip
            go_enter Tryz.func57, Tryz.ntmps57
            go_wp2_with (go_at_call 56; refine (HI.out _).mono ?_; rintro e w1 ⟨rfl, rfl⟩)
            go_ret
            exact ⟨by simp [*], rfl⟩
      · rw [b3] at HI
        cases b5 : (kind == 7)
        · cases b6 : ((n : Int) == 0)
          · skip
            go_enter Tryz.func57, Tryz.ntmps57
            go_wp2_with (go_at_call 56; refine (HI.out _).mono ?_; rintro e w1 ⟨rfl, rfl⟩)
            go_ret
            exact ⟨by simp [*], rfl⟩
          · skip
            go_enter Tryz.func57, Tryz.ntmps57
            go_wp2_with (go_at_call 56; refine (HI.out _).mono ?_; rintro e w1 ⟨rfl, rfl⟩)
            go_ret
            exact ⟨by simp [*], rfl⟩
        · skip
          go_enter Tryz.func57, Tryz.ntmps57
          go_wp2_with (go_at_call 56; refine (HI.out _).mono ?_; rintro e w1 ⟨rfl, rfl⟩)
          go_ret
          exact ⟨by simp [*], rfl⟩
  · skip
    cases b3 : inR kind 5 8
    · rw [b3] at HI
      cases b4 : (arg == 0)
      · skip
        go_enter Tryz.func57, Tryz.ntmps57
        go_wp2_with (go_at_call 56; refine (HI.out _).mono ?_; rintro e w1 ⟨rfl, rfl⟩)
        go_ret
        exact ⟨by simp [*], rfl⟩
      · skip
        cases b5 : (kind == 7)
        · cases b6 : ((n : Int) == 0)
          · skip
            go_enter Tryz.func57, Tryz.ntmps57
            go_wp2_with (go_at_call 56; refine (HI.out _).mono ?_; rintro e w1 ⟨rfl, rfl⟩)
            go_ret
            exact ⟨by simp [*], rfl⟩
          · skip
            go_enter Tryz.func57, Tryz.ntmps57
            go_wp2_with (go_at_call 56; refine (HI.out _).mono ?_; rintro e w1 ⟨rfl, rfl⟩)
            go_ret
            exact ⟨by simp [*], rfl⟩
        · skip
          go_enter Tryz.func57, Tryz.ntmps57
          go_wp2_with (go_at_call 56; refine (HI.out _).mono ?_; rintro e w1 ⟨rfl, rfl⟩)
          go_ret
          exact ⟨by simp [*], rfl⟩
    · rw [b3] at HI
      cases b5 : (kind == 7)
      · cases b6 : ((n : Int) == 0)
        · skip
          go_enter Tryz.func57, Tryz.ntmps57
          go_wp2_with (go_at_call 56; refine (HI.out _).mono ?_; rintro e w1 ⟨rfl, rfl⟩)
          go_ret
          exact ⟨by simp [*], rfl⟩
        · skip
          go_enter Tryz.func57, Tryz.ntmps57
          go_wp2_with (go_at_call 56; refine (HI.out _).mono ?_; rintro e w1 ⟨rfl, rfl⟩)
          go_ret
          exact ⟨by simp [*], rfl⟩
      · skip
        go_enter Tryz.func57, Tryz.ntmps57
        go_wp2_with (go_at_call 56; refine (HI.out _).mono ?_; rintro e w1 ⟨rfl, rfl⟩)
        go_ret
        exact ⟨by simp [*], rfl⟩
set_option maxRecDepth 100000 in
set_option maxHeartbeats 2000000 in
theorem specArg (s : StepD) (g o : Nat) (vc ve : Value) (w : World) (h : SAt w g o s vc ve) :
    Calls Tryz.prog 61 #[.pointer (some ⟨g, o, none⟩)] w fun e w' => e = .returned (.bool (argOk s)) ∧ w' = w := by
  obtain ⟨c0, c1, c2, c3, c4, c5⟩ := h
  have hlt := Nd.lt_of_cell c0
  unfold argOk
  generalize s.kind = kind at *
  generalize s.arg = arg at *
  clear c1 c2 c4 c5
  have HI := hid (fun a b w' => specIn arg a b w')
  by_cases k5 : kind = 5
  · subst k5
    rw [if_pos rfl]
    go_enter Tryz.func61, Tryz.ntmps61
    go_wp2_with (go_at_call 56; refine (HI.out _ _ _).mono ?_; rintro e w1 ⟨rfl, rfl⟩)
    go_ret
    exact ⟨rfl, rfl⟩
  have b5 : (kind == 5) = false := beq_eq_false_iff_ne.2 k5
  rw [if_neg k5]
  by_cases k6 : kind = 6
  · subst k6
    rw [if_pos (.inl rfl)]
    go_enter Tryz.func61, Tryz.ntmps61
    go_wp2_with (go_at_call 56; refine (HI.out _ _ _).mono ?_; rintro e w1 ⟨rfl, rfl⟩)
    go_ret
    exact ⟨rfl, rfl⟩
  have b6 : (kind == 6) = false := beq_eq_false_iff_ne.2 k6
  by_cases k8 : kind = 8
  · subst k8
    rw [if_pos (.inr rfl)]
    go_enter Tryz.func61, Tryz.ntmps61
    go_wp2_with (go_at_call 56; refine (HI.out _ _ _).mono ?_; rintro e w1 ⟨rfl, rfl⟩)
    go_ret
    exact ⟨rfl, rfl⟩
  have b8 : (kind == 8) = false := beq_eq_false_iff_ne.2 k8
  rw [if_neg (by omega)]
  by_cases k7 : kind = 7
  · subst k7
    rw [if_pos rfl]
    go_enter Tryz.func61, Tryz.ntmps61
    go_wp2_with (go_at_call 56; refine (HI.out _ _ _).mono ?_; rintro e w1 ⟨rfl, rfl⟩)
    go_ret
    exact ⟨rfl, rfl⟩
  have b7 : (kind == 7) = false := beq_eq_false_iff_ne.2 k7
  rw [if_neg k7]
  clear k5 k6 k7 k8
  go_enter Tryz.func61, Tryz.ntmps61
  go_wp2_with (go_at_call 56; refine (HI.out _ _ _).mono ?_; rintro e w1 ⟨rfl, rfl⟩)
  go_ret
  exact ⟨rfl, rfl⟩
set_option maxRecDepth 100000 in
set_option maxHeartbeats 2000000 in
theorem specMany (kind : Int) (n : Nat) (w : World) (hn : n ≤ 1048576) :
    Calls Tryz.prog 63 #[.int .i64 kind, .int .i64 n] w fun e w' => e = .returned (.bool (manyOk kind n)) ∧ w' = w := by
  unfold manyOk
  have d1 : decide (1 ≤ n) = decide ((1 : Int) ≤ (n : Int)) := by simp only [decide_eq_decide]; omega
  have d2 : decide (2 ≤ n) = decide ((2 : Int) ≤ (n : Int)) := by simp only [decide_eq_decide]; omega
  have d3 : decide (n = 2) = ((n : Int) == 2) := by
    by_cases h : n = 2
    · simp [h]
    · have : ((n : Int) == 2) = false := by simp; omega
      simp [h, this]
  have d4 : decide (n = 0) = ((n : Int) == 0) := by
    by_cases h : n = 0
    · simp [h]
    · have : ((n : Int) == 0) = false := by simp; omega
      simp [h, this]
  rw [d1, d2, d3, d4]
  clear d1 d2 d3 d4
  by_cases k1 : kind = 1
  · subst k1
    rw [if_pos rfl]
    go_enter Tryz.func63, Tryz.ntmps63
    go_wp2
    go_ret
    exact ⟨rfl, rfl⟩
  have b1 : (kind == 1) = false := beq_eq_false_iff_ne.2 k1
  rw [if_neg k1]
  by_cases k3 : kind = 3
  · subst k3
    rw [if_pos (.inl rfl)]
    go_enter Tryz.func63, Tryz.ntmps63
    go_wp2
    go_ret
    exact ⟨rfl, rfl⟩
  have b3 : (kind == 3) = false := beq_eq_false_iff_ne.2 k3
  by_cases k4 : kind = 4
  · subst k4
    rw [if_pos (.inr rfl)]
    go_enter Tryz.func63, Tryz.ntmps63
    go_wp2
    go_ret
    exact ⟨rfl, rfl⟩
  have b4 : (kind == 4) = false := beq_eq_false_iff_ne.2 k4
  rw [if_neg (by omega)]
  by_cases k8 : kind = 8
  · subst k8
    rw [if_pos rfl]
    go_enter Tryz.func63, Tryz.ntmps63
    go_wp2
    go_ret
    exact ⟨rfl, rfl⟩
  have b8 : (kind == 8) = false := beq_eq_false_iff_ne.2 k8
  rw [if_neg k8]
  clear k1 k3 k4 k8
  go_enter Tryz.func63, Tryz.ntmps63
  go_wp2
  go_ret
  exact ⟨rfl, rfl⟩
theorem par_at {ss : List StepD} {x : Nat} {r : List Nat} (h : Chain (es ss) (x :: r)) : ∃ h1 : x < ss.length, ss[x].parent = top r := by
  obtain ⟨h1, h2⟩ := chain_get h
  have h3 : x < ss.length := by rw [es_len] at h1; exact h1
  exact ⟨h3, by rw [← es_par h3]; exact h2⟩
set_option maxRecDepth 100000 in
set_option maxHeartbeats 1000000 in
theorem specLine (B : Nat) (ss : List StepD) (v : Value) (i : Nat) (w : World) (hl : ss.length ≤ 24) (hi : i < ss.length) (hc : Chain (es ss) (path ss i)) (ha : St.At w B v ss) :
    Calls Tryz.prog 58 #[v, .int .i64 i] w fun e w' => e = .returned (.bool (onPath ss[i].parent (path ss i))) ∧ w' = w := by
  obtain ⟨a, cap, rfl⟩ := ha.slice
  obtain ⟨g, o, vc, ve, rfl, hg, d0, d1, d2, d3, d4, d5, _⟩ := ha.at hi
  have HA := hid ha
  have H1 := hid (top_path ss i)
  generalize path ss i = S at *
  have HC := hid hc
  clear ha hc d0 d2 d3 d4 d5
  have q1 : (i : Int) < (ss.length : Int) := by omega
  go_enter Tryz.func58, Tryz.ntmps58
  go_wp2
  go_loop [5] (fun x => ∃ S' : List Nat, x = .int .i64 (top S') ∧ Hid (Chain (es ss) S' ∧ onPath ss[i].parent S = onPath ss[i].parent S')) (fun x => (intOf x + 1).toNat)
  case atStart => exact ⟨S, by rw [H1.out], HC.out, rfl⟩
  case round =>
    obtain ⟨S', rfl, HS⟩ := hrel
    cases S' with
    | nil =>
      have HV : Hid (onPath ss[i].parent S = false) := hid (by rw [HS.out.2]; rfl)
      have q2 : ¬ (0 : Int) ≤ top [] := by decide
      go_wp2
      go_ret
      exact ⟨by rw [HV.out]; rfl, rfl⟩
    | cons x r =>
      obtain ⟨hx, hp⟩ := par_at HS.out.1
      have htl := top_lt HS.out.1
      have htg := top_ge r
      have hct := chain_tail HS.out.1
      obtain ⟨g', o', vx, vy, e', hg', c0, c1, c2, c3, c4, c5, _⟩ := HA.out.at hx
      cases e'
      rw [hp] at c1
      clear c0 c2 c3 c4 c5
      have ht : top (x :: r) = (x : Int) := rfl
      rw [ht]
      have q2 : (0 : Int) ≤ (x : Int) := by omega
      have q3 : (x : Int) < (ss.length : Int) := by omega
      by_cases he : (x : Int) = ss[i].parent
      · have HV : Hid (onPath ss[i].parent S = true) := hid (by rw [HS.out.2, onPath_cons]; simp [he])
        have b1 : ((x : Int) == ss[i].parent) = true := beq_iff_eq.2 he
        clear he
        go_wp2
        go_ret
        exact ⟨by rw [HV.out]; rfl, rfl⟩
      · have HV : Hid (Chain (es ss) r ∧ onPath ss[i].parent S = onPath ss[i].parent r) := hid ⟨hct, by rw [HS.out.2, onPath_cons]; simp [he]⟩
        have b1 : ((x : Int) == ss[i].parent) = false := beq_eq_false_iff_ne.2 he
        clear he hct
        go_wp2
        exact ⟨⟨r, rfl, HV⟩, by simp [intOf]; omega⟩
set_option maxRecDepth 100000 in
set_option maxHeartbeats 1000000 in
theorem specDeep (B : Nat) (ss : List StepD) (v : Value) (S : List Nat) (w : World) (hl : ss.length ≤ 24) (hc : Chain (es ss) S) (h8 : S.length ≤ 49) (ha : St.At w B v ss) :
    Calls Tryz.prog 59 #[v, .int .i64 (top S)] w fun e w' => e = .returned (.int .i64 (S.length : Int)) ∧ w' = w := by
  obtain ⟨a, cap, rfl⟩ := ha.slice
  have HA := hid ha
  have HC := hid hc
  clear ha hc
  go_enter Tryz.func59, Tryz.ntmps59
  go_wp2
  go_loop [1, 5] (fun x y => ∃ (S' : List Nat) (n : Nat), x = .int .i64 (top S') ∧ y = .int .i64 (n : Int) ∧ n + S'.length = S.length ∧ Hid (Chain (es ss) S')) (fun x _ => (intOf x + 1).toNat)
  case atStart => exact ⟨S, 0, rfl, rfl, by omega, HC.out⟩
  case round =>
    obtain ⟨S', n, rfl, rfl, hn, HS⟩ := hrel
    cases S' with
    | nil =>
      have hn' : n = S.length := by simpa using hn
      subst hn'
      have q2 : ¬ (0 : Int) ≤ top [] := by decide
      go_wp2
      go_ret
      exact ⟨rfl, rfl⟩
    | cons x r =>
      obtain ⟨hx, hp⟩ := par_at HS.out
      have htl := top_lt HS.out
      have htg := top_ge r
      have hct := hid (chain_tail HS.out)
      obtain ⟨g', o', vx, vy, e', hg', c0, c1, c2, c3, c4, c5, _⟩ := HA.out.at hx
      cases e'
      rw [hp] at c1
      clear c0 c2 c3 c4 c5
      have ht : top (x :: r) = (x : Int) := rfl
      rw [ht]
      simp only [List.length_cons] at hn
      have q2 : (0 : Int) ≤ (x : Int) := by omega
      have q3 : (x : Int) < (ss.length : Int) := by omega
      have q4 : (n : Int) < 50 := by omega
      go_wp2
      exact ⟨⟨r, n + 1, rfl, by go_num, by omega, hct⟩, by simp [intOf]; omega⟩
theorem infoI64 : (Tryz.prog.info? 2).map (fun i => (i.zero, i.size, i.bytes)) = some (some (.int .i64 0), 1, 8) := by kernel_rfl
theorem info_parts {P : Program} {e : TypeId} {z : Value} {sz bytes : Nat} (h : (P.info? e).map (fun i => (i.zero, i.size, i.bytes)) = some (some z, sz, bytes)) : ∃ i, P.info? e = some i ∧ i.zero = some z ∧ i.size = sz ∧ i.bytes = bytes := by
  cases hi : P.info? e with
  | none => rw [hi] at h; cases h
  | some i =>
    rw [hi] at h
    simp only [Option.map_some, Option.some.injEq, Prod.mk.injEq] at h
    exact ⟨i, rfl, h.1, h.2.1, h.2.2⟩
set_option maxRecDepth 100000 in
set_option maxHeartbeats 2000000 in
theorem specKids (B : Nat) (ss : List StepD) (v : Value) (k : Nat) (w : World) (hl : ss.length ≤ 1048576) (ha : St.At w B v ss) :
    Calls Tryz.prog 64 #[v, .int .i64 (k : Int)] w fun e w' => (∃ u, e = .returned u ∧ w'.ownsRow w.heap.size 2 1 u (kidsL ss k).length (kidVals (kidsL ss k))) ∧ Below w.heap.size w w' := by
  obtain ⟨a, cap, rfl⟩ := ha.slice
  have HA := hid ha
  clear ha
  obtain ⟨j0, hj, hy0, hy1, hy2⟩ := info_parts infoI64
  go_enter Tryz.func64, Tryz.ntmps64
  go_wp2_with fail
  go_loopw [5, 6] (fun o i wr => ∃ n : Nat, i = .int .i64 n ∧ n ≤ ss.length ∧ (∃ a5 c5, o = .slice a5 (kidsN ss n k).length c5) ∧ Hid (wr.ownsRow w.heap.size 2 1 o (kidsN ss n k).length (kidVals (kidsN ss n k))) ∧ Below w.heap.size w wr) (fun _ i _ => ss.length - (intOf i).toNat)
  case atStart => exact ⟨0, rfl, Nat.zero_le _, ⟨_, _, rfl⟩, World.ownsRow_made w #[] 0 (Nat.le_refl _) (by unfold maxLen; omega) rfl, (Below.refl _ w).alloc (Nat.le_refl _) _⟩
  case round =>
    obtain ⟨n, rfl, hn, ⟨a5, c5, rfl⟩, HO, hbel⟩ := hrel
    have hz := hbel.size
    by_cases hlt : n < ss.length
    · obtain ⟨g, o, vc, ve, rfl, hg, c0, c1, c2, c3, c4, c5', _⟩ := (HA.out.below hbel).at hlt
      have q1 : (n : Int) < (ss.length : Int) := by omega
      have hle := kidsN_le ss n k
      have HN := hid (kidsN_succ ss n k)
      rw [PJ_eq hlt] at HN
      clear c0 c2 c3 c4 c5'
      by_cases he : ss[n].parent = (k : Int)
      · have HK : Hid (kidsN ss (n + 1) k = kidsN ss n k ++ [n]) := hid (by rw [HN.out, if_pos he])
        have b1 : (ss[n].parent == (k : Int)) = true := beq_iff_eq.2 he
        clear he HN
        generalize kidsN ss n k = ks at *
        have hown := HO.out
        go_wp2_with (at_builtin; go_must (refine wpList_append_own _ rfl _ _ 57 rfl w.heap.size 2 j0 (.int .i64 0) 1 8 Tryz.underlying57 hj hy0 hy1 hy2 rfl (by decide) _ _ _ rfl (hown.alloc _) ⟨wr.heap.size, 0, none⟩ 1 1 [.int .i64 (n : Int)] rfl rfl (cell_one_new _ _ _) (by simp [Value.oneCell']) (by unfold maxLen; omega) (by omega) (by simp; omega) ?_); intro v' w2 hown' hgrow _; obtain ⟨g9, c9, rfl⟩ := ownsRow_succ hown')
        have hB2 : Below w.heap.size w w2 := (hbel.alloc hz _).grown hgrow (by simp; omega) (fun b e => (Pt.own_lt hown e).1)
        refine ⟨⟨n + 1, by simp, by omega, ⟨some ⟨g9, 0, none⟩, c9, by rw [HK.out, List.length_append]; rfl⟩, hid ?_, hB2⟩, by simp [intOf]; omega⟩
        rw [HK.out]
        simpa [kidVals] using hown'
      · have HK : Hid (kidsN ss (n + 1) k = kidsN ss n k) := hid (by rw [HN.out, if_neg he, List.append_nil])
        have b1 : (ss[n].parent == (k : Int)) = false := beq_eq_false_iff_ne.2 he
        clear he HN
        go_wp2
        refine ⟨⟨n + 1, by simp, by omega, ⟨a5, c5, by rw [HK.out]⟩, hid ?_, hbel⟩, by simp [intOf]; omega⟩
        rw [HK.out]
        exact HO.out
    · have hne : n = ss.length := by omega
      have HE := hid hne
      clear hne
      go_wp2
      go_ret
      refine ⟨⟨_, rfl, ?_⟩, hbel⟩
      unfold kidsL
      rw [← HE.out]
      exact HO.out
end Pf
end Go.Proofs.YtfgckeoigkoflaaGreatDoor
/- A guard, as the specification draws it, over what is drawn of its kids. -/
namespace Go.Proofs.YtfgckeoigkoflaaGreatDoor
open Go.RowKit
set_option linter.unusedVariables false
namespace Gr
open Ex (hid nvals inR)
open Nd (NodeD)
open Gn (GNodeD)
open Fl (FlowD)
open St (StepD)
open Nst (own flat)
open Pf (PJ PJ_eq kidsL pFault specKids)
open Pt (kidVals)
open Rc
theorem Fr.cell {w w' : World} {P b o : Nat} {S S' : Nat → Prop} {v : Value} (h : Fr w w' P S S') (hP : b ≠ P) (hN : ¬ S b) (hc : w.cell? ⟨b, o, none⟩ = some v) : w'.cell? ⟨b, o, none⟩ = some v := by
  have e := h.blk b (cell_lt hc) hP hN
  simp only [World.cell?] at hc ⊢
  rw [e]
  exact hc
theorem Fr.steps {wp w w' : World} {P : Nat} {S S' : Nat → Prop} {g : GraphD} (h : Fr w w' P S S') (hG : GB w P S g) (hb : Below wp.heap.size wp w) (hwp : wp.heap.size ≤ P) : Below wp.heap.size wp w' :=
  hb.trans ((h.below (fun b e => (hG.owns b e).1) (Nat.le_of_lt hG.lt)).mono hwp)
/-- What l6Step does, as far as a depth. -/
def SG (ss : List StepD) (v : Value) (wp : World) (f : Nat) : Prop := ∀ (P : Nat) (S : Nat → Prop) (g : GraphD) (k : Nat) (w : World), wp.heap.size ≤ P → Below wp.heap.size wp w → GB w P S g → k < ss.length → 8 ≤ f + deepG ss k → g.nodes.length + NB f ≤ 1000000000000 → g.flows.length + FB f ≤ 1000000000000 →
  Calls Tryz.prog 33 #[.pointer (some ⟨P, 0, none⟩), v, .int .i64 (k : Int)] w fun e w' => e = .returned (.tuple #[.int .i64 ((stepG ss f g k).2.1 : Int), .int .i64 ((stepG ss f g k).2.2 : Int)]) ∧ ∃ S', GB w' P S' (stepG ss f g k).1 ∧ Fr w w' P S S'
theorem nil_own (w : World) (B : Nat) : w.ownsRow B 115 4 (.slice none 0 0) (([] : List NodeD)).length (nvals []) := World.ownsRow_nil w B _ 4
theorem nil_at (w : World) : Nd.At w 0 (.slice none 0 0) [] := ⟨_, _, rfl, Nat.le_refl _, Nat.zero_le _, .inl rfl⟩
set_option maxRecDepth 100000 in
set_option maxHeartbeats 16000000 in
theorem specGuard (P B0 f : Nat) (S : Nat → Prop) (g : GraphD) (ss : List StepD) (k k0 k1 : Nat) (v : Value) (wp w : World) (HSG : SG ss v wp f) (h : GB w P S g) (hs : St.At wp B0 v ss) (hwp : wp.heap.size ≤ P) (hb : Below wp.heap.size wp w) (hpf : pFault ss = 0) (hk : k < ss.length) (hl : ss.length ≤ 24) (hd : 8 ≤ f + 1 + deepG ss k)
    (hn : g.nodes.length + NB (f + 1) ≤ 1000000000000) (hfb : g.flows.length + FB (f + 1) ≤ 1000000000000) (hks : kidsL ss k = [k0, k1]) :
    Calls Tryz.prog 68 #[.pointer (some ⟨P, 0, none⟩), v, .int .i64 (k : Int)] w fun e w' => e = .returned (.tuple #[.int .i64 ((guardG (stepG ss f) ss g k).2.1 : Int), .int .i64 ((guardG (stepG ss f) ss g k).2.2 : Int)]) ∧ ∃ S', GB w' P S' (guardG (stepG ss f) ss g k).1 ∧ Fr w w' P S S' := by
  have hk0 := kid_mem (ss := ss) (k := k) (j := k0) (by rw [hks]; simp)
  have hk1 := kid_mem (ss := ss) (k := k) (j := k1) (by rw [hks]; simp)
  have hd0 := kid_deep hpf hk (j := k0) (by rw [hks]; simp)
  have hd1 := kid_deep hpf hk (j := k1) (by rw [hks]; simp)
  have HK := hid (specKids B0 ss v k w (by omega) (hs.below hb))
  rw [hks] at HK
  have hNB : NB (f + 1) = 3 + 24 * NB f := rfl
  have hFB : FB (f + 1) = 48 + 24 * FB f := rfl
  have FEW := step_few hl f
  have HSg := hid HSG
  have HG := hid h
  have HSB := hid hb
  obtain ⟨aq, cq, rfl⟩ := hs.slice
  obtain ⟨g1, o1, vc1, ve1, rfl, hg1, p0, p1, p2, p3, p4, p5, hc1, he1⟩ := hs.at hk
  have q1 : (k : Int) < (ss.length : Int) := by omega
  have a0 := old_cell hb hg1 p3
  have hPs : g1 ≠ P := by omega
  have zw := Nat.lt_of_lt_of_le hg1 hb.size
  have HARG : Hid ((PJ ss k).arg = ss[k].arg) := hid (by rw [PJ_eq hk])
  clear h hs p0 p1 p2 p3 p4 p5 hc1 he1 hb HSG
  go_enter Tryz.func68, Tryz.ntmps68
  go_wp2_with fail
  refine HK.out.mono ?_
  rintro e w1 ⟨⟨u, rfl, ho⟩, hb1⟩
  obtain ⟨bk, cap, rfl, hbk1, hbk2, _, _⟩ := Nst.own_some ho (by simp)
  have c0 : w1.cell? ⟨bk, 0, none⟩ = some (.int .i64 (k0 : Int)) := (ho.cellAt 0 (by simp)).trans (by simp [kidVals])
  have c1 : w1.cell? ⟨bk, 1, none⟩ = some (.int .i64 (k1 : Int)) := (ho.cellAt 1 (by simp)).trans (by simp [kidVals])
  have HG1 := hid (HG.out.below hb1)
  have HF1 : Hid (Fr w w1 P S S) := hid (Fr.of_below hb1)
  have hbP : bk ≠ P := by have := HG.out.lt; omega
  have hbN : ¬ S bk := fun e => by have := HG.out.owns bk e; omega
  have HSB1 := hid (HSB.out.trans (hb1.mono HSB.out.size))
  have a1 := old_cell hb1 zw a0
  have z1 := Nat.lt_of_lt_of_le zw hb1.size
  obtain ⟨gA, hgA⟩ : ∃ gA, gA = addN g ⟨11, (k : Int), ⟨#[]⟩, ss[k].arg, []⟩ := ⟨_, rfl⟩
  obtain ⟨q1, hq1⟩ : ∃ q, q = stepG ss f gA k0 := ⟨_, rfl⟩
  obtain ⟨gC, hgC⟩ : ∃ gC, gC = addN q1.1 (bareN 12 k) := ⟨_, rfl⟩
  obtain ⟨q2, hq2⟩ : ∃ q, q = stepG ss f gC k1 := ⟨_, rfl⟩
  obtain ⟨gD, hgD⟩ : ∃ gD, gD = addN q2.1 (bareN 13 k) := ⟨_, rfl⟩
  obtain ⟨gE, hgE⟩ : ∃ x, x = addF gD ⟨(g.nodes.length : Int), (q1.2.1 : Int), []⟩ := ⟨_, rfl⟩
  obtain ⟨gF, hgF⟩ : ∃ x, x = addF gE ⟨(g.nodes.length : Int), (q2.2.1 : Int), []⟩ := ⟨_, rfl⟩
  obtain ⟨gG, hgG⟩ : ∃ x, x = addF gF ⟨(q1.2.2 : Int), (q1.1.nodes.length : Int), []⟩ := ⟨_, rfl⟩
  obtain ⟨gH, hgH⟩ : ∃ x, x = addF gG ⟨(q1.1.nodes.length : Int), (q2.1.nodes.length : Int), []⟩ := ⟨_, rfl⟩
  obtain ⟨gI, hgI⟩ : ∃ x, x = addF gH ⟨(q2.2.2 : Int), (q2.1.nodes.length : Int), []⟩ := ⟨_, rfl⟩
  have HEQ : Hid (guardG (stepG ss f) ss g k = (gI, g.nodes.length, q2.1.nodes.length)) := hid (by
    rw [hgI, hgH, hgG, hgF, hgE, hgD, hq2, hgC, hq1, hgA]
    unfold guardG
    rw [hks, HARG.out]
    rfl)
  have f1 := FEW gA k0
  have f2 := FEW gC k1
  rw [← hq1] at f1
  rw [← hq2] at f2
  have l1 : gA.nodes.length = g.nodes.length + 1 ∧ gA.flows.length = g.flows.length := by rw [hgA]; exact ⟨addN_n _ _, rfl⟩
  have l2 : gC.nodes.length = q1.1.nodes.length + 1 ∧ gC.flows.length = q1.1.flows.length := by rw [hgC]; exact ⟨addN_n _ _, rfl⟩
  have l3 : gD.flows.length = q2.1.flows.length := by rw [hgD]; rfl
  have l4 : gE.flows.length = gD.flows.length + 1 := by rw [hgE]; exact addF_f _ _
  have l5 : gF.flows.length = gE.flows.length + 1 := by rw [hgF]; exact addF_f _ _
  have l6 : gG.flows.length = gF.flows.length + 1 := by rw [hgG]; exact addF_f _ _
  have l7 : gH.flows.length = gG.flows.length + 1 := by rw [hgH]; exact addF_f _ _
  have f1n := f1.n
  have f1f := f1.f
  have f2n := f2.n
  have f2f := f2.f
  have BN1 : Hid (g.nodes.length ≤ 1000000000000) := hid (by omega)
  have BS2 : Hid (gA.nodes.length + NB f ≤ 1000000000000 ∧ gA.flows.length + FB f ≤ 1000000000000) := hid (by omega)
  have BS3 : Hid (q1.1.nodes.length ≤ 1000000000000) := hid (by omega)
  have BS4 : Hid (gC.nodes.length + NB f ≤ 1000000000000 ∧ gC.flows.length + FB f ≤ 1000000000000) := hid (by omega)
  have BS5 : Hid (q2.1.nodes.length ≤ 1000000000000) := hid (by omega)
  have BS6 : Hid (gD.flows.length ≤ 1000000000000 ∧ gE.flows.length ≤ 1000000000000 ∧ gF.flows.length ≤ 1000000000000 ∧ gG.flows.length ≤ 1000000000000 ∧ gH.flows.length ≤ 1000000000000) := hid (by omega)
  have DD : Hid (8 ≤ f + deepG ss k0 ∧ 8 ≤ f + deepG ss k1) := hid (by omega)
  have HgA := hid hgA
  have HgC := hid hgC
  have HgD := hid hgD
  have HgE := hid hgE
  have HgF := hid hgF
  have HgG := hid hgG
  have HgH := hid hgH
  have HgI := hid hgI
  have Hq1 := hid hq1
  have Hq2 := hid hq2
  have HK0 := hid hk0.1
  have HK1 := hid hk1.1
  clear hgA hgC hgD hgE hgF hgG hgH hgI hq1 hq2 f1 f2 f1n f1f f2n f2f l1 l2 l3 l4 l5 l6 l7 hNB hFB hn hfb hd hd0 hd1 hk0 hk1 FEW ho hb1 HK hks HG HSB a0
  go_wp2_with fail
  refine (specNode P S g ⟨11, (k : Int), ⟨#[]⟩, ss[k].arg, []⟩ (.slice none 0 0) w1 w1 HG1.out (Below.refl _ _) (nil_own _ _) BN1.out).mono ?_
  rintro e w2 ⟨rfl, S2, hG2, hF2⟩
  have c0_2 := hF2.cell hbP hbN c0
  have c1_2 := hF2.cell hbP hbN c1
  have hbN_2 := hF2.ne hbk2 hbN
  have hbk_2 := Nat.lt_of_lt_of_le hbk2 hF2.size
  have HSB2 := hid (hF2.steps HG1.out HSB1.out hwp)
  have HF2 := hid (HF1.out.trans hF2)
  have HG2 : Hid (GB w2 P S2 gA) := hid (by rw [HgA.out]; exact hG2)
  clear hG2 hF2 c0 c1 hbN hbk2 a1 z1
  go_wp2_with fail
  refine (HSg.out P S2 gA k0 w2 hwp HSB2.out HG2.out HK0.out DD.out.1 BS2.out.1 BS2.out.2).mono ?_
  rintro e w3 ⟨rfl, S3, hG3, hF3⟩
  rw [← Hq1.out] at hG3 ⊢
  have c0_3 := hF3.cell hbP hbN_2 c0_2
  have c1_3 := hF3.cell hbP hbN_2 c1_2
  have hbN_3 := hF3.ne hbk_2 hbN_2
  have hbk_3 := Nat.lt_of_lt_of_le hbk_2 hF3.size
  have HSB3 := hid (hF3.steps HG2.out HSB2.out hwp)
  have HF3 := hid (HF2.out.trans hF3)
  have HG3 : Hid (GB w3 P S3 q1.1) := hid hG3
  clear hG3 hF3 c0_2 c1_2 hbN_2 hbk_2
  go_wp2_with fail
  refine (specNode P S3 q1.1 (bareN 12 k) (.slice none 0 0) w3 w3 HG3.out (Below.refl _ _) (nil_own _ _) BS3.out).mono ?_
  rintro e w4 ⟨rfl, S4, hG4, hF4⟩
  have c0_4 := hF4.cell hbP hbN_3 c0_3
  have c1_4 := hF4.cell hbP hbN_3 c1_3
  have hbN_4 := hF4.ne hbk_3 hbN_3
  have hbk_4 := Nat.lt_of_lt_of_le hbk_3 hF4.size
  have HSB4 := hid (hF4.steps HG3.out HSB3.out hwp)
  have HF4 := hid (HF3.out.trans hF4)
  have HG4 : Hid (GB w4 P S4 gC) := hid (by rw [HgC.out]; exact hG4)
  clear hG4 hF4 c0_3 c1_3 hbN_3 hbk_3
  go_wp2_with fail
  refine (HSg.out P S4 gC k1 w4 hwp HSB4.out HG4.out HK1.out DD.out.2 BS4.out.1 BS4.out.2).mono ?_
  rintro e w5 ⟨rfl, S5, hG5, hF5⟩
  rw [← Hq2.out] at hG5 ⊢
  have c0_5 := hF5.cell hbP hbN_4 c0_4
  have c1_5 := hF5.cell hbP hbN_4 c1_4
  have hbN_5 := hF5.ne hbk_4 hbN_4
  have hbk_5 := Nat.lt_of_lt_of_le hbk_4 hF5.size
  have HSB5 := hid (hF5.steps HG4.out HSB4.out hwp)
  have HF5 := hid (HF4.out.trans hF5)
  have HG5 : Hid (GB w5 P S5 q2.1) := hid hG5
  clear hG5 hF5 c0_4 c1_4 hbN_4 hbk_4
  go_wp2_with fail
  refine (specNode P S5 q2.1 (bareN 13 k) (.slice none 0 0) w5 w5 HG5.out (Below.refl _ _) (nil_own _ _) BS5.out).mono ?_
  rintro e w6 ⟨rfl, S6, hG6, hF6⟩
  have c0_6 := hF6.cell hbP hbN_5 c0_5
  have c1_6 := hF6.cell hbP hbN_5 c1_5
  have hbN_6 := hF6.ne hbk_5 hbN_5
  have hbk_6 := Nat.lt_of_lt_of_le hbk_5 hF6.size
  have HSB6 := hid (hF6.steps HG5.out HSB5.out hwp)
  have HF6 := hid (HF5.out.trans hF6)
  have HG6 : Hid (GB w6 P S6 gD) := hid (by rw [HgD.out]; exact hG6)
  clear hG6 hF6 c0_5 c1_5 hbN_5 hbk_5
  clear c0_6 c1_6 hbN_6 hbk_6
  go_wp2_with fail
  refine (specLink P 0 S6 gD ⟨(g.nodes.length : Int), (q1.2.1 : Int), []⟩ (.slice none 0 0) w6 HG6.out (nil_at _) (Nat.zero_le _) BS6.out.1).mono ?_
  rintro e w7 ⟨⟨r7, rfl⟩, S7, hG7, hF7⟩
  have HF7 := hid (HF6.out.trans hF7)
  have HG7 : Hid (GB w7 P S7 gE) := hid (by rw [HgE.out]; exact hG7)
  clear hG7 hF7
  go_wp2_with fail
  refine (specLink P 0 S7 gE ⟨(g.nodes.length : Int), (q2.2.1 : Int), []⟩ (.slice none 0 0) w7 HG7.out (nil_at _) (Nat.zero_le _) BS6.out.2.1).mono ?_
  rintro e w8 ⟨⟨r8, rfl⟩, S8, hG8, hF8⟩
  have HF8 := hid (HF7.out.trans hF8)
  have HG8 : Hid (GB w8 P S8 gF) := hid (by rw [HgF.out]; exact hG8)
  clear hG8 hF8
  go_wp2_with fail
  refine (specLink P 0 S8 gF ⟨(q1.2.2 : Int), (q1.1.nodes.length : Int), []⟩ (.slice none 0 0) w8 HG8.out (nil_at _) (Nat.zero_le _) BS6.out.2.2.1).mono ?_
  rintro e w9 ⟨⟨r9, rfl⟩, S9, hG9, hF9⟩
  have HF9 := hid (HF8.out.trans hF9)
  have HG9 : Hid (GB w9 P S9 gG) := hid (by rw [HgG.out]; exact hG9)
  clear hG9 hF9
  go_wp2_with fail
  refine (specLink P 0 S9 gG ⟨(q1.1.nodes.length : Int), (q2.1.nodes.length : Int), []⟩ (.slice none 0 0) w9 HG9.out (nil_at _) (Nat.zero_le _) BS6.out.2.2.2.1).mono ?_
  rintro e w10 ⟨⟨r10, rfl⟩, S10, hG10, hF10⟩
  have HF10 := hid (HF9.out.trans hF10)
  have HG10 : Hid (GB w10 P S10 gH) := hid (by rw [HgH.out]; exact hG10)
  clear hG10 hF10
  go_wp2_with fail
  refine (specLink P 0 S10 gH ⟨(q2.2.2 : Int), (q2.1.nodes.length : Int), []⟩ (.slice none 0 0) w10 HG10.out (nil_at _) (Nat.zero_le _) BS6.out.2.2.2.2).mono ?_
  rintro e w11 ⟨⟨r11, rfl⟩, S11, hG11, hF11⟩
  have HF11 := hid (HF10.out.trans hF11)
  have HG11 : Hid (GB w11 P S11 gI) := hid (by rw [HgI.out]; exact hG11)
  clear hG11 hF11
  go_wp2
  go_ret2
  rw [HEQ.out]
  exact ⟨rfl, S11, HG11.out, HF11.out⟩
end Gr
end Go.Proofs.YtfgckeoigkoflaaGreatDoor
