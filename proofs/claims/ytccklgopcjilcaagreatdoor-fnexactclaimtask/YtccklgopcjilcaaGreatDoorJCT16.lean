/- The specification's small functions of processes. -/
import Derived.Test.YtccklgopcjilcaaGreatDoorJCT4
import Derived.Test.YtccklgopcjilcaaGreatDoorJCT5
import Derived.Test.YtccklgopcjilcaaGreatDoorJCT2
import Derived.Test.YtccklgopcjilcaaGreatDoorJCT15
import Derived.Deep.QuietTactic
import Derived.BigQuiet
import Derived.Laws.OwnMore
namespace Go.Proofs.YtccklgopcjilcaaGreatDoor
open Go.RowKit
set_option linter.unusedVariables false
namespace Pf
open Ex (hid inR eFault typeCode typeVal specIn)
open Nd (NodeD)
open St (StepD)
open Tr (Chain cutTo onPath top nf ElemD onPath_cons top_lt top_ge chain_tail)
open Pt (chain_get kidVals)
/-- A step at an address. -/
structure SAt (w : World) (g o : Nat) (s : StepD) (vc ve : Value) : Prop where
  k : w.cell? ⟨g, o, none⟩ = some (.int .i64 s.kind)
  p : w.cell? ⟨g, o + 1, none⟩ = some (.int .i64 s.parent)
  n : w.cell? ⟨g, o + 2, none⟩ = some (.string s.name)
  a : w.cell? ⟨g, o + 3, none⟩ = some (.int .i64 s.arg)
  c : w.cell? ⟨g, o + 4, none⟩ = some vc
  e : w.cell? ⟨g, o + 5, none⟩ = some ve
set_option maxRecDepth 100000 in
set_option maxHeartbeats 4000000 in
theorem specBare (s : StepD) (g o : Nat) (vc : Value) (a : Option Addr) (cap : Nat) (w : World) (hl : s.expr.length ≤ 1048576) (h : SAt w g o s vc (.slice a s.expr.length cap)) :
    Calls Tryz.prog 215 #[.pointer (some ⟨g, o, none⟩)] w fun e w' => e = .returned (.bool (bare s)) ∧ w' = w := by
  obtain ⟨c0, c1, c2, c3, c4, c5⟩ := h
  have hlt := Nd.lt_of_cell c0
  unfold bare
  generalize s.kind = kind at *
  generalize s.name = nm at *
  generalize s.arg = arg at *
  generalize s.expr.length = n at *
  clear c1 c4
  have HI := hid (fun w' => specIn kind 5 8 w')
  have hE : decide (n = 0) = ((n : Int) == 0) := by
    by_cases h : n = 0
    · simp [h]
    · have : ((n : Int) == 0) = false := by simp; omega
      simp [h, this]
  rw [hE]
  clear hE
  cases b1 : (kind == 2)
  · cases b2 : nm.toList.isEmpty
    · cases b3 : inR kind 5 8
      · rw [b3] at HI
        go_enter Tryz.func215, Tryz.ntmps215
        go_wp2_with (go_at_call 118; refine (HI.out _).mono ?_; rintro e w1 ⟨rfl, rfl⟩)
        go_ret
        exact ⟨by simp [*], rfl⟩
      · rw [b3] at HI
        go_enter Tryz.func215, Tryz.ntmps215
        go_wp2_with (go_at_call 118; refine (HI.out _).mono ?_; rintro e w1 ⟨rfl, rfl⟩)
        go_ret
        exact ⟨by simp [*], rfl⟩
    · skip
      cases b3 : inR kind 5 8
      · rw [b3] at HI
        cases b4 : (arg == 0)
        · skip
          go_enter Tryz.func215, Tryz.ntmps215
          go_wp2_with (go_at_call 118; refine (HI.out _).mono ?_; rintro e w1 ⟨rfl, rfl⟩)
          go_ret
          exact ⟨by simp [*], rfl⟩
        · skip
          cases b5 : (kind == 7)
          · cases b6 : ((n : Int) == 0)
            · skip
              go_enter Tryz.func215, Tryz.ntmps215
              go_wp2_with (go_at_call 118; refine (HI.out _).mono ?_; rintro e w1 ⟨rfl, rfl⟩)
              go_ret
              exact ⟨by simp [*], rfl⟩
            · skip
              go_enter Tryz.func215, Tryz.ntmps215
              go_wp2_with (go_at_call 118; refine (HI.out _).mono ?_; rintro e w1 ⟨rfl, rfl⟩)
              go_ret
              exact ⟨by simp [*], rfl⟩
          · skip
            go_enter Tryz.func215, Tryz.ntmps215
            go_wp2_with (go_at_call 118; refine (HI.out _).mono ?_; rintro e w1 ⟨rfl, rfl⟩)
            go_ret
            exact ⟨by simp [*], rfl⟩
      · rw [b3] at HI
        cases b5 : (kind == 7)
        · cases b6 : ((n : Int) == 0)
          · skip
            go_enter Tryz.func215, Tryz.ntmps215
            go_wp2_with (go_at_call 118; refine (HI.out _).mono ?_; rintro e w1 ⟨rfl, rfl⟩)
            go_ret
            exact ⟨by simp [*], rfl⟩
          · skip
            go_enter Tryz.func215, Tryz.ntmps215
            go_wp2_with (go_at_call 118; refine (HI.out _).mono ?_; rintro e w1 ⟨rfl, rfl⟩)
            go_ret
            exact ⟨by simp [*], rfl⟩
        · skip
          go_enter Tryz.func215, Tryz.ntmps215
          go_wp2_with (go_at_call 118; refine (HI.out _).mono ?_; rintro e w1 ⟨rfl, rfl⟩)
          go_ret
          exact ⟨by simp [*], rfl⟩
  · skip
    cases b3 : inR kind 5 8
    · rw [b3] at HI
      cases b4 : (arg == 0)
      · skip
        go_enter Tryz.func215, Tryz.ntmps215
        go_wp2_with (go_at_call 118; refine (HI.out _).mono ?_; rintro e w1 ⟨rfl, rfl⟩)
        go_ret
        exact ⟨by simp [*], rfl⟩
      · skip
        cases b5 : (kind == 7)
        · cases b6 : ((n : Int) == 0)
          · skip
            go_enter Tryz.func215, Tryz.ntmps215
            go_wp2_with (go_at_call 118; refine (HI.out _).mono ?_; rintro e w1 ⟨rfl, rfl⟩)
            go_ret
            exact ⟨by simp [*], rfl⟩
          · skip
            go_enter Tryz.func215, Tryz.ntmps215
            go_wp2_with (go_at_call 118; refine (HI.out _).mono ?_; rintro e w1 ⟨rfl, rfl⟩)
            go_ret
            exact ⟨by simp [*], rfl⟩
        · skip
          go_enter Tryz.func215, Tryz.ntmps215
          go_wp2_with (go_at_call 118; refine (HI.out _).mono ?_; rintro e w1 ⟨rfl, rfl⟩)
          go_ret
          exact ⟨by simp [*], rfl⟩
    · rw [b3] at HI
      cases b5 : (kind == 7)
      · cases b6 : ((n : Int) == 0)
        · skip
          go_enter Tryz.func215, Tryz.ntmps215
          go_wp2_with (go_at_call 118; refine (HI.out _).mono ?_; rintro e w1 ⟨rfl, rfl⟩)
          go_ret
          exact ⟨by simp [*], rfl⟩
        · skip
          go_enter Tryz.func215, Tryz.ntmps215
          go_wp2_with (go_at_call 118; refine (HI.out _).mono ?_; rintro e w1 ⟨rfl, rfl⟩)
          go_ret
          exact ⟨by simp [*], rfl⟩
      · skip
        go_enter Tryz.func215, Tryz.ntmps215
        go_wp2_with (go_at_call 118; refine (HI.out _).mono ?_; rintro e w1 ⟨rfl, rfl⟩)
        go_ret
        exact ⟨by simp [*], rfl⟩
set_option maxRecDepth 100000 in
set_option maxHeartbeats 2000000 in
theorem specArg (s : StepD) (g o : Nat) (vc ve : Value) (w : World) (h : SAt w g o s vc ve) :
    Calls Tryz.prog 219 #[.pointer (some ⟨g, o, none⟩)] w fun e w' => e = .returned (.bool (argOk s)) ∧ w' = w := by
  obtain ⟨c0, c1, c2, c3, c4, c5⟩ := h
  have hlt := Nd.lt_of_cell c0
  unfold argOk
  generalize s.kind = kind at *
  generalize s.arg = arg at *
  clear c1 c2 c4 c5
  have HI := hid (fun a b w' => specIn arg a b w')
  by_cases k5 : kind = 5
  · subst k5
    rw [if_pos rfl]
    go_enter Tryz.func219, Tryz.ntmps219
    go_wp2_with (go_at_call 118; refine (HI.out _ _ _).mono ?_; rintro e w1 ⟨rfl, rfl⟩)
    go_ret
    exact ⟨rfl, rfl⟩
  have b5 : (kind == 5) = false := beq_eq_false_iff_ne.2 k5
  rw [if_neg k5]
  by_cases k6 : kind = 6
  · subst k6
    rw [if_pos (.inl rfl)]
    go_enter Tryz.func219, Tryz.ntmps219
    go_wp2_with (go_at_call 118; refine (HI.out _ _ _).mono ?_; rintro e w1 ⟨rfl, rfl⟩)
    go_ret
    exact ⟨rfl, rfl⟩
  have b6 : (kind == 6) = false := beq_eq_false_iff_ne.2 k6
  by_cases k8 : kind = 8
  · subst k8
    rw [if_pos (.inr rfl)]
    go_enter Tryz.func219, Tryz.ntmps219
    go_wp2_with (go_at_call 118; refine (HI.out _ _ _).mono ?_; rintro e w1 ⟨rfl, rfl⟩)
    go_ret
    exact ⟨rfl, rfl⟩
  have b8 : (kind == 8) = false := beq_eq_false_iff_ne.2 k8
  rw [if_neg (by omega)]
  by_cases k7 : kind = 7
  · subst k7
    rw [if_pos rfl]
    go_enter Tryz.func219, Tryz.ntmps219
    go_wp2_with (go_at_call 118; refine (HI.out _ _ _).mono ?_; rintro e w1 ⟨rfl, rfl⟩)
    go_ret
    exact ⟨rfl, rfl⟩
  have b7 : (kind == 7) = false := beq_eq_false_iff_ne.2 k7
  rw [if_neg k7]
  clear k5 k6 k7 k8
  go_enter Tryz.func219, Tryz.ntmps219
  go_wp2_with (go_at_call 118; refine (HI.out _ _ _).mono ?_; rintro e w1 ⟨rfl, rfl⟩)
  go_ret
  exact ⟨rfl, rfl⟩
set_option maxRecDepth 100000 in
set_option maxHeartbeats 2000000 in
theorem specMany (kind : Int) (n : Nat) (w : World) (hn : n ≤ 1048576) :
    Calls Tryz.prog 221 #[.int .i64 kind, .int .i64 n] w fun e w' => e = .returned (.bool (manyOk kind n)) ∧ w' = w := by
  unfold manyOk
  have d1 : decide (1 ≤ n) = decide ((1 : Int) ≤ (n : Int)) := by simp only [decide_eq_decide]; omega
  have d2 : decide (2 ≤ n) = decide ((2 : Int) ≤ (n : Int)) := by simp only [decide_eq_decide]; omega
  have d3 : decide (n = 2) = ((n : Int) == 2) := by
    by_cases h : n = 2
    · simp [h]
    · have : ((n : Int) == 2) = false := by simp; omega
      simp [h, this]
  have d4 : decide (n = 0) = ((n : Int) == 0) := by
    by_cases h : n = 0
    · simp [h]
    · have : ((n : Int) == 0) = false := by simp; omega
      simp [h, this]
  rw [d1, d2, d3, d4]
  clear d1 d2 d3 d4
  by_cases k1 : kind = 1
  · subst k1
    rw [if_pos rfl]
    go_enter Tryz.func221, Tryz.ntmps221
    go_wp2
    go_ret
    exact ⟨rfl, rfl⟩
  have b1 : (kind == 1) = false := beq_eq_false_iff_ne.2 k1
  rw [if_neg k1]
  by_cases k3 : kind = 3
  · subst k3
    rw [if_pos (.inl rfl)]
    go_enter Tryz.func221, Tryz.ntmps221
    go_wp2
    go_ret
    exact ⟨rfl, rfl⟩
  have b3 : (kind == 3) = false := beq_eq_false_iff_ne.2 k3
  by_cases k4 : kind = 4
  · subst k4
    rw [if_pos (.inr rfl)]
    go_enter Tryz.func221, Tryz.ntmps221
    go_wp2
    go_ret
    exact ⟨rfl, rfl⟩
  have b4 : (kind == 4) = false := beq_eq_false_iff_ne.2 k4
  rw [if_neg (by omega)]
  by_cases k8 : kind = 8
  · subst k8
    rw [if_pos rfl]
    go_enter Tryz.func221, Tryz.ntmps221
    go_wp2
    go_ret
    exact ⟨rfl, rfl⟩
  have b8 : (kind == 8) = false := beq_eq_false_iff_ne.2 k8
  rw [if_neg k8]
  clear k1 k3 k4 k8
  go_enter Tryz.func221, Tryz.ntmps221
  go_wp2
  go_ret
  exact ⟨rfl, rfl⟩
theorem par_at {ss : List StepD} {x : Nat} {r : List Nat} (h : Chain (es ss) (x :: r)) : ∃ h1 : x < ss.length, ss[x].parent = top r := by
  obtain ⟨h1, h2⟩ := chain_get h
  have h3 : x < ss.length := by rw [es_len] at h1; exact h1
  exact ⟨h3, by rw [← es_par h3]; exact h2⟩
set_option maxRecDepth 100000 in
set_option maxHeartbeats 1000000 in
theorem specLine (B : Nat) (ss : List StepD) (v : Value) (i : Nat) (w : World) (hl : ss.length ≤ 24) (hi : i < ss.length) (hc : Chain (es ss) (path ss i)) (ha : St.At w B v ss) :
    Calls Tryz.prog 216 #[v, .int .i64 i] w fun e w' => e = .returned (.bool (onPath ss[i].parent (path ss i))) ∧ w' = w := by
  obtain ⟨a, cap, rfl⟩ := ha.slice
  obtain ⟨g, o, vc, ve, rfl, hg, d0, d1, d2, d3, d4, d5, _⟩ := ha.at hi
  have HA := hid ha
  have H1 := hid (top_path ss i)
  generalize path ss i = S at *
  have HC := hid hc
  clear ha hc d0 d2 d3 d4 d5
  have q1 : (i : Int) < (ss.length : Int) := by omega
  go_enter Tryz.func216, Tryz.ntmps216
  go_wp2
  go_loop [5] (fun x => ∃ S' : List Nat, x = .int .i64 (top S') ∧ Hid (Chain (es ss) S' ∧ onPath ss[i].parent S = onPath ss[i].parent S')) (fun x => (intOf x + 1).toNat)
  case atStart => exact ⟨S, by rw [H1.out], HC.out, rfl⟩
  case round =>
    obtain ⟨S', rfl, HS⟩ := hrel
    cases S' with
    | nil =>
      have HV : Hid (onPath ss[i].parent S = false) := hid (by rw [HS.out.2]; rfl)
      have q2 : ¬ (0 : Int) ≤ top [] := by decide
      go_wp2
      go_ret
      exact ⟨by rw [HV.out]; rfl, rfl⟩
    | cons x r =>
      obtain ⟨hx, hp⟩ := par_at HS.out.1
      have htl := top_lt HS.out.1
      have htg := top_ge r
      have hct := chain_tail HS.out.1
      obtain ⟨g', o', vx, vy, e', hg', c0, c1, c2, c3, c4, c5, _⟩ := HA.out.at hx
      cases e'
      rw [hp] at c1
      clear c0 c2 c3 c4 c5
      have ht : top (x :: r) = (x : Int) := rfl
      rw [ht]
      have q2 : (0 : Int) ≤ (x : Int) := by omega
      have q3 : (x : Int) < (ss.length : Int) := by omega
      by_cases he : (x : Int) = ss[i].parent
      · have HV : Hid (onPath ss[i].parent S = true) := hid (by rw [HS.out.2, onPath_cons]; simp [he])
        have b1 : ((x : Int) == ss[i].parent) = true := beq_iff_eq.2 he
        clear he
        go_wp2
        go_ret
        exact ⟨by rw [HV.out]; rfl, rfl⟩
      · have HV : Hid (Chain (es ss) r ∧ onPath ss[i].parent S = onPath ss[i].parent r) := hid ⟨hct, by rw [HS.out.2, onPath_cons]; simp [he]⟩
        have b1 : ((x : Int) == ss[i].parent) = false := beq_eq_false_iff_ne.2 he
        clear he hct
        go_wp2
        exact ⟨⟨r, rfl, HV⟩, by simp [intOf]; omega⟩
set_option maxRecDepth 100000 in
set_option maxHeartbeats 1000000 in
theorem specDeep (B : Nat) (ss : List StepD) (v : Value) (S : List Nat) (w : World) (hl : ss.length ≤ 24) (hc : Chain (es ss) S) (h8 : S.length ≤ 49) (ha : St.At w B v ss) :
    Calls Tryz.prog 217 #[v, .int .i64 (top S)] w fun e w' => e = .returned (.int .i64 (S.length : Int)) ∧ w' = w := by
  obtain ⟨a, cap, rfl⟩ := ha.slice
  have HA := hid ha
  have HC := hid hc
  clear ha hc
  go_enter Tryz.func217, Tryz.ntmps217
  go_wp2
  go_loop [1, 5] (fun x y => ∃ (S' : List Nat) (n : Nat), x = .int .i64 (top S') ∧ y = .int .i64 (n : Int) ∧ n + S'.length = S.length ∧ Hid (Chain (es ss) S')) (fun x _ => (intOf x + 1).toNat)
  case atStart => exact ⟨S, 0, rfl, rfl, by omega, HC.out⟩
  case round =>
    obtain ⟨S', n, rfl, rfl, hn, HS⟩ := hrel
    cases S' with
    | nil =>
      have hn' : n = S.length := by simpa using hn
      subst hn'
      have q2 : ¬ (0 : Int) ≤ top [] := by decide
      go_wp2
      go_ret
      exact ⟨rfl, rfl⟩
    | cons x r =>
      obtain ⟨hx, hp⟩ := par_at HS.out
      have htl := top_lt HS.out
      have htg := top_ge r
      have hct := hid (chain_tail HS.out)
      obtain ⟨g', o', vx, vy, e', hg', c0, c1, c2, c3, c4, c5, _⟩ := HA.out.at hx
      cases e'
      rw [hp] at c1
      clear c0 c2 c3 c4 c5
      have ht : top (x :: r) = (x : Int) := rfl
      rw [ht]
      simp only [List.length_cons] at hn
      have q2 : (0 : Int) ≤ (x : Int) := by omega
      have q3 : (x : Int) < (ss.length : Int) := by omega
      have q4 : (n : Int) < 50 := by omega
      go_wp2
      exact ⟨⟨r, n + 1, rfl, by go_num, by omega, hct⟩, by simp [intOf]; omega⟩
theorem infoI64 : (Tryz.prog.info? 2).map (fun i => (i.zero, i.size, i.bytes)) = some (some (.int .i64 0), 1, 8) := by kernel_rfl
theorem info_parts {P : Program} {e : TypeId} {z : Value} {sz bytes : Nat} (h : (P.info? e).map (fun i => (i.zero, i.size, i.bytes)) = some (some z, sz, bytes)) : ∃ i, P.info? e = some i ∧ i.zero = some z ∧ i.size = sz ∧ i.bytes = bytes := by
  cases hi : P.info? e with
  | none => rw [hi] at h; cases h
  | some i =>
    rw [hi] at h
    simp only [Option.map_some, Option.some.injEq, Prod.mk.injEq] at h
    exact ⟨i, rfl, h.1, h.2.1, h.2.2⟩
set_option maxRecDepth 100000 in
set_option maxHeartbeats 2000000 in
theorem specKids (B : Nat) (ss : List StepD) (v : Value) (k : Nat) (w : World) (hl : ss.length ≤ 1048576) (ha : St.At w B v ss) :
    Calls Tryz.prog 222 #[v, .int .i64 (k : Int)] w fun e w' => (∃ u, e = .returned u ∧ w'.ownsRow w.heap.size 2 1 u (kidsL ss k).length (kidVals (kidsL ss k))) ∧ Below w.heap.size w w' := by
  obtain ⟨a, cap, rfl⟩ := ha.slice
  have HA := hid ha
  clear ha
  obtain ⟨j0, hj, hy0, hy1, hy2⟩ := info_parts infoI64
  go_enter Tryz.func222, Tryz.ntmps222
  go_wp2_with fail
  go_loopw [5, 6] (fun o i wr => ∃ n : Nat, i = .int .i64 n ∧ n ≤ ss.length ∧ (∃ a5 c5, o = .slice a5 (kidsN ss n k).length c5) ∧ Hid (wr.ownsRow w.heap.size 2 1 o (kidsN ss n k).length (kidVals (kidsN ss n k))) ∧ Below w.heap.size w wr) (fun _ i _ => ss.length - (intOf i).toNat)
  case atStart => exact ⟨0, rfl, Nat.zero_le _, ⟨_, _, rfl⟩, World.ownsRow_made w #[] 0 (Nat.le_refl _) (by unfold maxLen; omega) rfl, (Below.refl _ w).alloc (Nat.le_refl _) _⟩
  case round =>
    obtain ⟨n, rfl, hn, ⟨a5, c5, rfl⟩, HO, hbel⟩ := hrel
    have hz := hbel.size
    by_cases hlt : n < ss.length
    · obtain ⟨g, o, vc, ve, rfl, hg, c0, c1, c2, c3, c4, c5', _⟩ := (HA.out.below hbel).at hlt
      have q1 : (n : Int) < (ss.length : Int) := by omega
      have hle := kidsN_le ss n k
      have HN := hid (kidsN_succ ss n k)
      rw [PJ_eq hlt] at HN
      clear c0 c2 c3 c4 c5'
      by_cases he : ss[n].parent = (k : Int)
      · have HK : Hid (kidsN ss (n + 1) k = kidsN ss n k ++ [n]) := hid (by rw [HN.out, if_pos he])
        have b1 : (ss[n].parent == (k : Int)) = true := beq_iff_eq.2 he
        clear he HN
        generalize kidsN ss n k = ks at *
        have hown := HO.out
        go_wp2_with (at_builtin; go_must (refine wpList_append_own _ rfl _ _ 110 rfl w.heap.size 2 j0 (.int .i64 0) 1 8 Tryz.underlying110 hj hy0 hy1 hy2 rfl (by decide) _ _ _ rfl (hown.alloc _) ⟨wr.heap.size, 0, none⟩ 1 1 [.int .i64 (n : Int)] rfl rfl (cell_one_new _ _ _) (by simp [Value.oneCell']) (by unfold maxLen; omega) (by omega) (by simp; omega) ?_); intro v' w2 hown' hgrow _; obtain ⟨g9, c9, rfl⟩ := ownsRow_succ hown')
        have hB2 : Below w.heap.size w w2 := (hbel.alloc hz _).grown hgrow (by simp; omega) (fun b e => (Pt.own_lt hown e).1)
        refine ⟨⟨n + 1, by simp, by omega, ⟨some ⟨g9, 0, none⟩, c9, by rw [HK.out, List.length_append]; rfl⟩, hid ?_, hB2⟩, by simp [intOf]; omega⟩
        rw [HK.out]
        simpa [kidVals] using hown'
      · have HK : Hid (kidsN ss (n + 1) k = kidsN ss n k) := hid (by rw [HN.out, if_neg he, List.append_nil])
        have b1 : (ss[n].parent == (k : Int)) = false := beq_eq_false_iff_ne.2 he
        clear he HN
        go_wp2
        refine ⟨⟨n + 1, by simp, by omega, ⟨a5, c5, by rw [HK.out]⟩, hid ?_, hbel⟩, by simp [intOf]; omega⟩
        rw [HK.out]
        exact HO.out
    · have hne : n = ss.length := by omega
      have HE := hid hne
      clear hne
      go_wp2
      go_ret
      refine ⟨⟨_, rfl, ?_⟩, hbel⟩
      unfold kidsL
      rw [← HE.out]
      exact HO.out
end Pf
end Go.Proofs.YtccklgopcjilcaaGreatDoor
