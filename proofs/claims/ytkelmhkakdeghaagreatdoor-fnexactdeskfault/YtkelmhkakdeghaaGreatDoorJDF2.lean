/- Laid together: ExM, StA. -/
import Derived.Test.YtkelmhkakdeghaaGreatDoorJDF1
import Derived.Deep.SlicePairs
/- Plain facts about expressions, of no program. -/
namespace Go.Proofs.YtkelmhkakdeghaaGreatDoor
open Go.RowKit
set_option linter.unusedVariables false
namespace Ex
open Nd (NodeD)
theorem hid {p : Prop} (h : p) : Hid p := h
def inR (v a b : Int) : Bool := decide (a ≤ v) && decide (v ≤ b)
def two (k : Int) : Bool := inR k 3 9
def vFault (xs : List Int) : Int := if xs.length ≠ 4 then 2 else if xs.all (fun x => inR x (-1000000) 1000000) = true then 0 else 3
theorem v_len {xs : List Int} (h : xs.length ≠ 4) : vFault xs = 2 := by unfold vFault; rw [if_pos h]
theorem v_ok {xs : List Int} (h : xs.length = 4) (h2 : ∀ i (hi : i < xs.length), inR xs[i] (-1000000) 1000000 = true) : vFault xs = 0 := by
  unfold vFault
  rw [if_neg (by simp [h]), if_pos]
  rw [List.all_eq_true]
  intro x hx
  obtain ⟨i, hi, rfl⟩ := List.getElem_of_mem hx
  exact h2 i hi
theorem v_bad {xs : List Int} (h : xs.length = 4) {i : Nat} (hi : i < xs.length) (h2 : inR xs[i] (-1000000) 1000000 = false) : vFault xs = 3 := by
  unfold vFault
  rw [if_neg (by simp [h]), if_neg]
  rw [List.all_eq_true]
  intro hx
  have := hx xs[i] (List.getElem_mem hi)
  rw [h2] at this
  cases this
/-- The code of a node at a place. -/
def has (n : NodeD) : Bool := (decide (n.kind ≤ 2) && ((n.left != 0) || (n.right != 0))) || (!decide (n.kind ≤ 2) && (n.value != 0)) || ((n.kind == 10) && (n.right != 0))
def wide (n : NodeD) : Bool := ((n.kind == 1) && !inR n.value 0 9999) || ((n.kind == 2) && !inR n.value 0 3)
def far (n : NodeD) (i : Int) : Bool := (!decide (n.kind ≤ 2) && !inR n.left 0 (i - 1)) || (two n.kind && !inR n.right 0 (i - 1))
def nCode (n : NodeD) (i : Int) : Int := if inR n.kind 1 10 = false then 1 else if has n = true then 1 else if wide n = true then 3 else if far n i = true then 3 else 0
theorem n_kind {n : NodeD} {i : Int} (h : inR n.kind 1 10 = false) : nCode n i = 1 := by unfold nCode; rw [if_pos h]
theorem n_has {n : NodeD} {i : Int} (h : inR n.kind 1 10 = true) (h2 : has n = true) : nCode n i = 1 := by unfold nCode; rw [if_neg (by simp [h]), if_pos h2]
theorem n_wide {n : NodeD} {i : Int} (h : inR n.kind 1 10 = true) (h2 : has n = false) (h3 : wide n = true) : nCode n i = 3 := by unfold nCode; rw [if_neg (by simp [h]), if_neg (by simp [h2]), if_pos h3]
theorem n_far {n : NodeD} {i : Int} (h : inR n.kind 1 10 = true) (h2 : has n = false) (h3 : wide n = false) (h4 : far n i = true) : nCode n i = 3 := by unfold nCode; rw [if_neg (by simp [h]), if_neg (by simp [h2]), if_neg (by simp [h3]), if_pos h4]
theorem n_ok {n : NodeD} {i : Int} (h : inR n.kind 1 10 = true) (h2 : has n = false) (h3 : wide n = false) (h4 : far n i = false) : nCode n i = 0 := by unfold nCode; rw [if_neg (by simp [h]), if_neg (by simp [h2]), if_neg (by simp [h3]), if_neg (by simp [h4])]
theorem of_n {n : NodeD} {i : Int} (h : nCode n i = 0) : inR n.kind 1 10 = true ∧ has n = false ∧ wide n = false ∧ far n i = false := by
  unfold nCode at h
  by_cases h1 : inR n.kind 1 10 = false
  · rw [if_pos h1] at h; omega
  rw [if_neg h1] at h
  by_cases h2 : has n = true
  · rw [if_pos h2] at h; omega
  rw [if_neg h2] at h
  by_cases h3 : wide n = true
  · rw [if_pos h3] at h; omega
  rw [if_neg h3] at h
  by_cases h4 : far n i = true
  · rw [if_pos h4] at h; omega
  exact ⟨by simpa using h1, by simpa using h2, by simpa using h3, by simpa using h4⟩
theorem inR_iff {v a b : Int} : inR v a b = true ↔ a ≤ v ∧ v ≤ b := by simp [inR]
theorem inR_not {v a b : Int} : inR v a b = false ↔ ¬ (a ≤ v ∧ v ≤ b) := by rw [← inR_iff]; simp
/-- Where a node with nothing wrong has its parts. -/
theorem n_left {n : NodeD} {i : Int} (h : nCode n i = 0) (hk : 2 < n.kind) : 0 ≤ n.left ∧ n.left < i := by
  have h4 := (of_n h).2.2.2
  unfold far at h4
  simp only [Bool.or_eq_false_iff, Bool.and_eq_false_iff, Bool.not_eq_false', decide_eq_true_eq] at h4
  rcases h4.1 with h5 | h5
  · omega
  · have := inR_iff.1 h5; omega
theorem n_right {n : NodeD} {i : Int} (h : nCode n i = 0) (hk : two n.kind = true) : 0 ≤ n.right ∧ n.right < i := by
  have h4 := (of_n h).2.2.2
  unfold far at h4
  simp only [Bool.or_eq_false_iff, Bool.and_eq_false_iff, Bool.not_eq_false', decide_eq_true_eq] at h4
  rcases h4.2 with h5 | h5
  · rw [hk] at h5; cases h5
  · have := inR_iff.1 h5; omega
def NJ (ns : List NodeD) (k : Nat) : NodeD := ns[k]?.getD ⟨0, 0, 0, 0⟩
theorem NJ_eq {ns : List NodeD} {k : Nat} (h : k < ns.length) : NJ ns k = ns[k] := by unfold NJ; rw [List.getElem?_eq_getElem h]; rfl
/-- The nodes in the order in which they have to stand, as the walk tells them; at most so many. -/
def walkF (ns : List NodeD) : Nat → Nat → List Nat → List Nat
  | 0, _, out => out
  | f + 1, k, out => if 16 < out.length then out else
    (if two (NJ ns k).kind = true then walkF ns f (NJ ns k).right.toNat (if 2 < (NJ ns k).kind then walkF ns f (NJ ns k).left.toNat out else out) else (if 2 < (NJ ns k).kind then walkF ns f (NJ ns k).left.toNat out else out)) ++ [k]
theorem walk_len (ns : List NodeD) : ∀ (f k : Nat) (out : List Nat), (walkF ns f k out).length ≤ max out.length 16 + f
  | 0, k, out => by rw [walkF]; omega
  | f + 1, k, out => by
    rw [walkF]
    split
    · omega
    · rename_i h
      have e1 : (if 2 < (NJ ns k).kind then walkF ns f (NJ ns k).left.toNat out else out).length ≤ max out.length 16 + f := by
        split
        · exact walk_len ns f _ _
        · omega
      rw [List.length_append, List.length_singleton]
      by_cases ht : two (NJ ns k).kind = true
      · rw [if_pos ht]
        generalize (if 2 < (NJ ns k).kind then walkF ns f (NJ ns k).left.toNat out else out) = o1 at *
        by_cases h16 : 16 < o1.length
        · have : walkF ns f (NJ ns k).right.toNat o1 = o1 := by
            cases f with
            | zero => rfl
            | succ f => rw [walkF, if_pos h16]
          rw [this]; omega
        · have := walk_len ns f (NJ ns k).right.toNat o1
          omega
      · rw [if_neg ht]; omega
def eCodeTo (ns : List NodeD) : Nat → Int
  | 0 => 0
  | n + 1 => if eCodeTo ns n ≠ 0 then eCodeTo ns n else nCode (NJ ns n) n
def order (ns : List NodeD) : List Nat := walkF ns ns.length (ns.length - 1) []
def eFault (ns : List NodeD) : Int := if ns.length < 1 ∨ 16 < ns.length then 2 else if eCodeTo ns ns.length ≠ 0 then eCodeTo ns ns.length else if order ns = List.range ns.length then 0 else 1
theorem e_many {ns : List NodeD} (h : ns.length < 1 ∨ 16 < ns.length) : eFault ns = 2 := by unfold eFault; rw [if_pos h]
theorem code_to {ns : List NodeD} : ∀ {m n : Nat}, m ≤ n → eCodeTo ns m ≠ 0 → eCodeTo ns n = eCodeTo ns m
  | m, 0, h, h2 => by obtain rfl : m = 0 := by omega
                      rfl
  | m, n + 1, h, h2 => by
    by_cases e : m = n + 1
    · rw [e]
    · have h3 := code_to (m := m) (n := n) (by omega) h2
      rw [eCodeTo, if_pos (by rw [h3]; exact h2), h3]
theorem code_all {ns : List NodeD} : ∀ {n : Nat}, eCodeTo ns n = 0 → ∀ k, k < n → nCode (NJ ns k) k = 0
  | 0, _, k, hk => by omega
  | n + 1, h, k, hk => by
    rw [eCodeTo] at h
    by_cases h1 : eCodeTo ns n ≠ 0
    · rw [if_pos h1] at h; exact absurd h h1
    · rw [if_neg h1] at h
      by_cases e : k = n
      · rw [e]; exact h
      · exact code_all (by simpa using h1) k (by omega)
theorem e_node {ns : List NodeD} (h : ¬ (ns.length < 1 ∨ 16 < ns.length)) {i : Nat} (hi : i < ns.length) (h2 : eCodeTo ns i = 0) (h3 : nCode ns[i] i ≠ 0) : eFault ns = nCode ns[i] i := by
  have e : eCodeTo ns (i + 1) = nCode ns[i] i := by rw [eCodeTo, if_neg (by simp [h2]), NJ_eq hi]
  have e2 := code_to (ns := ns) (m := i + 1) (n := ns.length) (by omega) (by rw [e]; exact h3)
  unfold eFault
  rw [if_neg h, if_pos (by rw [e2, e]; exact h3), e2, e]
theorem code_next {ns : List NodeD} {i : Nat} (hi : i < ns.length) (h2 : eCodeTo ns i = 0) (h3 : nCode ns[i] i = 0) : eCodeTo ns (i + 1) = 0 := by
  rw [eCodeTo, if_neg (by simp [h2]), NJ_eq hi, h3]
theorem e_ok {ns : List NodeD} (h : ¬ (ns.length < 1 ∨ 16 < ns.length)) (h2 : eCodeTo ns ns.length = 0) (h3 : order ns = List.range ns.length) : eFault ns = 0 := by
  unfold eFault; rw [if_neg h, if_neg (by simp [h2]), if_pos h3]
theorem e_form {ns : List NodeD} (h : ¬ (ns.length < 1 ∨ 16 < ns.length)) (h2 : eCodeTo ns ns.length = 0) (h3 : order ns ≠ List.range ns.length) : eFault ns = 1 := by
  unfold eFault; rw [if_neg h, if_neg (by simp [h2]), if_neg h3]
theorem order_len {ns : List NodeD} (h : ¬ 16 < ns.length) : (order ns).length ≤ 32 := by
  have := walk_len ns ns.length (ns.length - 1) []
  unfold order
  simp only [List.length_nil] at this
  omega
theorem range_of {l : List Nat} {n : Nat} (h : l.length = n) (h2 : ∀ i (hi : i < l.length), l[i] = i) : l = List.range n := by
  apply List.ext_getElem (by simpa using h)
  intro i h1 h3
  rw [h2 i h1]
  simp
theorem range_not {l : List Nat} {n i : Nat} (hi : i < l.length) (h2 : l[i] ≠ i) : l ≠ List.range n := by
  intro e
  subst e
  simp at h2
end Ex
end Go.Proofs.YtkelmhkakdeghaaGreatDoor
/- Lists of steps in memory, and the law's measure of them. -/
namespace Go.Proofs.YtkelmhkakdeghaaGreatDoor
open Go.RowKit Go.Deep
set_option linter.unusedVariables false
namespace St
open Ex (hid)
open Nd (NodeD)
structure StepD where
  kind : Int
  parent : Int
  name : ByteArray
  arg : Int
  cond : List NodeD
  expr : List NodeD
def At (w : World) (B : Nat) (v : Value) (ss : List StepD) : Prop :=
  ∃ a cap, v = .slice a ss.length cap ∧ ss.length ≤ cap ∧ cap ≤ maxLen ∧ (ss = [] ∨ ∃ g o, a = some ⟨g, o, none⟩ ∧ B ≤ g ∧ g < w.heap.size ∧
    ∀ i (h : i < ss.length), w.cell? ⟨g, o + i * 6, none⟩ = some (.int .i64 ss[i].kind) ∧ w.cell? ⟨g, o + i * 6 + 1, none⟩ = some (.int .i64 ss[i].parent) ∧ w.cell? ⟨g, o + i * 6 + 2, none⟩ = some (.string ss[i].name) ∧ w.cell? ⟨g, o + i * 6 + 3, none⟩ = some (.int .i64 ss[i].arg) ∧
      ∃ vc ve, w.cell? ⟨g, o + i * 6 + 4, none⟩ = some vc ∧ w.cell? ⟨g, o + i * 6 + 5, none⟩ = some ve ∧ Nd.At w B vc ss[i].cond ∧ Nd.At w B ve ss[i].expr)
theorem At.kept {w w' : World} {B : Nat} {v : Value} {ss : List StepD} (h : At w B v ss) (hs : w.heap.size ≤ w'.heap.size) (hb : ∀ g, B ≤ g → g < w.heap.size → w'.heap[g]? = w.heap[g]?) : At w' B v ss := by
  obtain ⟨a, cap, rfl, hle, hmx, h⟩ := h
  refine ⟨a, cap, rfl, hle, hmx, ?_⟩
  rcases h with h | ⟨g, o, rfl, hB, hg, hc⟩
  · exact .inl h
  · refine .inr ⟨g, o, rfl, hB, Nat.lt_of_lt_of_le hg hs, fun i hi => ?_⟩
    have e : ∀ off, w'.cell? ⟨g, off, none⟩ = w.cell? ⟨g, off, none⟩ := fun off => by simp only [World.cell?, hb g hB hg]
    obtain ⟨h0, h1, h2, h3, vc, ve, h4, h5, h6, h7⟩ := hc i hi
    exact ⟨(e _).trans h0, (e _).trans h1, (e _).trans h2, (e _).trans h3, vc, ve, (e _).trans h4, (e _).trans h5, h6.kept hs hb, h7.kept hs hb⟩
theorem At.below {w w' : World} {B : Nat} {v : Value} {ss : List StepD} (h : At w B v ss) (hb : Below w.heap.size w w') : At w' B v ss := h.kept hb.size (fun g _ hg => hb.block g hg)
theorem At.setBelow {w : World} {B : Nat} {v : Value} {ss : List StepD} (h : At w B v ss) {b o : Nat} (ha : b < B) (x : Value) : At (w.setCell ⟨b, o, none⟩ x) B v ss :=
  h.kept (by simp [World.setCell]) (fun g hg _ => Below.heap_setCell _ _ _ _ (by dsimp only; omega))
theorem At.mono {w : World} {B B' : Nat} {v : Value} {ss : List StepD} (h : At w B v ss) (hB : B' ≤ B) : At w B' v ss := by
  obtain ⟨a, cap, rfl, hle, hmx, h⟩ := h
  refine ⟨a, cap, rfl, hle, hmx, ?_⟩
  rcases h with h | ⟨g, o, rfl, hb, hg, hc⟩
  · exact .inl h
  · refine .inr ⟨g, o, rfl, Nat.le_trans hB hb, hg, fun i hi => ?_⟩
    obtain ⟨h0, h1, h2, h3, vc, ve, h4, h5, h6, h7⟩ := hc i hi
    exact ⟨h0, h1, h2, h3, vc, ve, h4, h5, h6.mono hB, h7.mono hB⟩
theorem At.slice {w : World} {B : Nat} {v : Value} {ss : List StepD} (h : At w B v ss) : ∃ a cap, v = .slice a ss.length cap := by
  obtain ⟨a, cap, rfl, _⟩ := h; exact ⟨a, cap, rfl⟩
theorem At.at {w : World} {B : Nat} {a : Option Addr} {n cap : Nat} {ss : List StepD} (h : At w B (.slice a n cap) ss) {i : Nat} (hi : i < ss.length) :
    ∃ g o vc ve, a = some ⟨g, o, none⟩ ∧ g < w.heap.size ∧ w.cell? ⟨g, o + i * 6, none⟩ = some (.int .i64 ss[i].kind) ∧ w.cell? ⟨g, o + i * 6 + 1, none⟩ = some (.int .i64 ss[i].parent) ∧ w.cell? ⟨g, o + i * 6 + 2, none⟩ = some (.string ss[i].name) ∧ w.cell? ⟨g, o + i * 6 + 3, none⟩ = some (.int .i64 ss[i].arg) ∧
      w.cell? ⟨g, o + i * 6 + 4, none⟩ = some vc ∧ w.cell? ⟨g, o + i * 6 + 5, none⟩ = some ve ∧ Nd.At w B vc ss[i].cond ∧ Nd.At w B ve ss[i].expr := by
  obtain ⟨a', cap', e, _, _, h⟩ := h
  cases e
  rcases h with h | ⟨g, o, rfl, _, hg, hc⟩
  · subst h; simp at hi
  · obtain ⟨h0, h1, h2, h3, vc, ve, h4⟩ := hc i hi
    exact ⟨g, o, vc, ve, rfl, hg, h0, h1, h2, h3, h4⟩
theorem At.cap {w : World} {B : Nat} {a : Option Addr} {n cap : Nat} {ss : List StepD} (h : At w B (.slice a n cap) ss) : ss.length ≤ cap ∧ cap ≤ maxLen := by
  obtain ⟨a', cap', e, h1, h2, _⟩ := h; cases e; exact ⟨h1, h2⟩
/-- No part of it is longer than it can be. -/
def Ok (ss : List StepD) : Prop := ∀ s ∈ ss, s.name.size ≤ maxLen ∧ s.cond.length ≤ maxLen ∧ s.expr.length ≤ maxLen
/-- All of it is within a bound. -/
def Small1 (n : Int) (s : StepD) : Prop := (s.name.size : Int) ≤ n ∧ (s.cond.length : Int) ≤ n ∧ (s.expr.length : Int) ≤ n
def Small (n : Int) (ss : List StepD) : Prop := (ss.length : Int) ≤ n ∧ ∀ s ∈ ss, Small1 n s
theorem Small1.mono {m n : Int} {s : StepD} (h : Small1 m s) (hm : m ≤ n) : Small1 n s := ⟨Int.le_trans h.1 hm, Int.le_trans h.2.1 hm, Int.le_trans h.2.2 hm⟩
theorem Small.at {n : Int} {ss : List StepD} (h : Small n ss) {i : Nat} (hi : i < ss.length) : Small1 n ss[i] := h.2 _ (List.getElem_mem hi)
set_option maxRecDepth 100000 in
set_option maxHeartbeats 1000000 in
theorem szOne (B : Nat) (x : StepD) (vc ve : Value) (n : Int) (w : World) (h0 : 0 ≤ n) (hn : n ≤ 1048576) (h1 : x.name.size ≤ maxLen) (h2 : x.cond.length ≤ maxLen) (h3 : x.expr.length ≤ maxLen) (hc : Nd.At w B vc x.cond) (he : Nd.At w B ve x.expr) :
    Calls Tryz.prog 120 #[.agg #[.int .i64 x.kind, .int .i64 x.parent, .string x.name, .int .i64 x.arg, vc, ve], .int .i64 n] w fun e w' => (∃ r : Int, e = .returned (.int .i64 r) ∧ -1 ≤ r ∧ r ≤ n ∧ (0 ≤ r → Small1 n x)) ∧ Below w.heap.size w w' := by
  unfold maxLen at h1
  obtain ⟨a, cap, rfl⟩ := hc.slice
  obtain ⟨a2, cap2, rfl⟩ := he.slice
  have HC := hid hc
  have HE := hid he
  clear hc he
  have hB : Below w.heap.size w (w.alloc (.cells #[.int .i64 x.kind, .int .i64 x.parent, .string x.name, .int .i64 x.arg, .slice a x.cond.length cap, .slice a2 x.expr.length cap2] 176)) := (Below.refl _ w).alloc (Nat.le_refl _) _
  have HC2 := hid (HC.out.below hB)
  have HE2 := hid (HE.out.below hB)
  clear HC HE
  by_cases q1 : n - (x.name.size : Int) < 0
  · go_enter Tryz.func120, Tryz.ntmps120
    go_wp2
    go_ret
    exact ⟨⟨-1, rfl, by omega, by omega, by omega⟩, hB⟩
  · go_enter Tryz.func120, Tryz.ntmps120
    go_wp2_with fail
    refine (Nd.szS x.cond _ (n - x.name.size) B _ (by omega) (by omega) h2 HC2.out).mono ?_
    rintro e w1 ⟨⟨r, rfl, hr1, hr2, hr3⟩, rfl⟩
    by_cases hr : r < 0
    · go_wp2
      go_ret
      exact ⟨⟨-1, rfl, by omega, by omega, by omega⟩, hB⟩
    · have hr3' := hr3 (by omega)
      clear hr3
      go_wp2_with fail
      refine (Nd.szS x.expr _ r B _ (by omega) (by omega) h3 HE2.out).mono ?_
      rintro e w1 ⟨⟨r2, rfl, hr4, hr5, hr6⟩, rfl⟩
      by_cases hr' : r2 < 0
      · go_wp2
        go_ret
        exact ⟨⟨-1, rfl, by omega, by omega, by omega⟩, hB⟩
      · have hr6' := hr6 (by omega)
        clear hr6
        go_wp2
        go_ret
        exact ⟨⟨r2, rfl, by omega, by omega, fun _ => ⟨by omega, by omega, by omega⟩⟩, hB⟩
set_option maxRecDepth 100000 in
set_option maxHeartbeats 1000000 in
theorem szS (B : Nat) (ss : List StepD) (v : Value) (n : Int) (w : World) (h0 : 0 ≤ n) (hn : n ≤ 1048576) (hl : ss.length ≤ maxLen) (hk : Ok ss) (ha : At w B v ss) :
    Calls Tryz.prog 89 #[v, .int .i64 n] w fun e w' => (∃ r : Int, e = .returned (.int .i64 r) ∧ -1 ≤ r ∧ r ≤ n ∧ (0 ≤ r → Small n ss)) ∧ Below w.heap.size w w' := by
  obtain ⟨a, cap, rfl⟩ := ha.slice
  have HA := hid ha
  have HK := hid hk
  clear ha hk
  unfold maxLen at hl
  by_cases q1 : n - (ss.length : Int) < 0
  · go_enter Tryz.func89, Tryz.ntmps89
    go_wp2
    go_ret
    exact ⟨⟨-1, rfl, by omega, by omega, by omega⟩, Below.refl _ _⟩
  · go_enter Tryz.func89, Tryz.ntmps89
    go_wp2
    go_loopw [1, 5] (fun m i wr => ∃ (k : Nat) (z : Int), i = .int .i64 k ∧ m = .int .i64 z ∧ 0 ≤ z ∧ z ≤ n ∧ k ≤ ss.length ∧ Hid (∀ j (h : j < ss.length), j < k → Small1 n ss[j]) ∧ Below w.heap.size w wr) (fun _ i _ => ss.length - (intOf i).toNat)
    case atStart => exact ⟨0, _, rfl, rfl, by omega, by omega, Nat.zero_le _, fun j _ h => by omega, Below.refl _ _⟩
    case round =>
      obtain ⟨k, z, rfl, rfl, hz0, hzn, hkl, HJ, hbel⟩ := hrel
      by_cases hlt : k < ss.length
      · obtain ⟨g, o, vc, ve, rfl, hg, c0, c1, c2, c3, c4, c5, hvc, hve⟩ := (HA.out.below hbel).at hlt
        obtain ⟨a2, cap2, rfl⟩ := hvc.slice
        obtain ⟨a3, cap3, rfl⟩ := hve.slice
        have HV := hid hvc
        have HE := hid hve
        clear hvc hve
        have hke := HK.out ss[k] (List.getElem_mem hlt)
        have hke1 := hke.1
        have hke2 := hke.2.1
        have hke3 := hke.2.2
        clear hke
        have q1 : (k : Int) < (ss.length : Int) := by omega
        go_wp2_with fail
        refine (szOne B ss[k] _ _ z _ hz0 (by omega) hke1 hke2 hke3 HV.out HE.out).mono ?_
        rintro e w1 ⟨⟨r, rfl, hr1, hr2, hr3⟩, hb1⟩
        have hB := hbel.trans (hb1.mono hbel.size)
        by_cases hr : r < 0
        · go_wp2
          go_ret
          exact ⟨⟨-1, rfl, by omega, by omega, by omega⟩, hB⟩
        · have HJ2 : Hid (∀ j (h : j < ss.length), j < k + 1 → Small1 n ss[j]) := hid (fun j h hj => by
            by_cases e : j = k
            · subst e
              exact (hr3 (by omega)).mono hzn
            · exact HJ.out j h (by omega))
          go_wp2
          exact ⟨⟨k + 1, r, by simp, rfl, by omega, by omega, by omega, HJ2, hB⟩, by simp [intOf]; omega⟩
      · have HJ2 : Hid (Small n ss) := hid ⟨by omega, fun x hx => by
          obtain ⟨j, hj, rfl⟩ := List.getElem_of_mem hx
          exact HJ.out j hj (by omega)⟩
        go_wp2
        go_ret
        exact ⟨⟨z, rfl, by omega, by omega, fun _ => HJ2.out⟩, hbel⟩
end St
end Go.Proofs.YtkelmhkakdeghaaGreatDoor
