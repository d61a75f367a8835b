/- Laid together: ExH, TmA. -/
import Derived.Test.YtkelmhkakdeghaaGreatDoorJDF7
/- What an expression comes to, as a plain function, and facts about it. -/
namespace Go.Proofs.YtkelmhkakdeghaaGreatDoor
open Go.RowKit
set_option linter.unusedVariables false
namespace Ex
open Nd (NodeD)
def valAt (ns : List NodeD) (vars vs : List Int) (i : Nat) : Int := if (NJ ns i).kind = 2 then vars.getD (NJ ns i).value.toNat 0 else if 2 < (NJ ns i).kind then oneVal (NJ ns i).kind (vs.getD (NJ ns i).left.toNat 0) (vs.getD (NJ ns i).right.toNat 0) else (NJ ns i).value
def evs (ns : List NodeD) (vars : List Int) : Nat → List Int
  | 0 => []
  | i + 1 => evs ns vars i ++ [valAt ns vars (evs ns vars i) i]
def evBad (ns : List NodeD) (vars : List Int) (i : Nat) : Bool := decide (2 < (NJ ns i).kind) && !oneOk (NJ ns i).kind ((evs ns vars i).getD (NJ ns i).left.toNat 0) ((evs ns vars i).getD (NJ ns i).right.toNat 0)
def evOk (ns : List NodeD) (vars : List Int) : Bool := (List.range ns.length).all (fun j => !evBad ns vars j)
def evalCode (ns : List NodeD) (vars : List Int) : Int := if typeCode ns ≠ 0 then typeCode ns else if vFault vars ≠ 0 then vFault vars else if evOk ns vars = true then 0 else 8
def evalVal (ns : List NodeD) (vars : List Int) : Int := if evalCode ns vars = 0 then (evs ns vars ns.length).getD (ns.length - 1) 0 else 0
theorem ev_type {ns : List NodeD} {vars : List Int} (h : typeCode ns ≠ 0) : evalCode ns vars = typeCode ns ∧ evalVal ns vars = 0 := by
  have e : evalCode ns vars = typeCode ns := by unfold evalCode; rw [if_pos h]
  exact ⟨e, by unfold evalVal; rw [if_neg (by rw [e]; exact h)]⟩
theorem ev_vars {ns : List NodeD} {vars : List Int} (h : typeCode ns = 0) (h2 : vFault vars ≠ 0) : evalCode ns vars = vFault vars ∧ evalVal ns vars = 0 := by
  have e : evalCode ns vars = vFault vars := by unfold evalCode; rw [if_neg (by simp [h]), if_pos h2]
  exact ⟨e, by unfold evalVal; rw [if_neg (by rw [e]; exact h2)]⟩
theorem ev_bad {ns : List NodeD} {vars : List Int} (h : typeCode ns = 0) (h2 : vFault vars = 0) (h3 : evOk ns vars = false) : evalCode ns vars = 8 ∧ evalVal ns vars = 0 := by
  have e : evalCode ns vars = 8 := by unfold evalCode; rw [if_neg (by simp [h]), if_neg (by simp [h2]), if_neg (by simp [h3])]
  exact ⟨e, by unfold evalVal; rw [if_neg (by rw [e]; decide)]⟩
theorem ev_ok {ns : List NodeD} {vars : List Int} (h : typeCode ns = 0) (h2 : vFault vars = 0) (h3 : evOk ns vars = true) : evalCode ns vars = 0 ∧ evalVal ns vars = (evs ns vars ns.length).getD (ns.length - 1) 0 := by
  have e : evalCode ns vars = 0 := by unfold evalCode; rw [if_neg (by simp [h]), if_neg (by simp [h2]), if_pos h3]
  exact ⟨e, by unfold evalVal; rw [if_pos e]⟩
theorem evOk_bad {ns : List NodeD} {vars : List Int} {i : Nat} (hi : i < ns.length) (h : evBad ns vars i = true) : evOk ns vars = false := by
  unfold evOk
  rw [List.all_eq_false]
  exact ⟨i, by simpa using hi, by simp [h]⟩
theorem evOk_all {ns : List NodeD} {vars : List Int} (h : ∀ j, j < ns.length → evBad ns vars j = false) : evOk ns vars = true := by
  unfold evOk
  rw [List.all_eq_true]
  intro j hj
  rw [h j (by simpa using hj)]
  rfl
theorem of_type {ns : List NodeD} (h : typeCode ns = 0) : eFault ns = 0 := by
  unfold typeCode at h
  by_cases e : eFault ns ≠ 0
  · rw [if_pos e] at h; exact absurd h e
  · simpa using e
theorem of_v {xs : List Int} (h : vFault xs = 0) : xs.length = 4 ∧ ∀ i (hi : i < xs.length), inR xs[i] (-1000000) 1000000 = true := by
  unfold vFault at h
  by_cases h1 : xs.length ≠ 4
  · rw [if_pos h1] at h; omega
  · rw [if_neg h1] at h
    by_cases h2 : xs.all (fun x => inR x (-1000000) 1000000) = true
    · exact ⟨by omega, fun i hi => List.all_eq_true.1 h2 _ (List.getElem_mem hi)⟩
    · rw [if_neg h2] at h; omega
theorem evs_len (ns : List NodeD) (vars : List Int) : ∀ i, (evs ns vars i).length = i
  | 0 => rfl
  | i + 1 => by rw [evs, List.length_append, evs_len ns vars i]; rfl
theorem v_const {n : NodeD} {i : Int} (h : nCode n i = 0) (hk : n.kind = 1) : 0 ≤ n.value ∧ n.value ≤ 9999 := by
  have h3 := (of_n h).2.2.1
  unfold wide at h3
  simp only [hk, Bool.or_eq_false_iff, Bool.and_eq_false_iff, Bool.not_eq_false'] at h3
  rcases h3.1 with h4 | h4
  · simp at h4
  · exact inR_iff.1 h4
theorem v_var {n : NodeD} {i : Int} (h : nCode n i = 0) (hk : n.kind = 2) : 0 ≤ n.value ∧ n.value ≤ 3 := by
  have h3 := (of_n h).2.2.1
  unfold wide at h3
  simp only [hk, Bool.or_eq_false_iff, Bool.and_eq_false_iff, Bool.not_eq_false'] at h3
  rcases h3.2 with h4 | h4
  · simp at h4
  · exact inR_iff.1 h4
theorem v_not {n : NodeD} {i : Int} (h : nCode n i = 0) (hk : n.kind = 10) : n.right = 0 := by
  have h3 := (of_n h).2.1
  unfold has at h3
  simp only [hk, Bool.or_eq_false_iff, Bool.and_eq_false_iff] at h3
  rcases h3.2 with h4 | h4
  · simp at h4
  · simpa using h4
/-- All values so far are within the bounds. -/
theorem evs_in {ns : List NodeD} {vars : List Int} (hok : ∀ k, k < ns.length → nCode (NJ ns k) k = 0) (hv : vFault vars = 0) : ∀ {i : Nat}, i ≤ ns.length → (∀ j, j < i → evBad ns vars j = false) → ∀ x ∈ evs ns vars i, -1000000 ≤ x ∧ x ≤ 1000000
  | 0, _, _, x, hx => by simp [evs] at hx
  | i + 1, hi, hb, x, hx => by
    rw [evs] at hx
    rcases List.mem_append.1 hx with h | h
    · exact evs_in hok hv (by omega) (fun j hj => hb j (by omega)) x h
    · obtain rfl := List.mem_singleton.1 h
      have hn := hok i (by omega)
      have hk := inR_iff.1 (of_n hn).1
      obtain ⟨h4, hall⟩ := of_v hv
      unfold valAt
      by_cases k2 : (NJ ns i).kind = 2
      · rw [if_pos k2]
        have h5 := v_var hn k2
        have hlt : (NJ ns i).value.toNat < vars.length := by omega
        have h6 := inR_iff.1 (hall _ hlt)
        rw [List.getD_eq_getElem?_getD, List.getElem?_eq_getElem hlt]
        simpa using h6
      · rw [if_neg k2]
        by_cases k3 : 2 < (NJ ns i).kind
        · rw [if_pos k3]
          have h5 := hb i (by omega)
          unfold evBad at h5
          simp only [k3, decide_true, Bool.true_and, Bool.not_eq_false'] at h5
          unfold oneOk at h5
          simp only [Bool.and_eq_true] at h5
          exact inR_iff.1 h5.2
        · rw [if_neg k3]
          have h5 := v_const hn (by omega)
          omega
def iVals (l : List Int) : List Value := l.map fun x => .int .i64 x
theorem i_cell {w : World} {base g cap j n : Nat} {e : TypeId} {l : List Int} (h : w.ownsRow base e 1 (.slice (some ⟨g, 0, none⟩) n cap) n (iVals l)) (hl : l.length = n) (hj : j < n) : w.cell? ⟨g, j, none⟩ = some (.int .i64 (l.getD j 0)) := by
  have h1 := owns_cell h hj (by simp [iVals]; omega)
  rw [List.getD_eq_getElem?_getD, List.getElem?_eq_getElem (by omega)]
  simpa [iVals] using h1
theorem iVals_snoc (l : List Int) (x : Int) : iVals (l ++ [x]) = iVals l ++ [.int .i64 x] := by simp [iVals]
theorem getD_in {l : List Int} (h : ∀ x ∈ l, -1000000 ≤ x ∧ x ≤ 1000000) {j : Nat} (hj : j < l.length) : -1000000 ≤ l.getD j 0 ∧ l.getD j 0 ≤ 1000000 := by
  rw [List.getD_eq_getElem?_getD, List.getElem?_eq_getElem hj]
  exact h _ (List.getElem_mem hj)
end Ex
end Go.Proofs.YtkelmhkakdeghaaGreatDoor
/- Expressions as terms: plain facts, of no program. -/
namespace Go.Proofs.YtkelmhkakdeghaaGreatDoor
open Go.RowKit
set_option linter.unusedVariables false
namespace Ex
open Nd (NodeD)
/-- Terms: a number or a variable (no parts), a not (one part), a pair (two parts). -/
structure Tm where
  sub : List Tm
  v : Bool
  n : Int
abbrev Tm.const (n : Int) : Tm := ⟨[], false, n⟩
abbrev Tm.var (n : Int) : Tm := ⟨[], true, n⟩
abbrev Tm.not (t : Tm) : Tm := ⟨[t], false, 0⟩
abbrev Tm.pair (k : Int) (l r : Tm) : Tm := ⟨[l, r], false, k⟩
/-- The term of the node at a place, and where its first node stands. -/
def termF (ns : List NodeD) : Nat → Nat → Option (Tm × Nat)
  | 0, _ => none
  | f + 1, k =>
    if (NJ ns k).kind = 1 then some (.const (NJ ns k).value, k)
    else if (NJ ns k).kind = 2 then some (.var (NJ ns k).value, k)
    else if (NJ ns k).kind = 10 then (if (NJ ns k).left = (k : Int) - 1 then (termF ns f (k - 1)).map (fun p => (.not p.1, p.2)) else none)
    else if (NJ ns k).right = (k : Int) - 1 then
      (termF ns f (k - 1)).bind fun p => if (NJ ns k).left = (p.2 : Int) - 1 then (termF ns f (p.2 - 1)).map (fun q => (.pair (NJ ns k).kind q.1 p.1, q.2)) else none
    else none
theorem kinds {n : NodeD} {i : Int} (h : nCode n i = 0) : n.kind = 1 ∨ n.kind = 2 ∨ n.kind = 10 ∨ (two n.kind = true ∧ 3 ≤ n.kind ∧ n.kind ≤ 9) := by
  have h1 := inR_iff.1 (of_n h).1
  by_cases e : 3 ≤ n.kind ∧ n.kind ≤ 9
  · exact .inr (.inr (.inr ⟨inR_iff.2 e, e.1, e.2⟩))
  · omega
theorem t_const {ns : List NodeD} {f k : Nat} (h : (NJ ns k).kind = 1) : termF ns (f + 1) k = some (.const (NJ ns k).value, k) := by rw [termF, if_pos h]
theorem t_var {ns : List NodeD} {f k : Nat} (h : (NJ ns k).kind = 2) : termF ns (f + 1) k = some (.var (NJ ns k).value, k) := by rw [termF, if_neg (by omega), if_pos h]
theorem t_not {ns : List NodeD} {f k : Nat} (h : (NJ ns k).kind = 10) (hl : (NJ ns k).left = (k : Int) - 1) : termF ns (f + 1) k = (termF ns f (k - 1)).map (fun p => (.not p.1, p.2)) := by rw [termF, if_neg (by omega), if_neg (by omega), if_pos h, if_pos hl]
theorem t_not_none {ns : List NodeD} {f k : Nat} (h : (NJ ns k).kind = 10) (hl : ¬ (NJ ns k).left = (k : Int) - 1) : termF ns (f + 1) k = none := by rw [termF, if_neg (by omega), if_neg (by omega), if_pos h, if_neg hl]
theorem t_pair {ns : List NodeD} {f k : Nat} (h : 3 ≤ (NJ ns k).kind ∧ (NJ ns k).kind ≤ 9) (hr : (NJ ns k).right = (k : Int) - 1) : termF ns (f + 1) k = (termF ns f (k - 1)).bind fun p => if (NJ ns k).left = (p.2 : Int) - 1 then (termF ns f (p.2 - 1)).map (fun q => (.pair (NJ ns k).kind q.1 p.1, q.2)) else none := by rw [termF, if_neg (by omega), if_neg (by omega), if_neg (by omega), if_pos hr]
theorem t_pair_none {ns : List NodeD} {f k : Nat} (h : 3 ≤ (NJ ns k).kind ∧ (NJ ns k).kind ≤ 9) (hr : ¬ (NJ ns k).right = (k : Int) - 1) : termF ns (f + 1) k = none := by rw [termF, if_neg (by omega), if_neg (by omega), if_neg (by omega), if_neg hr]
/-- A way to go through the terms of an expression that has no fault in its nodes. -/
theorem term_ind {ns : List NodeD} (hok : ∀ k, k < ns.length → nCode (NJ ns k) k = 0) {P : Nat → Nat → Tm → Nat → Prop}
    (hc : ∀ f k, k < ns.length → (NJ ns k).kind = 1 → P (f + 1) k (.const (NJ ns k).value) k)
    (hv : ∀ f k, k < ns.length → (NJ ns k).kind = 2 → P (f + 1) k (.var (NJ ns k).value) k)
    (hn : ∀ f k t a, k + 1 < ns.length → k < f → a ≤ k → (NJ ns (k + 1)).kind = 10 → (NJ ns (k + 1)).left = (k : Int) → termF ns f k = some (t, a) → P f k t a → P (f + 1) (k + 1) (.not t) a)
    (hp : ∀ f k j l r a, k + 1 < ns.length → k < f → j < k → a ≤ j → 3 ≤ (NJ ns (k + 1)).kind → (NJ ns (k + 1)).kind ≤ 9 → two (NJ ns (k + 1)).kind = true → (NJ ns (k + 1)).right = (k : Int) → (NJ ns (k + 1)).left = (j : Int) → termF ns f k = some (r, j + 1) → termF ns f j = some (l, a) → P f k r (j + 1) → P f j l a → P (f + 1) (k + 1) (.pair (NJ ns (k + 1)).kind l r) a) :
    ∀ (f k : Nat) (t : Tm) (a : Nat), k < ns.length → k < f → termF ns f k = some (t, a) → a ≤ k ∧ P f k t a
  | 0, k, t, a, hk, hf, h => by omega
  | f + 1, k, t, a, hk, hf, h => by
    have IH := term_ind hok hc hv hn hp f
    have hnk := hok k hk
    rcases kinds hnk with e | e | e | ⟨e1, e2, e3⟩
    · rw [t_const e] at h
      cases h
      exact ⟨Nat.le_refl _, hc f k hk e⟩
    · rw [t_var e] at h
      cases h
      exact ⟨Nat.le_refl _, hv f k hk e⟩
    · have hl := n_left hnk (by omega)
      by_cases e2 : (NJ ns k).left = (k : Int) - 1
      · rw [t_not e e2] at h
        obtain ⟨k', rfl⟩ : ∃ k', k = k' + 1 := ⟨k - 1, by omega⟩
        rw [Nat.add_sub_cancel] at h
        cases h1 : termF ns f k' with
        | none => rw [h1] at h; cases h
        | some p =>
          obtain ⟨t1, a1⟩ := p
          rw [h1] at h
          simp only [Option.map_some, Option.some.injEq, Prod.mk.injEq] at h
          obtain ⟨rfl, rfl⟩ := h
          obtain ⟨g1, g2⟩ := IH k' t1 a1 (by omega) (by omega) h1
          exact ⟨by omega, hn f k' t1 a1 hk (by omega) g1 e (by omega) h1 g2⟩
      · rw [t_not_none e e2] at h; cases h
    · have hl := n_left hnk (by omega)
      have hr := n_right hnk e1
      by_cases e4 : (NJ ns k).right = (k : Int) - 1
      · rw [t_pair ⟨e2, e3⟩ e4] at h
        obtain ⟨k', rfl⟩ : ∃ k', k = k' + 1 := ⟨k - 1, by omega⟩
        rw [Nat.add_sub_cancel] at h
        cases h1 : termF ns f k' with
        | none => rw [h1] at h; cases h
        | some p =>
          obtain ⟨r, b⟩ := p
          rw [h1] at h
          simp only [Option.bind_some] at h
          by_cases e5 : (NJ ns (k' + 1)).left = (b : Int) - 1
          · rw [if_pos e5] at h
            obtain ⟨j, rfl⟩ : ∃ j, b = j + 1 := ⟨b - 1, by omega⟩
            rw [Nat.add_sub_cancel] at h
            obtain ⟨g1, g2⟩ := IH k' r (j + 1) (by omega) (by omega) h1
            cases h2 : termF ns f j with
            | none => rw [h2] at h; cases h
            | some q =>
              obtain ⟨l, a1⟩ := q
              rw [h2] at h
              simp only [Option.map_some, Option.some.injEq, Prod.mk.injEq] at h
              obtain ⟨rfl, rfl⟩ := h
              obtain ⟨g3, g4⟩ := IH j l a1 (by omega) (by omega) h2
              exact ⟨by omega, hp f k' j l r a1 hk (by omega) (by omega) g3 e2 e3 e1 (by omega) (by omega) h1 h2 g2 g4⟩
          · rw [if_neg e5] at h; cases h
      · rw [t_pair_none ⟨e2, e3⟩ e4] at h; cases h
theorem not_two10 {k : Int} (h : k = 10) : two k = false := inR_not.2 (by omega)
theorem leaf_two {k : Int} (h : k = 1 ∨ k = 2) : two k = false := inR_not.2 (by omega)
/-- What is a term is told by the walk in the order in which it stands. -/
theorem term_walk {ns : List NodeD} (hok : ∀ k, k < ns.length → nCode (NJ ns k) k = 0) (f k : Nat) (t : Tm) (a : Nat) (hk : k < ns.length) (hf : k < f) (h : termF ns f k = some (t, a)) :
    a ≤ k ∧ ∀ out : List Nat, out.length + (k - a) ≤ 16 → walkF ns f k out = out ++ List.range' a (k + 1 - a) := by
  refine term_ind hok (P := fun f k t a => ∀ out : List Nat, out.length + (k - a) ≤ 16 → walkF ns f k out = out ++ List.range' a (k + 1 - a)) ?_ ?_ ?_ ?_ f k t a hk hf h
  · intro f k hk e out ho
    rw [walk_leaf (by omega) (by omega) (leaf_two (.inl e)), show k + 1 - k = 1 by omega]
    rfl
  · intro f k hk e out ho
    rw [walk_leaf (by omega) (by omega) (leaf_two (.inr e)), show k + 1 - k = 1 by omega]
    rfl
  · intro f k t a hk hf ha e el _ ih out ho
    rw [walk_one (by omega) (by omega) (not_two10 e) el, ih out (by omega), List.append_assoc, show k + 1 + 1 - a = (k + 1 - a) + 1 by omega, List.range'_concat]
    rw [Nat.one_mul, show a + (k + 1 - a) = k + 1 by omega]
  · intro f k j l r a hk hf hj ha e1 e2 e3 er el _ _ ih1 ih2 out ho
    rw [walk_two (by omega) (by omega) e3 el er, ih2 out (by omega), ih1 _ (by simp; omega), List.append_assoc, List.append_assoc, ← List.append_assoc (List.range' a _),
      show List.range' a (j + 1 - a) ++ List.range' (j + 1) (k + 1 - (j + 1)) = List.range' a (k + 1 - a) by
        have := List.range'_append (s := a) (m := j + 1 - a) (n := k + 1 - (j + 1)) (step := 1)
        rw [Nat.one_mul, show a + (j + 1 - a) = j + 1 by omega, show (j + 1 - a) + (k + 1 - (j + 1)) = k + 1 - a by omega] at this
        exact this,
      show k + 1 + 1 - a = (k + 1 - a) + 1 by omega, List.range'_concat]
    rw [Nat.one_mul, show a + (k + 1 - a) = k + 1 by omega]
theorem walk_pre (ns : List NodeD) : ∀ (f k : Nat) (out : List Nat), ∃ s, walkF ns f k out = out ++ s
  | 0, k, out => ⟨[], by rw [walkF]; simp⟩
  | f + 1, k, out => by
    rw [walkF]
    split
    · exact ⟨[], by simp⟩
    · have e1 : ∃ s, (if 2 < (NJ ns k).kind then walkF ns f (NJ ns k).left.toNat out else out) = out ++ s := by
        split
        · exact walk_pre ns f _ _
        · exact ⟨[], by simp⟩
      obtain ⟨s1, h1⟩ := e1
      rw [h1]
      split
      · obtain ⟨s2, h2⟩ := walk_pre ns f (NJ ns k).right.toNat (out ++ s1)
        rw [h2]
        exact ⟨s1 ++ s2 ++ [k], by simp⟩
      · exact ⟨s1 ++ [k], by simp⟩
theorem range_snoc {o : List Nat} {k m : Nat} (h : o ++ [k] = List.range m) : m = k + 1 ∧ o = List.range k := by
  have hl := congrArg List.length h
  simp at hl
  subst hl
  rw [List.range_succ] at h
  have := List.append_inj h (by simp)
  have h2 : k = o.length := by simpa using this.2
  exact ⟨by omega, by rw [h2]; exact this.1⟩
theorem range_pre {o s : List Nat} {m : Nat} (h : o ++ s = List.range m) : o = List.range o.length := by
  have hl := congrArg List.length h
  simp at hl
  have h2 := congrArg (List.take o.length) h
  rw [List.take_left, List.take_range, Nat.min_eq_left (by omega)] at h2
  exact h2
/-- What the walk tells in the order in which it stands is a term. -/
theorem walk_term {ns : List NodeD} (hok : ∀ k, k < ns.length → nCode (NJ ns k) k = 0) (hns : ns.length ≤ 16) : ∀ (f k : Nat) (out : List Nat) (m : Nat), k < ns.length → k < f → out.length ≤ 16 → walkF ns f k out = List.range m → m = k + 1 ∧ ∃ t, termF ns f k = some (t, out.length)
  | 0, k, out, m, hk, hf, ho, h => by omega
  | f + 1, k, out, m, hk, hf, ho, h => by
    have IH := walk_term hok hns f
    have hnk := hok k hk
    rcases kinds hnk with e | e | e | ⟨e1, e2, e3⟩
    · rw [walk_leaf (by omega) (by omega) (leaf_two (.inl e))] at h
      obtain ⟨h1, h2⟩ := range_snoc h
      refine ⟨h1, .const (NJ ns k).value, ?_⟩
      rw [t_const e, h2, List.length_range]
    · rw [walk_leaf (by omega) (by omega) (leaf_two (.inr e))] at h
      obtain ⟨h1, h2⟩ := range_snoc h
      refine ⟨h1, .var (NJ ns k).value, ?_⟩
      rw [t_var e, h2, List.length_range]
    · have hl := n_left hnk (by omega)
      obtain ⟨l, el⟩ : ∃ l : Nat, (NJ ns k).left = (l : Int) := ⟨(NJ ns k).left.toNat, by omega⟩
      rw [walk_one (by omega) (by omega) (not_two10 e) el] at h
      obtain ⟨h1, h2⟩ := range_snoc h
      obtain ⟨h3, t, h4⟩ := IH l out k (by omega) (by omega) ho h2
      refine ⟨h1, .not t, ?_⟩
      rw [t_not e (by omega), show k - 1 = l by omega, h4]
      rfl
    · have hl := n_left hnk (by omega)
      have hr := n_right hnk e1
      obtain ⟨l, el⟩ : ∃ l : Nat, (NJ ns k).left = (l : Int) := ⟨(NJ ns k).left.toNat, by omega⟩
      obtain ⟨r, er⟩ : ∃ l : Nat, (NJ ns k).right = (l : Int) := ⟨(NJ ns k).right.toNat, by omega⟩
      rw [walk_two (by omega) (by omega) e1 el er] at h
      obtain ⟨h1, h2⟩ := range_snoc h
      obtain ⟨s, hs⟩ := walk_pre ns f r (walkF ns f l out)
      have h3 := range_pre (hs.symm.trans h2)
      have h16 : (walkF ns f l out).length ≤ 16 := by
        have := congrArg List.length (hs.symm.trans h2)
        simp at this
        omega
      obtain ⟨g1, t1, g2⟩ := IH r _ k (by omega) (by omega) h16 h2
      obtain ⟨g3, t2, g4⟩ := IH l out _ (by omega) (by omega) ho h3
      refine ⟨h1, .pair (NJ ns k).kind t2 t1, ?_⟩
      rw [t_pair ⟨e2, e3⟩ (by omega), show k - 1 = r by omega, g2]
      simp only [Option.bind_some]
      rw [if_pos (by omega), show (walkF ns f l out).length - 1 = l by omega, g4]
      rfl
def topF (ns : List NodeD) : Option (Tm × Nat) := termF ns ns.length (ns.length - 1)
theorem top_of {ns : List NodeD} (hok : ∀ k, k < ns.length → nCode (NJ ns k) k = 0) (h0 : 0 < ns.length) (hns : ns.length ≤ 16) (h : order ns = List.range ns.length) : ∃ t, topF ns = some (t, 0) :=
  (walk_term hok hns ns.length (ns.length - 1) [] ns.length (by omega) (by omega) (by simp) h).2
theorem of_top {ns : List NodeD} (hok : ∀ k, k < ns.length → nCode (NJ ns k) k = 0) (h0 : 0 < ns.length) (hns : ns.length ≤ 16) {t : Tm} (h : topF ns = some (t, 0)) : order ns = List.range ns.length := by
  have h2 := (term_walk hok ns.length (ns.length - 1) t 0 (by omega) (by omega) h).2 [] (by simp only [List.length_nil]; omega)
  unfold order
  rw [h2, List.nil_append, List.range_eq_range', show ns.length - 1 + 1 - 0 = ns.length by omega]
theorem e_of_top {ns : List NodeD} (h : ¬ (ns.length < 1 ∨ 16 < ns.length)) (h2 : eCodeTo ns ns.length = 0) {t : Tm} (h3 : topF ns = some (t, 0)) : eFault ns = 0 :=
  e_ok h h2 (of_top (code_all h2) (by omega) (by omega) h3)
theorem e_no_top {ns : List NodeD} (h : ¬ (ns.length < 1 ∨ 16 < ns.length)) (h2 : eCodeTo ns ns.length = 0) (h3 : ∀ t, topF ns ≠ some (t, 0)) : eFault ns = 1 :=
  e_form h h2 (fun e => by obtain ⟨t, ht⟩ := top_of (code_all h2) (by omega) (by omega) e; exact h3 t ht)
theorem top_of_e {ns : List NodeD} (h : eFault ns = 0) : ∃ t, topF ns = some (t, 0) := by
  obtain ⟨h0, h16, hok⟩ := of_e h
  refine top_of hok h0 h16 ?_
  by_cases e : order ns = List.range ns.length
  · exact e
  · unfold eFault at h
    rw [if_neg (by omega)] at h
    by_cases h2 : eCodeTo ns ns.length ≠ 0
    · rw [if_pos h2] at h; exact absurd h h2
    · rw [if_neg h2, if_neg e] at h; omega
end Ex
end Go.Proofs.YtkelmhkakdeghaaGreatDoor
