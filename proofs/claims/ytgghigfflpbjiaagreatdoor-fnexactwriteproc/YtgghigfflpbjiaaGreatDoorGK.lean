/- Laid together: TmA, TmB, TmC. -/
import Derived.Test.YtgghigfflpbjiaaGreatDoorGE
import Derived.Lib.ItoaNum
/- Expressions as terms: plain facts, of no program. -/
namespace Go.Proofs.YtgghigfflpbjiaaGreatDoor
open Go.RowKit
set_option linter.unusedVariables false
namespace Ex
open Nd (NodeD)
/-- Terms: a number or a variable (no parts), a not (one part), a pair (two parts). -/
structure Tm where
  sub : List Tm
  v : Bool
  n : Int
abbrev Tm.const (n : Int) : Tm := ⟨[], false, n⟩
abbrev Tm.var (n : Int) : Tm := ⟨[], true, n⟩
abbrev Tm.not (t : Tm) : Tm := ⟨[t], false, 0⟩
abbrev Tm.pair (k : Int) (l r : Tm) : Tm := ⟨[l, r], false, k⟩
/-- The term of the node at a place, and where its first node stands. -/
def termF (ns : List NodeD) : Nat → Nat → Option (Tm × Nat)
  | 0, _ => none
  | f + 1, k =>
    if (NJ ns k).kind = 1 then some (.const (NJ ns k).value, k)
    else if (NJ ns k).kind = 2 then some (.var (NJ ns k).value, k)
    else if (NJ ns k).kind = 10 then (if (NJ ns k).left = (k : Int) - 1 then (termF ns f (k - 1)).map (fun p => (.not p.1, p.2)) else none)
    else if (NJ ns k).right = (k : Int) - 1 then
      (termF ns f (k - 1)).bind fun p => if (NJ ns k).left = (p.2 : Int) - 1 then (termF ns f (p.2 - 1)).map (fun q => (.pair (NJ ns k).kind q.1 p.1, q.2)) else none
    else none
theorem kinds {n : NodeD} {i : Int} (h : nCode n i = 0) : n.kind = 1 ∨ n.kind = 2 ∨ n.kind = 10 ∨ (two n.kind = true ∧ 3 ≤ n.kind ∧ n.kind ≤ 9) := by
  have h1 := inR_iff.1 (of_n h).1
  by_cases e : 3 ≤ n.kind ∧ n.kind ≤ 9
  · exact .inr (.inr (.inr ⟨inR_iff.2 e, e.1, e.2⟩))
  · omega
theorem t_const {ns : List NodeD} {f k : Nat} (h : (NJ ns k).kind = 1) : termF ns (f + 1) k = some (.const (NJ ns k).value, k) := by rw [termF, if_pos h]
theorem t_var {ns : List NodeD} {f k : Nat} (h : (NJ ns k).kind = 2) : termF ns (f + 1) k = some (.var (NJ ns k).value, k) := by rw [termF, if_neg (by omega), if_pos h]
theorem t_not {ns : List NodeD} {f k : Nat} (h : (NJ ns k).kind = 10) (hl : (NJ ns k).left = (k : Int) - 1) : termF ns (f + 1) k = (termF ns f (k - 1)).map (fun p => (.not p.1, p.2)) := by rw [termF, if_neg (by omega), if_neg (by omega), if_pos h, if_pos hl]
theorem t_not_none {ns : List NodeD} {f k : Nat} (h : (NJ ns k).kind = 10) (hl : ¬ (NJ ns k).left = (k : Int) - 1) : termF ns (f + 1) k = none := by rw [termF, if_neg (by omega), if_neg (by omega), if_pos h, if_neg hl]
theorem t_pair {ns : List NodeD} {f k : Nat} (h : 3 ≤ (NJ ns k).kind ∧ (NJ ns k).kind ≤ 9) (hr : (NJ ns k).right = (k : Int) - 1) : termF ns (f + 1) k = (termF ns f (k - 1)).bind fun p => if (NJ ns k).left = (p.2 : Int) - 1 then (termF ns f (p.2 - 1)).map (fun q => (.pair (NJ ns k).kind q.1 p.1, q.2)) else none := by rw [termF, if_neg (by omega), if_neg (by omega), if_neg (by omega), if_pos hr]
theorem t_pair_none {ns : List NodeD} {f k : Nat} (h : 3 ≤ (NJ ns k).kind ∧ (NJ ns k).kind ≤ 9) (hr : ¬ (NJ ns k).right = (k : Int) - 1) : termF ns (f + 1) k = none := by rw [termF, if_neg (by omega), if_neg (by omega), if_neg (by omega), if_neg hr]
/-- A way to go through the terms of an expression that has no fault in its nodes. -/
theorem term_ind {ns : List NodeD} (hok : ∀ k, k < ns.length → nCode (NJ ns k) k = 0) {P : Nat → Nat → Tm → Nat → Prop}
    (hc : ∀ f k, k < ns.length → (NJ ns k).kind = 1 → P (f + 1) k (.const (NJ ns k).value) k)
    (hv : ∀ f k, k < ns.length → (NJ ns k).kind = 2 → P (f + 1) k (.var (NJ ns k).value) k)
    (hn : ∀ f k t a, k + 1 < ns.length → k < f → a ≤ k → (NJ ns (k + 1)).kind = 10 → (NJ ns (k + 1)).left = (k : Int) → termF ns f k = some (t, a) → P f k t a → P (f + 1) (k + 1) (.not t) a)
    (hp : ∀ f k j l r a, k + 1 < ns.length → k < f → j < k → a ≤ j → 3 ≤ (NJ ns (k + 1)).kind → (NJ ns (k + 1)).kind ≤ 9 → two (NJ ns (k + 1)).kind = true → (NJ ns (k + 1)).right = (k : Int) → (NJ ns (k + 1)).left = (j : Int) → termF ns f k = some (r, j + 1) → termF ns f j = some (l, a) → P f k r (j + 1) → P f j l a → P (f + 1) (k + 1) (.pair (NJ ns (k + 1)).kind l r) a) :
    ∀ (f k : Nat) (t : Tm) (a : Nat), k < ns.length → k < f → termF ns f k = some (t, a) → a ≤ k ∧ P f k t a
  | 0, k, t, a, hk, hf, h => by omega
  | f + 1, k, t, a, hk, hf, h => by
    have IH := term_ind hok hc hv hn hp f
    have hnk := hok k hk
    rcases kinds hnk with e | e | e | ⟨e1, e2, e3⟩
    · rw [t_const e] at h
      cases h
      exact ⟨Nat.le_refl _, hc f k hk e⟩
    · rw [t_var e] at h
      cases h
      exact ⟨Nat.le_refl _, hv f k hk e⟩
    · have hl := n_left hnk (by omega)
      by_cases e2 : (NJ ns k).left = (k : Int) - 1
      · rw [t_not e e2] at h
        obtain ⟨k', rfl⟩ : ∃ k', k = k' + 1 := ⟨k - 1, by omega⟩
        rw [Nat.add_sub_cancel] at h
        cases h1 : termF ns f k' with
        | none => rw [h1] at h; cases h
        | some p =>
          obtain ⟨t1, a1⟩ := p
          rw [h1] at h
          simp only [Option.map_some, Option.some.injEq, Prod.mk.injEq] at h
          obtain ⟨rfl, rfl⟩ := h
          obtain ⟨g1, g2⟩ := IH k' t1 a1 (by omega) (by omega) h1
          exact ⟨by omega, hn f k' t1 a1 hk (by omega) g1 e (by omega) h1 g2⟩
      · rw [t_not_none e e2] at h; cases h
    · have hl := n_left hnk (by omega)
      have hr := n_right hnk e1
      by_cases e4 : (NJ ns k).right = (k : Int) - 1
      · rw [t_pair ⟨e2, e3⟩ e4] at h
        obtain ⟨k', rfl⟩ : ∃ k', k = k' + 1 := ⟨k - 1, by omega⟩
        rw [Nat.add_sub_cancel] at h
        cases h1 : termF ns f k' with
        | none => rw [h1] at h; cases h
        | some p =>
          obtain ⟨r, b⟩ := p
          rw [h1] at h
          simp only [Option.bind_some] at h
          by_cases e5 : (NJ ns (k' + 1)).left = (b : Int) - 1
          · rw [if_pos e5] at h
            obtain ⟨j, rfl⟩ : ∃ j, b = j + 1 := ⟨b - 1, by omega⟩
            rw [Nat.add_sub_cancel] at h
            obtain ⟨g1, g2⟩ := IH k' r (j + 1) (by omega) (by omega) h1
            cases h2 : termF ns f j with
            | none => rw [h2] at h; cases h
            | some q =>
              obtain ⟨l, a1⟩ := q
              rw [h2] at h
              simp only [Option.map_some, Option.some.injEq, Prod.mk.injEq] at h
              obtain ⟨rfl, rfl⟩ := h
              obtain ⟨g3, g4⟩ := IH j l a1 (by omega) (by omega) h2
              exact ⟨by omega, hp f k' j l r a1 hk (by omega) (by omega) g3 e2 e3 e1 (by omega) (by omega) h1 h2 g2 g4⟩
          · rw [if_neg e5] at h; cases h
      · rw [t_pair_none ⟨e2, e3⟩ e4] at h; cases h
theorem not_two10 {k : Int} (h : k = 10) : two k = false := inR_not.2 (by omega)
theorem leaf_two {k : Int} (h : k = 1 ∨ k = 2) : two k = false := inR_not.2 (by omega)
/-- What is a term is told by the walk in the order in which it stands. -/
theorem term_walk {ns : List NodeD} (hok : ∀ k, k < ns.length → nCode (NJ ns k) k = 0) (f k : Nat) (t : Tm) (a : Nat) (hk : k < ns.length) (hf : k < f) (h : termF ns f k = some (t, a)) :
    a ≤ k ∧ ∀ out : List Nat, out.length + (k - a) ≤ 16 → walkF ns f k out = out ++ List.range' a (k + 1 - a) := by
  refine term_ind hok (P := fun f k t a => ∀ out : List Nat, out.length + (k - a) ≤ 16 → walkF ns f k out = out ++ List.range' a (k + 1 - a)) ?_ ?_ ?_ ?_ f k t a hk hf h
  · intro f k hk e out ho
    rw [walk_leaf (by omega) (by omega) (leaf_two (.inl e)), show k + 1 - k = 1 by omega]
    rfl
  · intro f k hk e out ho
    rw [walk_leaf (by omega) (by omega) (leaf_two (.inr e)), show k + 1 - k = 1 by omega]
    rfl
  · intro f k t a hk hf ha e el _ ih out ho
    rw [walk_one (by omega) (by omega) (not_two10 e) el, ih out (by omega), List.append_assoc, show k + 1 + 1 - a = (k + 1 - a) + 1 by omega, List.range'_concat]
    rw [Nat.one_mul, show a + (k + 1 - a) = k + 1 by omega]
  · intro f k j l r a hk hf hj ha e1 e2 e3 er el _ _ ih1 ih2 out ho
    rw [walk_two (by omega) (by omega) e3 el er, ih2 out (by omega), ih1 _ (by simp; omega), List.append_assoc, List.append_assoc, ← List.append_assoc (List.range' a _),
      show List.range' a (j + 1 - a) ++ List.range' (j + 1) (k + 1 - (j + 1)) = List.range' a (k + 1 - a) by
        have := List.range'_append (s := a) (m := j + 1 - a) (n := k + 1 - (j + 1)) (step := 1)
        rw [Nat.one_mul, show a + (j + 1 - a) = j + 1 by omega, show (j + 1 - a) + (k + 1 - (j + 1)) = k + 1 - a by omega] at this
        exact this,
      show k + 1 + 1 - a = (k + 1 - a) + 1 by omega, List.range'_concat]
    rw [Nat.one_mul, show a + (k + 1 - a) = k + 1 by omega]
theorem walk_pre (ns : List NodeD) : ∀ (f k : Nat) (out : List Nat), ∃ s, walkF ns f k out = out ++ s
  | 0, k, out => ⟨[], by rw [walkF]; simp⟩
  | f + 1, k, out => by
    rw [walkF]
    split
    · exact ⟨[], by simp⟩
    · have e1 : ∃ s, (if 2 < (NJ ns k).kind then walkF ns f (NJ ns k).left.toNat out else out) = out ++ s := by
        split
        · exact walk_pre ns f _ _
        · exact ⟨[], by simp⟩
      obtain ⟨s1, h1⟩ := e1
      rw [h1]
      split
      · obtain ⟨s2, h2⟩ := walk_pre ns f (NJ ns k).right.toNat (out ++ s1)
        rw [h2]
        exact ⟨s1 ++ s2 ++ [k], by simp⟩
      · exact ⟨s1 ++ [k], by simp⟩
theorem range_snoc {o : List Nat} {k m : Nat} (h : o ++ [k] = List.range m) : m = k + 1 ∧ o = List.range k := by
  have hl := congrArg List.length h
  simp at hl
  subst hl
  rw [List.range_succ] at h
  have := List.append_inj h (by simp)
  have h2 : k = o.length := by simpa using this.2
  exact ⟨by omega, by rw [h2]; exact this.1⟩
theorem range_pre {o s : List Nat} {m : Nat} (h : o ++ s = List.range m) : o = List.range o.length := by
  have hl := congrArg List.length h
  simp at hl
  have h2 := congrArg (List.take o.length) h
  rw [List.take_left, List.take_range, Nat.min_eq_left (by omega)] at h2
  exact h2
/-- What the walk tells in the order in which it stands is a term. -/
theorem walk_term {ns : List NodeD} (hok : ∀ k, k < ns.length → nCode (NJ ns k) k = 0) (hns : ns.length ≤ 16) : ∀ (f k : Nat) (out : List Nat) (m : Nat), k < ns.length → k < f → out.length ≤ 16 → walkF ns f k out = List.range m → m = k + 1 ∧ ∃ t, termF ns f k = some (t, out.length)
  | 0, k, out, m, hk, hf, ho, h => by omega
  | f + 1, k, out, m, hk, hf, ho, h => by
    have IH := walk_term hok hns f
    have hnk := hok k hk
    rcases kinds hnk with e | e | e | ⟨e1, e2, e3⟩
    · rw [walk_leaf (by omega) (by omega) (leaf_two (.inl e))] at h
      obtain ⟨h1, h2⟩ := range_snoc h
      refine ⟨h1, .const (NJ ns k).value, ?_⟩
      rw [t_const e, h2, List.length_range]
    · rw [walk_leaf (by omega) (by omega) (leaf_two (.inr e))] at h
      obtain ⟨h1, h2⟩ := range_snoc h
      refine ⟨h1, .var (NJ ns k).value, ?_⟩
      rw [t_var e, h2, List.length_range]
    · have hl := n_left hnk (by omega)
      obtain ⟨l, el⟩ : ∃ l : Nat, (NJ ns k).left = (l : Int) := ⟨(NJ ns k).left.toNat, by omega⟩
      rw [walk_one (by omega) (by omega) (not_two10 e) el] at h
      obtain ⟨h1, h2⟩ := range_snoc h
      obtain ⟨h3, t, h4⟩ := IH l out k (by omega) (by omega) ho h2
      refine ⟨h1, .not t, ?_⟩
      rw [t_not e (by omega), show k - 1 = l by omega, h4]
      rfl
    · have hl := n_left hnk (by omega)
      have hr := n_right hnk e1
      obtain ⟨l, el⟩ : ∃ l : Nat, (NJ ns k).left = (l : Int) := ⟨(NJ ns k).left.toNat, by omega⟩
      obtain ⟨r, er⟩ : ∃ l : Nat, (NJ ns k).right = (l : Int) := ⟨(NJ ns k).right.toNat, by omega⟩
      rw [walk_two (by omega) (by omega) e1 el er] at h
      obtain ⟨h1, h2⟩ := range_snoc h
      obtain ⟨s, hs⟩ := walk_pre ns f r (walkF ns f l out)
      have h3 := range_pre (hs.symm.trans h2)
      have h16 : (walkF ns f l out).length ≤ 16 := by
        have := congrArg List.length (hs.symm.trans h2)
        simp at this
        omega
      obtain ⟨g1, t1, g2⟩ := IH r _ k (by omega) (by omega) h16 h2
      obtain ⟨g3, t2, g4⟩ := IH l out _ (by omega) (by omega) ho h3
      refine ⟨h1, .pair (NJ ns k).kind t2 t1, ?_⟩
      rw [t_pair ⟨e2, e3⟩ (by omega), show k - 1 = r by omega, g2]
      simp only [Option.bind_some]
      rw [if_pos (by omega), show (walkF ns f l out).length - 1 = l by omega, g4]
      rfl
def topF (ns : List NodeD) : Option (Tm × Nat) := termF ns ns.length (ns.length - 1)
theorem top_of {ns : List NodeD} (hok : ∀ k, k < ns.length → nCode (NJ ns k) k = 0) (h0 : 0 < ns.length) (hns : ns.length ≤ 16) (h : order ns = List.range ns.length) : ∃ t, topF ns = some (t, 0) :=
  (walk_term hok hns ns.length (ns.length - 1) [] ns.length (by omega) (by omega) (by simp) h).2
theorem of_top {ns : List NodeD} (hok : ∀ k, k < ns.length → nCode (NJ ns k) k = 0) (h0 : 0 < ns.length) (hns : ns.length ≤ 16) {t : Tm} (h : topF ns = some (t, 0)) : order ns = List.range ns.length := by
  have h2 := (term_walk hok ns.length (ns.length - 1) t 0 (by omega) (by omega) h).2 [] (by simp only [List.length_nil]; omega)
  unfold order
  rw [h2, List.nil_append, List.range_eq_range', show ns.length - 1 + 1 - 0 = ns.length by omega]
theorem e_of_top {ns : List NodeD} (h : ¬ (ns.length < 1 ∨ 16 < ns.length)) (h2 : eCodeTo ns ns.length = 0) {t : Tm} (h3 : topF ns = some (t, 0)) : eFault ns = 0 :=
  e_ok h h2 (of_top (code_all h2) (by omega) (by omega) h3)
theorem e_no_top {ns : List NodeD} (h : ¬ (ns.length < 1 ∨ 16 < ns.length)) (h2 : eCodeTo ns ns.length = 0) (h3 : ∀ t, topF ns ≠ some (t, 0)) : eFault ns = 1 :=
  e_form h h2 (fun e => by obtain ⟨t, ht⟩ := top_of (code_all h2) (by omega) (by omega) e; exact h3 t ht)
theorem top_of_e {ns : List NodeD} (h : eFault ns = 0) : ∃ t, topF ns = some (t, 0) := by
  obtain ⟨h0, h16, hok⟩ := of_e h
  refine top_of hok h0 h16 ?_
  by_cases e : order ns = List.range ns.length
  · exact e
  · unfold eFault at h
    rw [if_neg (by omega)] at h
    by_cases h2 : eCodeTo ns ns.length ≠ 0
    · rw [if_pos h2] at h; exact absurd h h2
    · rw [if_neg h2, if_neg e] at h; omega
end Ex
end Go.Proofs.YtgghigfflpbjiaaGreatDoor
/- Types and values of terms: plain facts, of no program. -/
namespace Go.Proofs.YtgghigfflpbjiaaGreatDoor
open Go.RowKit
set_option linter.unusedVariables false
namespace Ex
open Nd (NodeD)
def pairAsk (k : Int) : Int := if inR k 3 8 = true then 1 else 2
def pairOwn (k : Int) : Int := if inR k 3 6 = true then 1 else 2
def Tm.ty : Tm → Int
  | ⟨[], false, _⟩ => 1
  | ⟨[], true, _⟩ => 1
  | ⟨[_], _, _⟩ => 2
  | ⟨_ :: _ :: _, _, k⟩ => pairOwn k
/-- Whether each part of a term has the type that it has to have. -/
def Tm.fit : Tm → Bool
  | ⟨[], false, _⟩ => true
  | ⟨[], true, _⟩ => true
  | ⟨[t], _, _⟩ => t.fit && (t.ty == 2)
  | ⟨l :: r :: _, _, k⟩ => (l.fit && (l.ty == pairAsk k)) && (r.fit && (r.ty == pairAsk k))
theorem fit_iff {ns : List NodeD} (hok : ∀ k, k < ns.length → nCode (NJ ns k) k = 0) (f k : Nat) (t : Tm) (a : Nat) (hk : k < ns.length) (hf : k < f) (h : termF ns f k = some (t, a)) :
    a ≤ k ∧ (t.ty = ty ns k ∧ (t.fit = true ↔ ∀ j, a ≤ j → j ≤ k → badAt ns j = false)) := by
  refine term_ind hok (P := fun f k t a => t.ty = ty ns k ∧ (t.fit = true ↔ ∀ j, a ≤ j → j ≤ k → badAt ns j = false)) ?_ ?_ ?_ ?_ f k t a hk hf h
  · intro f k hk e
    refine ⟨by simp [Tm.ty, ty, tyOf, e], ?_⟩
    simp only [Tm.fit, true_iff]
    intro j h1 h2
    obtain rfl : j = k := by omega
    simp [badAt, e, leaf_two]
  · intro f k hk e
    refine ⟨by simp [Tm.ty, ty, tyOf, e], ?_⟩
    simp only [Tm.fit, true_iff]
    intro j h1 h2
    obtain rfl : j = k := by omega
    simp [badAt, e, leaf_two]
  · intro f k t a hk hf ha e el _ ⟨ih1, ih2⟩
    refine ⟨by simp [Tm.ty, ty, tyOf, e], ?_⟩
    have hb : badAt ns (k + 1) = (ty ns k != 2) := by
      unfold badAt
      rw [e, el, Int.toNat_natCast, not_two10 rfl]
      simp [wantOf]
    simp only [Tm.fit, Bool.and_eq_true, beq_iff_eq]
    rw [ih2, ih1]
    constructor
    · rintro ⟨h1, h2⟩ j hj1 hj2
      by_cases ej : j = k + 1
      · subst ej; rw [hb, h2]; rfl
      · exact h1 j hj1 (by omega)
    · intro h1
      refine ⟨fun j hj1 hj2 => h1 j hj1 (by omega), ?_⟩
      have := h1 (k + 1) (by omega) (by omega)
      rw [hb] at this
      simpa using this
  · intro f k j l r a hk hf hj ha e1 e2 e3 er el _ _ ⟨r1, r2⟩ ⟨l1, l2⟩
    generalize hkd : (NJ ns (k + 1)).kind = kd at *
    have hw : wantOf kd = pairAsk kd := by
      unfold wantOf pairAsk
      by_cases c : kd = 9
      · rw [if_pos (.inl c), if_neg (by rw [inR_iff]; omega)]
      · rw [if_neg (by omega), if_pos (inR_iff.2 (by omega))]
    refine ⟨?_, ?_⟩
    · simp only [Tm.ty]
      unfold pairOwn ty tyOf
      rw [hkd]
      by_cases c : 7 ≤ kd
      · rw [if_pos c, if_neg (by rw [inR_iff]; omega)]
      · rw [if_neg c, if_pos (inR_iff.2 (by omega))]
    have hb : badAt ns (k + 1) = ((ty ns j != pairAsk kd) || (ty ns k != pairAsk kd)) := by
      unfold badAt
      rw [hkd, el, er, Int.toNat_natCast, Int.toNat_natCast, e3, hw]
      simp [show 2 < kd by omega]
    simp only [Tm.fit, Bool.and_eq_true, beq_iff_eq]
    rw [l2, r2, l1, r1]
    constructor
    · rintro ⟨⟨h1, h2⟩, h3, h4⟩ i hi1 hi2
      by_cases ej : i = k + 1
      · subst ej; rw [hb, h2, h4]; simp
      · by_cases ej : i ≤ j
        · exact h1 i hi1 ej
        · exact h3 i (by omega) (by omega)
    · intro h1
      have := h1 (k + 1) (by omega) (by omega)
      rw [hb, Bool.or_eq_false_iff] at this
      exact ⟨⟨fun i hi1 hi2 => h1 i hi1 (by omega), by simpa using this.1⟩, fun i hi1 hi2 => h1 i (by omega) (by omega), by simpa using this.2⟩
theorem top_fit {ns : List NodeD} {t : Tm} (he : eFault ns = 0) (h : topF ns = some (t, 0)) : t.fit = tOk ns ∧ t.ty = ty ns (ns.length - 1) := by
  obtain ⟨h0, h16, hok⟩ := of_e he
  obtain ⟨_, h1, h2⟩ := fit_iff hok _ _ t 0 (by omega) (by omega) h
  refine ⟨?_, h1⟩
  rw [Bool.eq_iff_iff, h2]
  constructor
  · intro h3
    exact tOk_all (fun j hj => h3 j (Nat.zero_le _) (by omega))
  · intro h3 j _ hj
    cases e : badAt ns j
    · rfl
    · rw [tOk_bad (by omega) e] at h3; cases h3
/-- What a term comes to. -/
def Tm.ev (vars : List Int) : Tm → Int
  | ⟨[], false, n⟩ => n
  | ⟨[], true, n⟩ => vars.getD n.toNat 0
  | ⟨[t], _, _⟩ => 1 - t.ev vars
  | ⟨l :: r :: _, _, k⟩ => oneVal k (l.ev vars) (r.ev vars)
def Tm.good (vars : List Int) : Tm → Bool
  | ⟨[], false, _⟩ => true
  | ⟨[], true, _⟩ => true
  | ⟨[t], _, _⟩ => t.good vars
  | ⟨l :: r :: _, _, k⟩ => (l.good vars && r.good vars) && oneOk k (l.ev vars) (r.ev vars)
theorem bit_in (b : Bool) : bit b = 0 ∨ bit b = 1 := by cases b <;> simp [bit]
theorem evs_get {ns : List NodeD} {vars : List Int} {i : Nat} : ∀ {n : Nat}, i < n → (evs ns vars n).getD i 0 = valAt ns vars (evs ns vars i) i
  | 0, h => by omega
  | n + 1, h => by
    rw [evs]
    by_cases e : i = n
    · subst e
      rw [List.getD_eq_getElem?_getD, List.getElem?_append_right (by rw [evs_len]; exact Nat.le_refl _), evs_len]
      simp
    · rw [List.getD_eq_getElem?_getD, List.getElem?_append_left (by rw [evs_len]; omega), ← List.getD_eq_getElem?_getD]
      exact evs_get (by omega)
def evAt (ns : List NodeD) (vars : List Int) (i : Nat) : Int := valAt ns vars (evs ns vars i) i
theorem evs_at {ns : List NodeD} {vars : List Int} {i n : Nat} (h : i < n) : (evs ns vars n).getD i 0 = evAt ns vars i := evs_get h
theorem good_iff {ns : List NodeD} {vars : List Int} (hok : ∀ k, k < ns.length → nCode (NJ ns k) k = 0) (f k : Nat) (t : Tm) (a : Nat) (hk : k < ns.length) (hf : k < f) (h : termF ns f k = some (t, a)) (hfit : t.fit = true) :
    (t.good vars = true ↔ ∀ j, a ≤ j → j ≤ k → evBad ns vars j = false) ∧ t.ev vars = evAt ns vars k ∧ (t.good vars = true → t.ty = 2 → t.ev vars = 0 ∨ t.ev vars = 1) := by
  refine (term_ind hok (P := fun f k t a => t.fit = true → (t.good vars = true ↔ ∀ j, a ≤ j → j ≤ k → evBad ns vars j = false) ∧ t.ev vars = evAt ns vars k ∧ (t.good vars = true → t.ty = 2 → t.ev vars = 0 ∨ t.ev vars = 1)) ?_ ?_ ?_ ?_ f k t a hk hf h).2 hfit
  · intro f k hk e hfit
    refine ⟨?_, by simp [Tm.ev, evAt, valAt, e], by simp [Tm.ty]⟩
    simp only [Tm.good, true_iff]
    intro j h1 h2
    obtain rfl : j = k := by omega
    simp [evBad, e]
  · intro f k hk e hfit
    refine ⟨?_, by simp [Tm.ev, evAt, valAt, e], by simp [Tm.ty]⟩
    simp only [Tm.good, true_iff]
    intro j h1 h2
    obtain rfl : j = k := by omega
    simp [evBad, e]
  · intro f k t a hk hf ha e el _ ih hfit
    simp only [Tm.fit, Bool.and_eq_true, beq_iff_eq] at hfit
    obtain ⟨ih1, ih2, ih3⟩ := ih hfit.1
    have hv : Tm.ev vars (.not t) = evAt ns vars (k + 1) := by
      simp only [Tm.ev, evAt, valAt, e, el, Int.toNat_natCast]
      rw [evs_at (Nat.lt_succ_self k), ih2]
      simp [oneVal]
    have hbad : t.good vars = true → evBad ns vars (k + 1) = false := by
      intro hg
      unfold evBad
      rw [e, el, Int.toNat_natCast, evs_at (Nat.lt_succ_self k), ← ih2]
      have h01 := ih3 hg hfit.2
      have : oneOk 10 (t.ev vars) ((evs ns vars (k + 1)).getD (NJ ns (k + 1)).right.toNat 0) = true := by
        unfold oneOk oneVal
        simp only [Bool.and_eq_true]
        refine ⟨by simp, inR_iff.2 ?_⟩
        simp
        omega
      rw [this]
      rfl
    refine ⟨?_, hv, ?_⟩
    · simp only [Tm.good]
      constructor
      · intro hg j h1 h2
        by_cases ej : j = k + 1
        · subst ej; exact hbad hg
        · exact ih1.1 hg j h1 (by omega)
      · intro h1
        exact ih1.2 (fun j hj1 hj2 => h1 j hj1 (by omega))
    · intro hg _
      have h01 := ih3 hg hfit.2
      simp only [Tm.ev]
      omega
  · intro f k j l r a hk hf hj ha e1 e2 e3 er el _ _ ihr ihl hfit
    generalize hkd : (NJ ns (k + 1)).kind = kd at *
    simp only [Tm.fit, Bool.and_eq_true, beq_iff_eq] at hfit
    obtain ⟨r1, r2, r3⟩ := ihr hfit.2.1
    obtain ⟨l1, l2, l3⟩ := ihl hfit.1.1
    have hv : Tm.ev vars (.pair kd l r) = evAt ns vars (k + 1) := by
      simp only [Tm.ev, evAt, valAt, hkd, el, er, Int.toNat_natCast]
      rw [evs_at (Nat.lt_succ_self k), evs_at (by omega : j < k + 1), r2, l2, if_neg (by omega), if_pos (by omega)]
    have hb : evBad ns vars (k + 1) = !oneOk kd (l.ev vars) (r.ev vars) := by
      unfold evBad
      rw [hkd, el, er, Int.toNat_natCast, Int.toNat_natCast, evs_at (Nat.lt_succ_self k), evs_at (by omega : j < k + 1), r2, l2]
      simp [show 2 < kd by omega]
    refine ⟨?_, hv, ?_⟩
    · simp only [Tm.good, Bool.and_eq_true]
      constructor
      · rintro ⟨⟨h1, h2⟩, h3⟩ i hi1 hi2
        by_cases ei : i = k + 1
        · subst ei; rw [hb, h3]; rfl
        · by_cases ei : i ≤ j
          · exact l1.1 h1 i hi1 ei
          · exact r1.1 h2 i (by omega) (by omega)
      · intro h1
        refine ⟨⟨l1.2 (fun i hi1 hi2 => h1 i hi1 (by omega)), r1.2 (fun i hi1 hi2 => h1 i (by omega) (by omega))⟩, ?_⟩
        have := h1 (k + 1) (by omega) (by omega)
        rw [hb] at this
        simpa using this
    · intro hg hty
      simp only [Tm.good, Bool.and_eq_true] at hg
      have h7 : 7 ≤ kd := by
        simp only [Tm.ty] at hty
        unfold pairOwn at hty
        by_cases c : inR kd 3 6 = true
        · rw [if_pos c] at hty; omega
        · rw [inR_iff] at c; omega
      simp only [Tm.ev]
      unfold oneVal
      rw [if_neg (by omega), if_neg (by omega), if_neg (by omega), if_neg (by omega)]
      by_cases c7 : kd = 7
      · rw [if_pos c7]; exact bit_in _
      · rw [if_neg c7]
        by_cases c8 : kd = 8
        · rw [if_pos c8]; exact bit_in _
        · have c9 : kd = 9 := by omega
          rw [if_neg c8, if_pos c9]
          have hp : pairAsk kd = 2 := by unfold pairAsk; rw [if_neg (by rw [inR_iff]; omega)]
          rcases l3 hg.1.1 (hfit.1.2.trans hp) with x | x <;> rcases r3 hg.1.2 (hfit.2.2.trans hp) with y | y <;> rw [x, y] <;> simp
theorem top_good {ns : List NodeD} {vars : List Int} {t : Tm} (he : eFault ns = 0) (h : topF ns = some (t, 0)) (hfit : t.fit = true) : t.good vars = evOk ns vars ∧ t.ev vars = (evs ns vars ns.length).getD (ns.length - 1) 0 := by
  obtain ⟨h0, h16, hok⟩ := of_e he
  obtain ⟨h1, h2, _⟩ := good_iff (vars := vars) hok _ _ t 0 (by omega) (by omega) h hfit
  refine ⟨?_, by rw [evs_at (by omega)]; exact h2⟩
  rw [Bool.eq_iff_iff, h1]
  constructor
  · intro h3
    exact evOk_all (fun j hj => h3 j (Nat.zero_le _) (by omega))
  · intro h3 j _ hj
    cases e : evBad ns vars j
    · rfl
    · rw [evOk_bad (by omega) e] at h3; cases h3
/-- What holds of the numbers in the nodes holds of those in the term. -/
def Tm.ok : Tm → Prop
  | ⟨[], false, n⟩ => 0 ≤ n ∧ n ≤ 9999
  | ⟨[], true, n⟩ => 0 ≤ n ∧ n ≤ 3
  | ⟨[t], v, n⟩ => t.ok ∧ v = false ∧ n = 0
  | ⟨l :: r :: s, v, k⟩ => (3 ≤ k ∧ k ≤ 9 ∧ l.ok ∧ r.ok) ∧ v = false ∧ s = []
def Tm.size : Tm → Nat
  | ⟨[], false, _⟩ => 1
  | ⟨[], true, _⟩ => 1
  | ⟨[t], _, _⟩ => t.size + 1
  | ⟨l :: r :: _, _, _⟩ => l.size + r.size + 1
def Tm.nodes : Tm → Nat → List NodeD
  | ⟨[], false, n⟩, _ => [⟨1, n, 0, 0⟩]
  | ⟨[], true, n⟩, _ => [⟨2, n, 0, 0⟩]
  | ⟨[t], _, _⟩, b => t.nodes b ++ [⟨10, 0, ((b + t.size - 1 : Nat) : Int), 0⟩]
  | ⟨l :: r :: _, _, k⟩, b => l.nodes b ++ r.nodes (b + l.size) ++ [⟨k, 0, ((b + l.size - 1 : Nat) : Int), ((b + l.size + r.size - 1 : Nat) : Int)⟩]
theorem size_pos : ∀ (t : Tm), 0 < t.size
  | ⟨[], false, _⟩ => by simp [Tm.size]
  | ⟨[], true, _⟩ => by simp [Tm.size]
  | ⟨[t], _, _⟩ => by simp [Tm.size]
  | ⟨l :: r :: _, _, _⟩ => by simp [Tm.size]
theorem nodes_len : ∀ (t : Tm) (b : Nat), (t.nodes b).length = t.size
  | ⟨[], false, n⟩, b => rfl
  | ⟨[], true, n⟩, b => rfl
  | ⟨[t], _, _⟩, b => by simp [Tm.nodes, Tm.size, nodes_len t b]
  | ⟨l :: r :: _, _, k⟩, b => by simp [Tm.nodes, Tm.size, nodes_len l b, nodes_len r (b + l.size)]; omega
theorem term_ok {ns : List NodeD} (hok : ∀ k, k < ns.length → nCode (NJ ns k) k = 0) (f k : Nat) (t : Tm) (a : Nat) (hk : k < ns.length) (hf : k < f) (h : termF ns f k = some (t, a)) : a ≤ k ∧ (t.ok ∧ t.size = k + 1 - a) := by
  refine term_ind hok (P := fun f k t a => t.ok ∧ t.size = k + 1 - a) ?_ ?_ ?_ ?_ f k t a hk hf h
  · intro f k hk e; exact ⟨v_const (hok k hk) e, by simp [Tm.size]⟩
  · intro f k hk e; exact ⟨v_var (hok k hk) e, by simp [Tm.size]⟩
  · intro f k t a hk hf ha e el _ ih; exact ⟨⟨ih.1, rfl, rfl⟩, by simp only [Tm.size]; omega⟩
  · intro f k j l r a hk hf hj ha e1 e2 e3 er el _ _ ih1 ih2; exact ⟨⟨⟨e1, e2, ih2.1, ih1.1⟩, rfl, rfl⟩, by simp only [Tm.size]; omega⟩
theorem n_leaf {n : NodeD} {i : Int} (h : nCode n i = 0) (hk : n.kind ≤ 2) : n.left = 0 ∧ n.right = 0 := by
  have h3 := (of_n h).2.1
  unfold has at h3
  simp only [hk, decide_true, Bool.true_and, Bool.or_eq_false_iff] at h3
  simpa using h3.1.1
theorem n_value {n : NodeD} {i : Int} (h : nCode n i = 0) (hk : 2 < n.kind) : n.value = 0 := by
  have h3 := (of_n h).2.1
  unfold has at h3
  have : ¬ n.kind ≤ 2 := by omega
  simp only [this, decide_false, Bool.not_false, Bool.true_and, Bool.or_eq_false_iff] at h3
  simpa using h3.1.2
/-- The nodes of a term are those that stand there. -/
theorem term_nodes {ns : List NodeD} (hok : ∀ k, k < ns.length → nCode (NJ ns k) k = 0) (f k : Nat) (t : Tm) (a : Nat) (hk : k < ns.length) (hf : k < f) (h : termF ns f k = some (t, a)) : a ≤ k ∧ (t.size = k + 1 - a ∧ ∀ i, i < t.size → (t.nodes a)[i]? = some (NJ ns (a + i))) := by
  refine term_ind hok (P := fun f k t a => t.size = k + 1 - a ∧ ∀ i, i < t.size → (t.nodes a)[i]? = some (NJ ns (a + i))) ?_ ?_ ?_ ?_ f k t a hk hf h
  · intro f k hk e
    refine ⟨by simp [Tm.size], fun i hi => ?_⟩
    obtain rfl : i = 0 := by simp [Tm.size] at hi; omega
    have := n_leaf (hok k hk) (by omega)
    generalize NJ ns k = n at *
    obtain ⟨x, y, z, u⟩ := n
    simp only [Tm.nodes] at *
    simp_all
  · intro f k hk e
    refine ⟨by simp [Tm.size], fun i hi => ?_⟩
    obtain rfl : i = 0 := by simp [Tm.size] at hi; omega
    have := n_leaf (hok k hk) (by omega)
    generalize NJ ns k = n at *
    obtain ⟨x, y, z, u⟩ := n
    simp only [Tm.nodes] at *
    simp_all
  · intro f k t a hk hf ha e el _ ⟨ih1, ih2⟩
    refine ⟨by simp only [Tm.size]; omega, fun i hi => ?_⟩
    simp only [Tm.size] at hi
    simp only [Tm.nodes]
    by_cases c : i < t.size
    · rw [List.getElem?_append_left (by rw [nodes_len]; exact c)]; exact ih2 i c
    · obtain rfl : i = t.size := by omega
      rw [List.getElem?_append_right (by rw [nodes_len]; exact Nat.le_refl _), nodes_len, Nat.sub_self, show a + t.size = k + 1 by omega, show k + 1 - 1 = k by omega]
      have h1 := n_value (hok _ hk) (by omega)
      have h2 := v_not (hok _ hk) e
      generalize NJ ns (k + 1) = n at *
      obtain ⟨x, y, z, u⟩ := n
      simp_all
  · intro f k j l r a hk hf hj ha e1 e2 e3 er el _ _ ⟨r1, r2⟩ ⟨l1, l2⟩
    refine ⟨by simp only [Tm.size]; omega, fun i hi => ?_⟩
    simp only [Tm.size] at hi
    simp only [Tm.nodes]
    have e5 : a + l.size = j + 1 := by omega
    rw [e5]
    by_cases c : i < l.size
    · rw [List.append_assoc, List.getElem?_append_left (by rw [nodes_len]; exact c)]; exact l2 i c
    · by_cases c2 : i < l.size + r.size
      · rw [List.getElem?_append_left (by rw [List.length_append, nodes_len, nodes_len]; exact c2), List.getElem?_append_right (by rw [nodes_len]; omega), nodes_len, r2 (i - l.size) (by omega)]
        congr 2
        omega
      · obtain rfl : i = l.size + r.size := by omega
        rw [List.getElem?_append_right (by rw [List.length_append, nodes_len, nodes_len]; exact Nat.le_refl _), List.length_append, nodes_len, nodes_len, Nat.sub_self, show a + (l.size + r.size) = k + 1 by omega, show j + 1 - 1 = j by omega, show j + 1 + r.size - 1 = k by omega]
        have h1 := n_value (hok _ hk) (by omega)
        generalize NJ ns (k + 1) = n at *
        obtain ⟨x, y, z, u⟩ := n
        simp_all
theorem top_nodes {ns : List NodeD} {t : Tm} (he : eFault ns = 0) (h : topF ns = some (t, 0)) : ns = t.nodes 0 ∧ t.ok ∧ t.size = ns.length := by
  obtain ⟨h0, h16, hok⟩ := of_e he
  obtain ⟨_, h1, h2⟩ := term_nodes hok _ _ t 0 (by omega) (by omega) h
  refine ⟨?_, (term_ok hok _ _ t 0 (by omega) (by omega) h).2.1, by omega⟩
  apply List.ext_getElem?
  intro i
  by_cases c : i < t.size
  · rw [h2 i c, Nat.zero_add, NJ_eq (by omega), List.getElem?_eq_getElem (by omega)]
  · rw [List.getElem?_eq_none (by omega), List.getElem?_eq_none (by rw [nodes_len]; omega)]
end Ex
end Go.Proofs.YtgghigfflpbjiaaGreatDoor
/- Texts of terms, and how they are read: plain facts, of no program. -/
namespace Go.Proofs.YtgghigfflpbjiaaGreatDoor
open Go.RowKit
set_option linter.unusedVariables false
namespace Ex
open Nd (NodeD)
open Go.Lib (decDigits decDigits_one)
def signOf (k : Int) : UInt8 := if k = 3 then 43 else if k = 4 then 45 else if k = 5 then 42 else if k = 6 then 47 else if k = 7 then 60 else if k = 8 then 61 else 38
def kindOf (b : UInt8) : Option Int := if b = 43 then some 3 else if b = 45 then some 4 else if b = 42 then some 5 else if b = 47 then some 6 else if b = 60 then some 7 else if b = 61 then some 8 else if b = 38 then some 9 else none
def Tm.txt : Tm → List UInt8
  | ⟨[], false, n⟩ => decDigits n.toNat
  | ⟨[], true, n⟩ => 118 :: decDigits n.toNat
  | ⟨[t], _, _⟩ => 33 :: t.txt
  | ⟨l :: r :: _, _, k⟩ => 40 :: (l.txt ++ signOf k :: (r.txt ++ [41]))
def isD (b : UInt8) : Bool := decide (48 ≤ b.toNat) && decide (b.toNat ≤ 57)
def valD (d : List UInt8) : Nat := d.foldl (fun a b => a * 10 + (b.toNat - 48)) 0
def numBad (most : Nat) (d : List UInt8) : Bool := decide (d.length = 0) || decide (most < d.length) || (decide (d.head? = some 48) && decide (1 < d.length))
def num (most : Nat) (l : List UInt8) : Option (Nat × List UInt8) := if numBad most (l.takeWhile isD) = true then none else some (valD (l.takeWhile isD), l.dropWhile isD)
def gp : Nat → List UInt8 → Option (Tm × List UInt8)
  | 0, _ => none
  | f + 1, [] => none
  | f + 1, b :: r =>
    if b = 40 then (gp f r).bind fun p => match p.2 with
        | [] => none
        | s :: r2 => (kindOf s).bind fun k => (gp f r2).bind fun q => match q.2 with
            | [] => none
            | c :: r4 => if c = 41 then some (.pair k p.1 q.1, r4) else none
    else if b = 33 then (gp f r).map fun p => (.not p.1, p.2)
    else if b = 118 then (num 1 r).map fun p => (.var p.1, p.2)
    else (num 4 (b :: r)).map fun p => (.const p.1, p.2)
/-- What is read has these bounds, whatever the variables are. -/
def Tm.near : Tm → Prop
  | ⟨[], false, n⟩ => 0 ≤ n ∧ n ≤ 9999
  | ⟨[], true, n⟩ => 0 ≤ n ∧ n ≤ 9
  | ⟨[t], v, n⟩ => t.near ∧ v = false ∧ n = 0
  | ⟨l :: r :: s, v, k⟩ => (3 ≤ k ∧ k ≤ 9 ∧ l.near ∧ r.near) ∧ v = false ∧ s = []
theorem near_of_ok : ∀ {t : Tm}, t.ok → t.near
  | ⟨[], false, n⟩, h => h
  | ⟨[], true, n⟩, h => ⟨h.1, by have := h.2; omega⟩
  | ⟨[t], v, n⟩, h => ⟨near_of_ok (t := t) h.1, h.2⟩
  | ⟨l :: r :: s, v, k⟩, h => ⟨⟨h.1.1, h.1.2.1, near_of_ok h.1.2.2.1, near_of_ok h.1.2.2.2⟩, h.2⟩
theorem dec_big {n : Nat} (h : ¬ n < 10) : decDigits n = decDigits (n / 10) ++ [UInt8.ofNat (48 + n % 10)] := by rw [decDigits, dif_neg h]
theorem dig_toNat {n : Nat} (h : n < 10) : (UInt8.ofNat (48 + n)).toNat = 48 + n := by
  rw [UInt8.toNat_ofNat']
  omega
theorem dig_of {b : UInt8} (h : isD b = true) : UInt8.ofNat (48 + (b.toNat - 48)) = b := by
  simp only [isD, Bool.and_eq_true, decide_eq_true_eq] at h
  rw [show 48 + (b.toNat - 48) = b.toNat by omega]
  exact UInt8.ofNat_toNat
theorem dec_isD : ∀ (n : Nat), ∀ b ∈ decDigits n, isD b = true := by
  intro n
  induction n using Nat.strongRecOn with
  | _ n ih =>
    by_cases h : n < 10
    · rw [decDigits_one h]
      intro b hb
      obtain rfl := List.mem_singleton.1 hb
      simp only [isD, dig_toNat h, Bool.and_eq_true, decide_eq_true_eq]
      omega
    · rw [dec_big h]
      intro b hb
      rcases List.mem_append.1 hb with hb | hb
      · exact ih _ (by omega) b hb
      · obtain rfl := List.mem_singleton.1 hb
        simp only [isD, dig_toNat (n := n % 10) (by omega), Bool.and_eq_true, decide_eq_true_eq]
        omega
theorem valD_snoc (d : List UInt8) (b : UInt8) : valD (d ++ [b]) = valD d * 10 + (b.toNat - 48) := by simp [valD]
theorem dec_val : ∀ (n : Nat), valD (decDigits n) = n := by
  intro n
  induction n using Nat.strongRecOn with
  | _ n ih =>
    by_cases h : n < 10
    · rw [decDigits_one h]
      simp only [valD, List.foldl_cons, List.foldl_nil, dig_toNat h]
      omega
    · rw [dec_big h, valD_snoc, ih _ (by omega), dig_toNat (by omega)]
      omega
theorem dec_head : ∀ (n : Nat), 0 < n → ∃ b s, decDigits n = b :: s ∧ b ≠ 48 := by
  intro n
  induction n using Nat.strongRecOn with
  | _ n ih =>
    intro hn
    by_cases h : n < 10
    · rw [decDigits_one h]
      refine ⟨_, [], rfl, fun e => ?_⟩
      have := congrArg UInt8.toNat e
      rw [dig_toNat h] at this
      simp at this
      omega
    · obtain ⟨b, s, h1, h2⟩ := ih (n / 10) (by omega) (by omega)
      rw [dec_big h, h1]
      exact ⟨b, s ++ [_], rfl, h2⟩
theorem dec_len : ∀ (m n : Nat), n < 10 ^ (m + 1) → (decDigits n).length ≤ m + 1
  | 0, n, h => by rw [decDigits_one (by simpa using h)]; simp
  | m + 1, n, h => by
    by_cases h1 : n < 10
    · rw [decDigits_one h1]; simp
    · rw [dec_big h1, List.length_append, List.length_singleton]
      have := dec_len m (n / 10) (by rw [Nat.pow_succ] at h; omega)
      omega
theorem dec_cons (n : Nat) : ∃ b s, decDigits n = b :: s := by
  by_cases h : n = 0
  · exact ⟨_, [], by rw [decDigits_one (by omega)]⟩
  · obtain ⟨b, s, h1, _⟩ := dec_head n (by omega)
    exact ⟨b, s, h1⟩
/-- Digits without a 0 ahead are those of their number. -/
theorem dec_of : ∀ (m : Nat) (d : List UInt8), d.length = m → (∀ b ∈ d, isD b = true) → d ≠ [] → ¬ (d.head? = some 48 ∧ 1 < d.length) → decDigits (valD d) = d ∧ (d.head? ≠ some 48 → 0 < valD d)
  | 0, d, hl, hd, h0, hh => absurd (List.eq_nil_of_length_eq_zero hl) h0
  | m + 1, d, hl, hd, h0, hh => by
    obtain ⟨d', b, rfl⟩ : ∃ d' b, d = d' ++ [b] := ⟨d.dropLast, d.getLast h0, (List.dropLast_concat_getLast h0).symm⟩
    have hb := hd b (by simp)
    have hb2 := hb
    simp only [isD, Bool.and_eq_true, decide_eq_true_eq] at hb2
    rw [valD_snoc]
    by_cases e : d' = []
    · subst e
      simp only [List.nil_append, valD, List.foldl_nil, Nat.zero_mul, Nat.zero_add]
      refine ⟨by rw [decDigits_one (by omega), dig_of hb], fun h => ?_⟩
      have : b.toNat ≠ 48 := fun e => h (by
        have : b = 48 := UInt8.toNat_inj.1 e
        rw [this]; rfl)
      omega
    · obtain ⟨c, s, rfl⟩ : ∃ c s, d' = c :: s := by cases d' with | nil => exact absurd rfl e | cons c s => exact ⟨c, s, rfl⟩
      have hc : c ≠ 48 := fun ec => hh ⟨by rw [ec]; rfl, by simp⟩
      have ih := dec_of m (c :: s) (by simpa using hl) (fun x hx => hd x (List.mem_append_left _ hx)) (by simp) (fun h => hc (by simpa using h.1))
      have hp := ih.2 (by simpa using hc)
      have hbig : ¬ valD (c :: s) * 10 + (b.toNat - 48) < 10 := by omega
      refine ⟨?_, fun _ => by omega⟩
      rw [dec_big hbig, show (valD (c :: s) * 10 + (b.toNat - 48)) / 10 = valD (c :: s) by omega, ih.1, show (valD (c :: s) * 10 + (b.toNat - 48)) % 10 = b.toNat - 48 by omega, dig_of hb]
theorem valD_lt : ∀ (m : Nat) (d : List UInt8), d.length = m → (∀ b ∈ d, isD b = true) → valD d < 10 ^ m
  | 0, d, hl, hd => by obtain rfl := List.eq_nil_of_length_eq_zero hl; simp [valD]
  | m + 1, d, hl, hd => by
    have h0 : d ≠ [] := by rintro rfl; simp at hl
    obtain ⟨d', b, rfl⟩ : ∃ d' b, d = d' ++ [b] := ⟨d.dropLast, d.getLast h0, (List.dropLast_concat_getLast h0).symm⟩
    have hb := hd b (by simp)
    simp only [isD, Bool.and_eq_true, decide_eq_true_eq] at hb
    have ih := valD_lt m d' (by simpa using hl) (fun x hx => hd x (List.mem_append_left _ hx))
    rw [valD_snoc, Nat.pow_succ]
    omega
theorem tw_all (l : List UInt8) : ∀ b ∈ l.takeWhile isD, isD b = true := by
  intro b hb
  induction l with
  | nil => simp at hb
  | cons c l ih =>
    rw [List.takeWhile_cons] at hb
    split at hb
    · rcases List.mem_cons.1 hb with rfl | hb
      · assumption
      · exact ih hb
    · simp at hb
theorem num_some {most n : Nat} {l r : List UInt8} (h : num most l = some (n, r)) : l = decDigits n ++ r ∧ n < 10 ^ most := by
  unfold num at h
  by_cases c : numBad most (l.takeWhile isD) = true
  · rw [if_pos c] at h; cases h
  · rw [if_neg c] at h
    simp only [Option.some.injEq, Prod.mk.injEq] at h
    obtain ⟨rfl, rfl⟩ := h
    simp only [numBad, Bool.or_eq_true, Bool.and_eq_true, decide_eq_true_eq, not_or] at c
    have h1 := dec_of _ (l.takeWhile isD) rfl (tw_all l) (fun e => c.1.1 (by rw [e]; rfl)) c.2
    refine ⟨by rw [h1.1, List.takeWhile_append_dropWhile], ?_⟩
    exact Nat.lt_of_lt_of_le (valD_lt _ _ rfl (tw_all l)) (Nat.pow_le_pow_right (by omega) (by omega))
def stops (r : List UInt8) : Prop := ∀ b s, r = b :: s → isD b = false
theorem tw_append {d r : List UInt8} (hd : ∀ b ∈ d, isD b = true) (hr : stops r) : (d ++ r).takeWhile isD = d ∧ (d ++ r).dropWhile isD = r := by
  induction d with
  | nil =>
    cases r with
    | nil => exact ⟨rfl, rfl⟩
    | cons b s => simp [hr b s rfl]
  | cons c d ih =>
    have hc := hd c (by simp)
    have := ih (fun b hb => hd b (List.mem_cons_of_mem _ hb))
    simp [hc, this.1, this.2]
theorem num_dec {m n : Nat} {r : List UInt8} (h : n < 10 ^ (m + 1)) (hr : stops r) : num (m + 1) (decDigits n ++ r) = some (n, r) := by
  unfold num
  obtain ⟨e1, e2⟩ := tw_append (dec_isD n) hr
  rw [e1, e2, dec_val, if_neg]
  simp only [numBad, Bool.or_eq_true, Bool.and_eq_true, decide_eq_true_eq, not_or]
  have hl := dec_len m n h
  obtain ⟨b, s, hb⟩ := dec_cons n
  refine ⟨⟨by rw [hb]; simp, by omega⟩, fun hh => ?_⟩
  by_cases h0 : n = 0
  · subst h0; rw [decDigits_one (by omega)] at hh; simp at hh
  · obtain ⟨b, s, h1, h2⟩ := dec_head n (by omega)
    rw [h1] at hh
    exact h2 (by simpa using hh.1)
theorem kind_in {b : UInt8} {k : Int} (h : kindOf b = some k) : 3 ≤ k ∧ k ≤ 9 ∧ signOf k = b := by
  unfold kindOf at h
  repeat' split at h
  all_goals first | (cases h; rename_i e; subst e; decide) | cases h
theorem kind_sign {k : Int} (h1 : 3 ≤ k) (h2 : k ≤ 9) : kindOf (signOf k) = some k := by
  have : k = 3 ∨ k = 4 ∨ k = 5 ∨ k = 6 ∨ k = 7 ∨ k = 8 ∨ k = 9 := by omega
  rcases this with rfl | rfl | rfl | rfl | rfl | rfl | rfl <;> decide
theorem gp_txt : ∀ (f : Nat) (l : List UInt8) (t : Tm) (r : List UInt8), gp f l = some (t, r) → l = t.txt ++ r ∧ t.near
  | 0, l, t, r, h => by rw [gp] at h; cases h
  | f + 1, [], t, r, h => by rw [gp] at h; cases h
  | f + 1, b :: l, t, r, h => by
    rw [gp] at h
    by_cases c1 : b = 40
    · rw [if_pos c1] at h
      cases h1 : gp f l with
      | none => rw [h1] at h; cases h
      | some p =>
        obtain ⟨a, r1⟩ := p
        rw [h1, Option.bind_some] at h
        cases r1 with
        | nil => cases h
        | cons s r2 =>
          simp only at h
          cases h2 : kindOf s with
          | none => rw [h2] at h; cases h
          | some k =>
            rw [h2, Option.bind_some] at h
            cases h3 : gp f r2 with
            | none => rw [h3] at h; cases h
            | some q =>
              obtain ⟨c, r3⟩ := q
              rw [h3, Option.bind_some] at h
              cases r3 with
              | nil => cases h
              | cons x r4 =>
                simp only at h
                by_cases c2 : x = 41
                · rw [if_pos c2] at h
                  simp only [Option.some.injEq, Prod.mk.injEq] at h
                  obtain ⟨rfl, rfl⟩ := h
                  obtain ⟨g1, g2⟩ := gp_txt f _ _ _ h1
                  obtain ⟨g3, g4⟩ := gp_txt f _ _ _ h3
                  obtain ⟨k1, k2, k3⟩ := kind_in h2
                  refine ⟨?_, ⟨k1, k2, g2, g4⟩, rfl, rfl⟩
                  subst c1 c2
                  rw [g1, g3, ← k3]
                  simp [Tm.txt]
                · rw [if_neg c2] at h; cases h
    · rw [if_neg c1] at h
      by_cases c2 : b = 33
      · rw [if_pos c2] at h
        cases h1 : gp f l with
        | none => rw [h1] at h; cases h
        | some p =>
          obtain ⟨a, r1⟩ := p
          rw [h1] at h
          simp only [Option.map_some, Option.some.injEq, Prod.mk.injEq] at h
          obtain ⟨rfl, rfl⟩ := h
          obtain ⟨g1, g2⟩ := gp_txt f _ _ _ h1
          exact ⟨by rw [c2, g1]; rfl, g2, rfl, rfl⟩
      · rw [if_neg c2] at h
        by_cases c3 : b = 118
        · rw [if_pos c3] at h
          cases h1 : num 1 l with
          | none => rw [h1] at h; cases h
          | some p =>
            obtain ⟨n, r1⟩ := p
            rw [h1] at h
            simp only [Option.map_some, Option.some.injEq, Prod.mk.injEq] at h
            obtain ⟨rfl, rfl⟩ := h
            obtain ⟨g1, g2⟩ := num_some h1
            exact ⟨by rw [c3, g1]; simp [Tm.txt], by simp only [Tm.near]; omega⟩
        · rw [if_neg c3] at h
          cases h1 : num 4 (b :: l) with
          | none => rw [h1] at h; cases h
          | some p =>
            obtain ⟨n, r1⟩ := p
            rw [h1] at h
            simp only [Option.map_some, Option.some.injEq, Prod.mk.injEq] at h
            obtain ⟨rfl, rfl⟩ := h
            obtain ⟨g1, g2⟩ := num_some h1
            exact ⟨by rw [g1]; simp [Tm.txt], by simp only [Tm.near]; omega⟩
theorem stops_cons {b : UInt8} {s : List UInt8} (h : isD b = false) : stops (b :: s) := by
  intro c r e
  cases e
  exact h
theorem sign_isD {k : Int} (h1 : 3 ≤ k) (h2 : k ≤ 9) : isD (signOf k) = false := by
  have : k = 3 ∨ k = 4 ∨ k = 5 ∨ k = 6 ∨ k = 7 ∨ k = 8 ∨ k = 9 := by omega
  rcases this with rfl | rfl | rfl | rfl | rfl | rfl | rfl <;> decide
/-- A term is read back from its text. -/
theorem txt_gp : ∀ (t : Tm) (r : List UInt8) (f : Nat), t.near → stops r → t.txt.length ≤ f → gp f (t.txt ++ r) = some (t, r)
  | ⟨[], false, n⟩, r, f, h, hr, hf => by
    obtain ⟨b, s, hb⟩ := dec_cons n.toNat
    have hd := dec_isD n.toNat b (by rw [hb]; simp)
    obtain ⟨f, rfl⟩ : ∃ g, f = g + 1 := ⟨f - 1, by simp only [Tm.txt, hb, List.length_cons] at hf; omega⟩
    have hn := num_dec (m := 3) (n := n.toNat) (r := r) (by have := h.2; simp only [Tm.near] at h; omega) hr
    simp only [Tm.txt]
    rw [hb, List.cons_append, gp, if_neg (by rintro rfl; revert hd; decide), if_neg (by rintro rfl; revert hd; decide), if_neg (by rintro rfl; revert hd; decide), ← List.cons_append, ← hb, hn]
    simp only [Option.map_some]
    rw [Int.toNat_of_nonneg h.1]
  | ⟨[], true, n⟩, r, f, h, hr, hf => by
    obtain ⟨f, rfl⟩ : ∃ g, f = g + 1 := ⟨f - 1, by simp only [Tm.txt, List.length_cons] at hf; omega⟩
    have hn := num_dec (m := 0) (n := n.toNat) (r := r) (by have := h.2; simp only [Tm.near] at h; omega) hr
    simp only [Tm.txt, List.cons_append]
    rw [gp, if_neg (by decide), if_neg (by decide), if_pos rfl, hn]
    simp only [Option.map_some]
    rw [Int.toNat_of_nonneg h.1]
  | ⟨[t], _, _⟩, r, f, h, hr, hf => by
    obtain ⟨h, rfl, rfl⟩ := h
    obtain ⟨f, rfl⟩ : ∃ g, f = g + 1 := ⟨f - 1, by simp only [Tm.txt, List.length_cons] at hf; omega⟩
    simp only [Tm.txt, List.length_cons] at hf
    simp only [Tm.txt, List.cons_append]
    rw [gp, if_neg (by decide), if_pos rfl, txt_gp t r f h hr (by omega)]
    rfl
  | ⟨a :: c :: _, _, k⟩, r, f, h, hr, hf => by
    obtain ⟨h, rfl, rfl⟩ := h
    obtain ⟨f, rfl⟩ : ∃ g, f = g + 1 := ⟨f - 1, by simp only [Tm.txt, List.length_cons] at hf; omega⟩
    simp only [Tm.txt, List.length_cons, List.length_append, List.length_nil] at hf
    simp only [Tm.txt, List.cons_append, List.append_assoc, List.nil_append]
    rw [gp, if_pos rfl, txt_gp a _ f h.2.2.1 (stops_cons (sign_isD h.1 h.2.1)) (by omega), Option.bind_some]
    simp only
    rw [kind_sign h.1 h.2.1, Option.bind_some, txt_gp c _ f h.2.2.2 (stops_cons (by decide)) (by omega), Option.bind_some]
    simp only
    rw [if_pos trivial]
theorem txt_len : ∀ (t : Tm), t.near → t.txt.length ≤ 4 * t.size
  | ⟨[], false, n⟩, h => by
    have := dec_len 3 n.toNat (by have := h.2; simp only [Tm.near] at h; omega)
    simp only [Tm.txt, Tm.size]; omega
  | ⟨[], true, n⟩, h => by
    have := dec_len 0 n.toNat (by have := h.2; simp only [Tm.near] at h; omega)
    simp only [Tm.txt, Tm.size, List.length_cons]; omega
  | ⟨[t], _, _⟩, h => by
    obtain ⟨h, rfl, rfl⟩ := h
    have := txt_len t h
    simp only [Tm.txt, Tm.size, List.length_cons]; omega
  | ⟨a :: c :: _, _, k⟩, h => by
    obtain ⟨h, rfl, rfl⟩ := h
    have h1 := txt_len a h.2.2.1
    have h2 := txt_len c h.2.2.2
    simp only [Tm.txt, Tm.size, List.length_cons, List.length_append, List.length_nil]; omega
/-- The nodes of a term, read as a term. -/
theorem nodes_term {ns : List NodeD} : ∀ (t : Tm) (a f : Nat), t.near → t.size ≤ f → (∀ i, i < t.size → some (NJ ns (a + i)) = (t.nodes a)[i]?) → termF ns f (a + t.size - 1) = some (t, a)
  | ⟨[], false, n⟩, a, f, h, hf, hi => by
    obtain ⟨f, rfl⟩ : ∃ g, f = g + 1 := ⟨f - 1, by simp only [Tm.size] at hf; omega⟩
    have h0 := hi 0 (by simp [Tm.size])
    simp only [Tm.nodes, List.getElem?_cons_zero, Nat.add_zero, Option.some.injEq] at h0
    simp only [Tm.size, Nat.add_sub_cancel]
    rw [t_const (by rw [h0]), h0]
  | ⟨[], true, n⟩, a, f, h, hf, hi => by
    obtain ⟨f, rfl⟩ : ∃ g, f = g + 1 := ⟨f - 1, by simp only [Tm.size] at hf; omega⟩
    have h0 := hi 0 (by simp [Tm.size])
    simp only [Tm.nodes, List.getElem?_cons_zero, Nat.add_zero, Option.some.injEq] at h0
    simp only [Tm.size, Nat.add_sub_cancel]
    rw [t_var (by rw [h0]), h0]
  | ⟨[t], _, _⟩, a, f, h, hf, hi => by
    obtain ⟨h, rfl, rfl⟩ := h
    simp only [Tm.size] at hf
    obtain ⟨f, rfl⟩ : ∃ g, f = g + 1 := ⟨f - 1, by omega⟩
    have hs := size_pos t
    have h0 := hi t.size (by simp [Tm.size])
    simp only [Tm.nodes] at h0
    rw [List.getElem?_append_right (by rw [nodes_len]; exact Nat.le_refl _), nodes_len, Nat.sub_self, List.getElem?_cons_zero, Option.some.injEq] at h0
    simp only [Tm.size]
    rw [show a + (t.size + 1) - 1 = a + t.size by omega, t_not (by rw [h0]) (by rw [h0]; simp only; omega), nodes_term t a f h (by omega) (fun i hi2 => by
      have := hi i (by simp only [Tm.size]; omega)
      simp only [Tm.nodes] at this
      rwa [List.getElem?_append_left (by rw [nodes_len]; exact hi2)] at this)]
    rfl
  | ⟨l :: r :: _, _, k⟩, a, f, h, hf, hi => by
    obtain ⟨h, rfl, rfl⟩ := h
    simp only [Tm.size] at hf
    obtain ⟨f, rfl⟩ : ∃ g, f = g + 1 := ⟨f - 1, by omega⟩
    have hs := size_pos l
    have hs2 := size_pos r
    have h0 := hi (l.size + r.size) (by simp [Tm.size])
    simp only [Tm.nodes] at h0
    rw [List.getElem?_append_right (by rw [List.length_append, nodes_len, nodes_len]; exact Nat.le_refl _), List.length_append, nodes_len, nodes_len, Nat.sub_self, List.getElem?_cons_zero, Option.some.injEq] at h0
    simp only [Tm.size]
    have hr := nodes_term r (a + l.size) f h.2.2.2 (by omega) (fun i hi2 => by
      have := hi (l.size + i) (by simp only [Tm.size]; omega)
      simp only [Tm.nodes] at this
      rwa [List.getElem?_append_left (by rw [List.length_append, nodes_len, nodes_len]; omega), List.getElem?_append_right (by rw [nodes_len]; omega), nodes_len, show l.size + i - l.size = i by omega, ← Nat.add_assoc] at this)
    have hl := nodes_term l a f h.2.2.1 (by omega) (fun i hi2 => by
      have := hi i (by simp only [Tm.size]; omega)
      simp only [Tm.nodes] at this
      rwa [List.append_assoc, List.getElem?_append_left (by rw [nodes_len]; exact hi2)] at this)
    rw [show a + (l.size + r.size + 1) - 1 = a + (l.size + r.size) by omega, t_pair (by rw [h0]; exact ⟨h.1, h.2.1⟩) (by rw [h0]; simp only; omega), show a + (l.size + r.size) - 1 = a + l.size + r.size - 1 by omega, hr, Option.bind_some]
    simp only
    rw [if_pos (by rw [h0]; simp only; omega), hl, h0]
    rfl
theorem NJ_get {ns : List NodeD} {i : Nat} (h : i < ns.length) : some (NJ ns i) = ns[i]? := by rw [NJ_eq h, List.getElem?_eq_getElem h]
theorem top_self {t : Tm} (h : t.near) : topF (t.nodes 0) = some (t, 0) := by
  have := nodes_term (ns := t.nodes 0) t 0 t.size h (Nat.le_refl _) (fun i hi => by rw [Nat.zero_add]; exact NJ_get (by rw [nodes_len]; exact hi))
  unfold topF
  rw [nodes_len]
  simpa using this
theorem nodes_code : ∀ (t : Tm) (a : Nat), t.ok → ∀ i (h : i < (t.nodes a).length), nCode (t.nodes a)[i] ((a + i : Nat) : Int) = 0
  | ⟨[], false, n⟩, a, h, i, hi => by
    simp only [Tm.nodes, List.length_singleton] at hi
    obtain rfl : i = 0 := by omega
    simp only [Tm.nodes, List.getElem_cons_zero]
    exact n_ok (inR_iff.2 (by simp)) (by simp [has]) (by simp [wide, inR_iff.2 h]) (by simp [far, leaf_two])
  | ⟨[], true, n⟩, a, h, i, hi => by
    simp only [Tm.nodes, List.length_singleton] at hi
    obtain rfl : i = 0 := by omega
    simp only [Tm.nodes, List.getElem_cons_zero]
    exact n_ok (inR_iff.2 (by simp)) (by simp [has]) (by simp [wide, inR_iff.2 h]) (by simp [far, leaf_two])
  | ⟨[t], _, _⟩, a, h, i, hi => by
    obtain ⟨h, rfl, rfl⟩ := h
    have hs := size_pos t
    simp only [Tm.nodes, List.length_append, nodes_len, List.length_singleton] at hi
    simp only [Tm.nodes]
    by_cases c : i < t.size
    · rw [List.getElem_append_left (by rw [nodes_len]; exact c)]
      exact nodes_code t a h i _
    · obtain rfl : i = t.size := by omega
      rw [List.getElem_append_right (by rw [nodes_len]; exact Nat.le_refl _)]
      simp only [nodes_len, Nat.sub_self, List.getElem_cons_zero]
      refine n_ok (inR_iff.2 (by simp)) (by simp [has]) (by simp [wide]) ?_
      simp only [far, not_two10, Bool.false_and, Bool.or_false, Bool.and_eq_false_iff, Bool.not_eq_false']
      exact .inr (inR_iff.2 (by omega))
  | ⟨l :: r :: _, _, k⟩, a, h, i, hi => by
    obtain ⟨h, rfl, rfl⟩ := h
    have hs := size_pos l
    have hs2 := size_pos r
    simp only [Tm.nodes, List.length_append, nodes_len, List.length_singleton] at hi
    simp only [Tm.nodes]
    by_cases c : i < l.size
    · simp only [List.append_assoc]
      rw [List.getElem_append_left (by rw [nodes_len]; exact c)]
      exact nodes_code l a h.2.2.1 i _
    · by_cases c2 : i < l.size + r.size
      · rw [List.getElem_append_left (by rw [List.length_append, nodes_len, nodes_len]; exact c2), List.getElem_append_right (by rw [nodes_len]; omega)]
        have := nodes_code r (a + l.size) h.2.2.2 (i - l.size) (by rw [nodes_len]; omega)
        simp only [nodes_len]
        rwa [show a + l.size + (i - l.size) = a + i by omega] at this
      · obtain rfl : i = l.size + r.size := by omega
        rw [List.getElem_append_right (by rw [List.length_append, nodes_len, nodes_len]; exact Nat.le_refl _)]
        simp only [List.length_append, nodes_len, Nat.sub_self, List.getElem_cons_zero]
        have hk := h.1
        have hk2 := h.2.1
        refine n_ok (inR_iff.2 (by simp only; omega)) ?_ ?_ ?_
        · have e1 : decide (k ≤ 2) = false := by simp; omega
          have e2 : (k == 10) = false := by simp; omega
          simp [has, e1, e2]
        · have e1 : (k == 1) = false := by simp; omega
          have e2 : (k == 2) = false := by simp; omega
          simp [wide, e1, e2]
        · simp only [far, Bool.or_eq_false_iff, Bool.and_eq_false_iff, Bool.not_eq_false']
          exact ⟨.inr (inR_iff.2 (by omega)), .inr (inR_iff.2 (by omega))⟩
theorem code_of {ns : List NodeD} : ∀ {n : Nat}, n ≤ ns.length → (∀ k, k < n → nCode (NJ ns k) k = 0) → eCodeTo ns n = 0
  | 0, _, _ => rfl
  | n + 1, hn, h => by rw [eCodeTo, if_neg (by simp [code_of (n := n) (by omega) (fun k hk => h k (by omega))])]; exact h n (by omega)
/-- The nodes of a term have no fault just if the numbers in it have their bounds and there are not too many. -/
theorem e_nodes {t : Tm} (h : t.near) : eFault (t.nodes 0) = 0 ↔ t.ok ∧ t.size ≤ 16 := by
  constructor
  · intro he
    obtain ⟨h0, h16, hok⟩ := of_e he
    obtain ⟨t', ht⟩ := top_of_e he
    rw [top_self h] at ht
    cases ht
    exact ⟨(top_nodes he (top_self h)).2.1, by rw [nodes_len] at h16; exact h16⟩
  · rintro ⟨h1, h2⟩
    have hp := size_pos t
    refine e_of_top (t := t) (by rw [nodes_len]; omega) (code_of (Nat.le_refl _) (fun k hk => ?_)) (top_self h)
    have := nodes_code t 0 h1 k hk
    rw [Nat.zero_add] at this
    rwa [NJ_eq hk]
end Ex
end Go.Proofs.YtgghigfflpbjiaaGreatDoor
