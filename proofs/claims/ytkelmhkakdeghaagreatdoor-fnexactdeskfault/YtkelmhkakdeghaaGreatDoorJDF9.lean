/- Types and values of terms: plain facts, of no program. -/
import Derived.Test.YtkelmhkakdeghaaGreatDoorJDF8
namespace Go.Proofs.YtkelmhkakdeghaaGreatDoor
open Go.RowKit
set_option linter.unusedVariables false
namespace Ex
open Nd (NodeD)
def pairAsk (k : Int) : Int := if inR k 3 8 = true then 1 else 2
def pairOwn (k : Int) : Int := if inR k 3 6 = true then 1 else 2
def Tm.ty : Tm → Int
  | ⟨[], false, _⟩ => 1
  | ⟨[], true, _⟩ => 1
  | ⟨[_], _, _⟩ => 2
  | ⟨_ :: _ :: _, _, k⟩ => pairOwn k
/-- Whether each part of a term has the type that it has to have. -/
def Tm.fit : Tm → Bool
  | ⟨[], false, _⟩ => true
  | ⟨[], true, _⟩ => true
  | ⟨[t], _, _⟩ => t.fit && (t.ty == 2)
  | ⟨l :: r :: _, _, k⟩ => (l.fit && (l.ty == pairAsk k)) && (r.fit && (r.ty == pairAsk k))
theorem fit_iff {ns : List NodeD} (hok : ∀ k, k < ns.length → nCode (NJ ns k) k = 0) (f k : Nat) (t : Tm) (a : Nat) (hk : k < ns.length) (hf : k < f) (h : termF ns f k = some (t, a)) :
    a ≤ k ∧ (t.ty = ty ns k ∧ (t.fit = true ↔ ∀ j, a ≤ j → j ≤ k → badAt ns j = false)) := by
  refine term_ind hok (P := fun f k t a => t.ty = ty ns k ∧ (t.fit = true ↔ ∀ j, a ≤ j → j ≤ k → badAt ns j = false)) ?_ ?_ ?_ ?_ f k t a hk hf h
  · intro f k hk e
    refine ⟨by simp [Tm.ty, ty, tyOf, e], ?_⟩
    simp only [Tm.fit, true_iff]
    intro j h1 h2
    obtain rfl : j = k := by omega
    simp [badAt, e, leaf_two]
  · intro f k hk e
    refine ⟨by simp [Tm.ty, ty, tyOf, e], ?_⟩
    simp only [Tm.fit, true_iff]
    intro j h1 h2
    obtain rfl : j = k := by omega
    simp [badAt, e, leaf_two]
  · intro f k t a hk hf ha e el _ ⟨ih1, ih2⟩
    refine ⟨by simp [Tm.ty, ty, tyOf, e], ?_⟩
    have hb : badAt ns (k + 1) = (ty ns k != 2) := by
      unfold badAt
      rw [e, el, Int.toNat_natCast, not_two10 rfl]
      simp [wantOf]
    simp only [Tm.fit, Bool.and_eq_true, beq_iff_eq]
    rw [ih2, ih1]
    constructor
    · rintro ⟨h1, h2⟩ j hj1 hj2
      by_cases ej : j = k + 1
      · subst ej; rw [hb, h2]; rfl
      · exact h1 j hj1 (by omega)
    · intro h1
      refine ⟨fun j hj1 hj2 => h1 j hj1 (by omega), ?_⟩
      have := h1 (k + 1) (by omega) (by omega)
      rw [hb] at this
      simpa using this
  · intro f k j l r a hk hf hj ha e1 e2 e3 er el _ _ ⟨r1, r2⟩ ⟨l1, l2⟩
    generalize hkd : (NJ ns (k + 1)).kind = kd at *
    have hw : wantOf kd = pairAsk kd := by
      unfold wantOf pairAsk
      by_cases c : kd = 9
      · rw [if_pos (.inl c), if_neg (by rw [inR_iff]; omega)]
      · rw [if_neg (by omega), if_pos (inR_iff.2 (by omega))]
    refine ⟨?_, ?_⟩
    · simp only [Tm.ty]
      unfold pairOwn ty tyOf
      rw [hkd]
      by_cases c : 7 ≤ kd
      · rw [if_pos c, if_neg (by rw [inR_iff]; omega)]
      · rw [if_neg c, if_pos (inR_iff.2 (by omega))]
    have hb : badAt ns (k + 1) = ((ty ns j != pairAsk kd) || (ty ns k != pairAsk kd)) := by
      unfold badAt
      rw [hkd, el, er, Int.toNat_natCast, Int.toNat_natCast, e3, hw]
      simp [show 2 < kd by omega]
    simp only [Tm.fit, Bool.and_eq_true, beq_iff_eq]
    rw [l2, r2, l1, r1]
    constructor
    · rintro ⟨⟨h1, h2⟩, h3, h4⟩ i hi1 hi2
      by_cases ej : i = k + 1
      · subst ej; rw [hb, h2, h4]; simp
      · by_cases ej : i ≤ j
        · exact h1 i hi1 ej
        · exact h3 i (by omega) (by omega)
    · intro h1
      have := h1 (k + 1) (by omega) (by omega)
      rw [hb, Bool.or_eq_false_iff] at this
      exact ⟨⟨fun i hi1 hi2 => h1 i hi1 (by omega), by simpa using this.1⟩, fun i hi1 hi2 => h1 i (by omega) (by omega), by simpa using this.2⟩
theorem top_fit {ns : List NodeD} {t : Tm} (he : eFault ns = 0) (h : topF ns = some (t, 0)) : t.fit = tOk ns ∧ t.ty = ty ns (ns.length - 1) := by
  obtain ⟨h0, h16, hok⟩ := of_e he
  obtain ⟨_, h1, h2⟩ := fit_iff hok _ _ t 0 (by omega) (by omega) h
  refine ⟨?_, h1⟩
  rw [Bool.eq_iff_iff, h2]
  constructor
  · intro h3
    exact tOk_all (fun j hj => h3 j (Nat.zero_le _) (by omega))
  · intro h3 j _ hj
    cases e : badAt ns j
    · rfl
    · rw [tOk_bad (by omega) e] at h3; cases h3
/-- What a term comes to. -/
def Tm.ev (vars : List Int) : Tm → Int
  | ⟨[], false, n⟩ => n
  | ⟨[], true, n⟩ => vars.getD n.toNat 0
  | ⟨[t], _, _⟩ => 1 - t.ev vars
  | ⟨l :: r :: _, _, k⟩ => oneVal k (l.ev vars) (r.ev vars)
def Tm.good (vars : List Int) : Tm → Bool
  | ⟨[], false, _⟩ => true
  | ⟨[], true, _⟩ => true
  | ⟨[t], _, _⟩ => t.good vars
  | ⟨l :: r :: _, _, k⟩ => (l.good vars && r.good vars) && oneOk k (l.ev vars) (r.ev vars)
theorem bit_in (b : Bool) : bit b = 0 ∨ bit b = 1 := by cases b <;> simp [bit]
theorem evs_get {ns : List NodeD} {vars : List Int} {i : Nat} : ∀ {n : Nat}, i < n → (evs ns vars n).getD i 0 = valAt ns vars (evs ns vars i) i
  | 0, h => by omega
  | n + 1, h => by
    rw [evs]
    by_cases e : i = n
    · subst e
      rw [List.getD_eq_getElem?_getD, List.getElem?_append_right (by rw [evs_len]; exact Nat.le_refl _), evs_len]
      simp
    · rw [List.getD_eq_getElem?_getD, List.getElem?_append_left (by rw [evs_len]; omega), ← List.getD_eq_getElem?_getD]
      exact evs_get (by omega)
def evAt (ns : List NodeD) (vars : List Int) (i : Nat) : Int := valAt ns vars (evs ns vars i) i
theorem evs_at {ns : List NodeD} {vars : List Int} {i n : Nat} (h : i < n) : (evs ns vars n).getD i 0 = evAt ns vars i := evs_get h
theorem good_iff {ns : List NodeD} {vars : List Int} (hok : ∀ k, k < ns.length → nCode (NJ ns k) k = 0) (f k : Nat) (t : Tm) (a : Nat) (hk : k < ns.length) (hf : k < f) (h : termF ns f k = some (t, a)) (hfit : t.fit = true) :
    (t.good vars = true ↔ ∀ j, a ≤ j → j ≤ k → evBad ns vars j = false) ∧ t.ev vars = evAt ns vars k ∧ (t.good vars = true → t.ty = 2 → t.ev vars = 0 ∨ t.ev vars = 1) := by
  refine (term_ind hok (P := fun f k t a => t.fit = true → (t.good vars = true ↔ ∀ j, a ≤ j → j ≤ k → evBad ns vars j = false) ∧ t.ev vars = evAt ns vars k ∧ (t.good vars = true → t.ty = 2 → t.ev vars = 0 ∨ t.ev vars = 1)) ?_ ?_ ?_ ?_ f k t a hk hf h).2 hfit
  · intro f k hk e hfit
    refine ⟨?_, by simp [Tm.ev, evAt, valAt, e], by simp [Tm.ty]⟩
    simp only [Tm.good, true_iff]
    intro j h1 h2
    obtain rfl : j = k := by omega
    simp [evBad, e]
  · intro f k hk e hfit
    refine ⟨?_, by simp [Tm.ev, evAt, valAt, e], by simp [Tm.ty]⟩
    simp only [Tm.good, true_iff]
    intro j h1 h2
    obtain rfl : j = k := by omega
    simp [evBad, e]
  · intro f k t a hk hf ha e el _ ih hfit
    simp only [Tm.fit, Bool.and_eq_true, beq_iff_eq] at hfit
    obtain ⟨ih1, ih2, ih3⟩ := ih hfit.1
    have hv : Tm.ev vars (.not t) = evAt ns vars (k + 1) := by
      simp only [Tm.ev, evAt, valAt, e, el, Int.toNat_natCast]
      rw [evs_at (Nat.lt_succ_self k), ih2]
      simp [oneVal]
    have hbad : t.good vars = true → evBad ns vars (k + 1) = false := by
      intro hg
      unfold evBad
      rw [e, el, Int.toNat_natCast, evs_at (Nat.lt_succ_self k), ← ih2]
      have h01 := ih3 hg hfit.2
      have : oneOk 10 (t.ev vars) ((evs ns vars (k + 1)).getD (NJ ns (k + 1)).right.toNat 0) = true := by
        unfold oneOk oneVal
        simp only [Bool.and_eq_true]
        refine ⟨by simp, inR_iff.2 ?_⟩
        simp
        omega
      rw [this]
      rfl
    refine ⟨?_, hv, ?_⟩
    · simp only [Tm.good]
      constructor
      · intro hg j h1 h2
        by_cases ej : j = k + 1
        · subst ej; exact hbad hg
        · exact ih1.1 hg j h1 (by omega)
      · intro h1
        exact ih1.2 (fun j hj1 hj2 => h1 j hj1 (by omega))
    · intro hg _
      have h01 := ih3 hg hfit.2
      simp only [Tm.ev]
      omega
  · intro f k j l r a hk hf hj ha e1 e2 e3 er el _ _ ihr ihl hfit
    generalize hkd : (NJ ns (k + 1)).kind = kd at *
    simp only [Tm.fit, Bool.and_eq_true, beq_iff_eq] at hfit
    obtain ⟨r1, r2, r3⟩ := ihr hfit.2.1
    obtain ⟨l1, l2, l3⟩ := ihl hfit.1.1
    have hv : Tm.ev vars (.pair kd l r) = evAt ns vars (k + 1) := by
      simp only [Tm.ev, evAt, valAt, hkd, el, er, Int.toNat_natCast]
      rw [evs_at (Nat.lt_succ_self k), evs_at (by omega : j < k + 1), r2, l2, if_neg (by omega), if_pos (by omega)]
    have hb : evBad ns vars (k + 1) = !oneOk kd (l.ev vars) (r.ev vars) := by
      unfold evBad
      rw [hkd, el, er, Int.toNat_natCast, Int.toNat_natCast, evs_at (Nat.lt_succ_self k), evs_at (by omega : j < k + 1), r2, l2]
      simp [show 2 < kd by omega]
    refine ⟨?_, hv, ?_⟩
    · simp only [Tm.good, Bool.and_eq_true]
      constructor
      · rintro ⟨⟨h1, h2⟩, h3⟩ i hi1 hi2
        by_cases ei : i = k + 1
        · subst ei; rw [hb, h3]; rfl
        · by_cases ei : i ≤ j
          · exact l1.1 h1 i hi1 ei
          · exact r1.1 h2 i (by omega) (by omega)
      · intro h1
        refine ⟨⟨l1.2 (fun i hi1 hi2 => h1 i hi1 (by omega)), r1.2 (fun i hi1 hi2 => h1 i (by omega) (by omega))⟩, ?_⟩
        have := h1 (k + 1) (by omega) (by omega)
        rw [hb] at this
        simpa using this
    · intro hg hty
      simp only [Tm.good, Bool.and_eq_true] at hg
      have h7 : 7 ≤ kd := by
        simp only [Tm.ty] at hty
        unfold pairOwn at hty
        by_cases c : inR kd 3 6 = true
        · rw [if_pos c] at hty; omega
        · rw [inR_iff] at c; omega
      simp only [Tm.ev]
      unfold oneVal
      rw [if_neg (by omega), if_neg (by omega), if_neg (by omega), if_neg (by omega)]
      by_cases c7 : kd = 7
      · rw [if_pos c7]; exact bit_in _
      · rw [if_neg c7]
        by_cases c8 : kd = 8
        · rw [if_pos c8]; exact bit_in _
        · have c9 : kd = 9 := by omega
          rw [if_neg c8, if_pos c9]
          have hp : pairAsk kd = 2 := by unfold pairAsk; rw [if_neg (by rw [inR_iff]; omega)]
          rcases l3 hg.1.1 (hfit.1.2.trans hp) with x | x <;> rcases r3 hg.1.2 (hfit.2.2.trans hp) with y | y <;> rw [x, y] <;> simp
theorem top_good {ns : List NodeD} {vars : List Int} {t : Tm} (he : eFault ns = 0) (h : topF ns = some (t, 0)) (hfit : t.fit = true) : t.good vars = evOk ns vars ∧ t.ev vars = (evs ns vars ns.length).getD (ns.length - 1) 0 := by
  obtain ⟨h0, h16, hok⟩ := of_e he
  obtain ⟨h1, h2, _⟩ := good_iff (vars := vars) hok _ _ t 0 (by omega) (by omega) h hfit
  refine ⟨?_, by rw [evs_at (by omega)]; exact h2⟩
  rw [Bool.eq_iff_iff, h1]
  constructor
  · intro h3
    exact evOk_all (fun j hj => h3 j (Nat.zero_le _) (by omega))
  · intro h3 j _ hj
    cases e : evBad ns vars j
    · rfl
    · rw [evOk_bad (by omega) e] at h3; cases h3
/-- What holds of the numbers in the nodes holds of those in the term. -/
def Tm.ok : Tm → Prop
  | ⟨[], false, n⟩ => 0 ≤ n ∧ n ≤ 9999
  | ⟨[], true, n⟩ => 0 ≤ n ∧ n ≤ 3
  | ⟨[t], v, n⟩ => t.ok ∧ v = false ∧ n = 0
  | ⟨l :: r :: s, v, k⟩ => (3 ≤ k ∧ k ≤ 9 ∧ l.ok ∧ r.ok) ∧ v = false ∧ s = []
def Tm.size : Tm → Nat
  | ⟨[], false, _⟩ => 1
  | ⟨[], true, _⟩ => 1
  | ⟨[t], _, _⟩ => t.size + 1
  | ⟨l :: r :: _, _, _⟩ => l.size + r.size + 1
def Tm.nodes : Tm → Nat → List NodeD
  | ⟨[], false, n⟩, _ => [⟨1, n, 0, 0⟩]
  | ⟨[], true, n⟩, _ => [⟨2, n, 0, 0⟩]
  | ⟨[t], _, _⟩, b => t.nodes b ++ [⟨10, 0, ((b + t.size - 1 : Nat) : Int), 0⟩]
  | ⟨l :: r :: _, _, k⟩, b => l.nodes b ++ r.nodes (b + l.size) ++ [⟨k, 0, ((b + l.size - 1 : Nat) : Int), ((b + l.size + r.size - 1 : Nat) : Int)⟩]
theorem size_pos : ∀ (t : Tm), 0 < t.size
  | ⟨[], false, _⟩ => by simp [Tm.size]
  | ⟨[], true, _⟩ => by simp [Tm.size]
  | ⟨[t], _, _⟩ => by simp [Tm.size]
  | ⟨l :: r :: _, _, _⟩ => by simp [Tm.size]
theorem nodes_len : ∀ (t : Tm) (b : Nat), (t.nodes b).length = t.size
  | ⟨[], false, n⟩, b => rfl
  | ⟨[], true, n⟩, b => rfl
  | ⟨[t], _, _⟩, b => by simp [Tm.nodes, Tm.size, nodes_len t b]
  | ⟨l :: r :: _, _, k⟩, b => by simp [Tm.nodes, Tm.size, nodes_len l b, nodes_len r (b + l.size)]; omega
theorem term_ok {ns : List NodeD} (hok : ∀ k, k < ns.length → nCode (NJ ns k) k = 0) (f k : Nat) (t : Tm) (a : Nat) (hk : k < ns.length) (hf : k < f) (h : termF ns f k = some (t, a)) : a ≤ k ∧ (t.ok ∧ t.size = k + 1 - a) := by
  refine term_ind hok (P := fun f k t a => t.ok ∧ t.size = k + 1 - a) ?_ ?_ ?_ ?_ f k t a hk hf h
  · intro f k hk e; exact ⟨v_const (hok k hk) e, by simp [Tm.size]⟩
  · intro f k hk e; exact ⟨v_var (hok k hk) e, by simp [Tm.size]⟩
  · intro f k t a hk hf ha e el _ ih; exact ⟨⟨ih.1, rfl, rfl⟩, by simp only [Tm.size]; omega⟩
  · intro f k j l r a hk hf hj ha e1 e2 e3 er el _ _ ih1 ih2; exact ⟨⟨⟨e1, e2, ih2.1, ih1.1⟩, rfl, rfl⟩, by simp only [Tm.size]; omega⟩
theorem n_leaf {n : NodeD} {i : Int} (h : nCode n i = 0) (hk : n.kind ≤ 2) : n.left = 0 ∧ n.right = 0 := by
  have h3 := (of_n h).2.1
  unfold has at h3
  simp only [hk, decide_true, Bool.true_and, Bool.or_eq_false_iff] at h3
  simpa using h3.1.1
theorem n_value {n : NodeD} {i : Int} (h : nCode n i = 0) (hk : 2 < n.kind) : n.value = 0 := by
  have h3 := (of_n h).2.1
  unfold has at h3
  have : ¬ n.kind ≤ 2 := by omega
  simp only [this, decide_false, Bool.not_false, Bool.true_and, Bool.or_eq_false_iff] at h3
  simpa using h3.1.2
/-- The nodes of a term are those that stand there. -/
theorem term_nodes {ns : List NodeD} (hok : ∀ k, k < ns.length → nCode (NJ ns k) k = 0) (f k : Nat) (t : Tm) (a : Nat) (hk : k < ns.length) (hf : k < f) (h : termF ns f k = some (t, a)) : a ≤ k ∧ (t.size = k + 1 - a ∧ ∀ i, i < t.size → (t.nodes a)[i]? = some (NJ ns (a + i))) := by
  refine term_ind hok (P := fun f k t a => t.size = k + 1 - a ∧ ∀ i, i < t.size → (t.nodes a)[i]? = some (NJ ns (a + i))) ?_ ?_ ?_ ?_ f k t a hk hf h
  · intro f k hk e
    refine ⟨by simp [Tm.size], fun i hi => ?_⟩
    obtain rfl : i = 0 := by simp [Tm.size] at hi; omega
    have := n_leaf (hok k hk) (by omega)
    generalize NJ ns k = n at *
    obtain ⟨x, y, z, u⟩ := n
    simp only [Tm.nodes] at *
    simp_all
  · intro f k hk e
    refine ⟨by simp [Tm.size], fun i hi => ?_⟩
    obtain rfl : i = 0 := by simp [Tm.size] at hi; omega
    have := n_leaf (hok k hk) (by omega)
    generalize NJ ns k = n at *
    obtain ⟨x, y, z, u⟩ := n
    simp only [Tm.nodes] at *
    simp_all
  · intro f k t a hk hf ha e el _ ⟨ih1, ih2⟩
    refine ⟨by simp only [Tm.size]; omega, fun i hi => ?_⟩
    simp only [Tm.size] at hi
    simp only [Tm.nodes]
    by_cases c : i < t.size
    · rw [List.getElem?_append_left (by rw [nodes_len]; exact c)]; exact ih2 i c
    · obtain rfl : i = t.size := by omega
      rw [List.getElem?_append_right (by rw [nodes_len]; exact Nat.le_refl _), nodes_len, Nat.sub_self, show a + t.size = k + 1 by omega, show k + 1 - 1 = k by omega]
      have h1 := n_value (hok _ hk) (by omega)
      have h2 := v_not (hok _ hk) e
      generalize NJ ns (k + 1) = n at *
      obtain ⟨x, y, z, u⟩ := n
      simp_all
  · intro f k j l r a hk hf hj ha e1 e2 e3 er el _ _ ⟨r1, r2⟩ ⟨l1, l2⟩
    refine ⟨by simp only [Tm.size]; omega, fun i hi => ?_⟩
    simp only [Tm.size] at hi
    simp only [Tm.nodes]
    have e5 : a + l.size = j + 1 := by omega
    rw [e5]
    by_cases c : i < l.size
    · rw [List.append_assoc, List.getElem?_append_left (by rw [nodes_len]; exact c)]; exact l2 i c
    · by_cases c2 : i < l.size + r.size
      · rw [List.getElem?_append_left (by rw [List.length_append, nodes_len, nodes_len]; exact c2), List.getElem?_append_right (by rw [nodes_len]; omega), nodes_len, r2 (i - l.size) (by omega)]
        congr 2
        omega
      · obtain rfl : i = l.size + r.size := by omega
        rw [List.getElem?_append_right (by rw [List.length_append, nodes_len, nodes_len]; exact Nat.le_refl _), List.length_append, nodes_len, nodes_len, Nat.sub_self, show a + (l.size + r.size) = k + 1 by omega, show j + 1 - 1 = j by omega, show j + 1 + r.size - 1 = k by omega]
        have h1 := n_value (hok _ hk) (by omega)
        generalize NJ ns (k + 1) = n at *
        obtain ⟨x, y, z, u⟩ := n
        simp_all
theorem top_nodes {ns : List NodeD} {t : Tm} (he : eFault ns = 0) (h : topF ns = some (t, 0)) : ns = t.nodes 0 ∧ t.ok ∧ t.size = ns.length := by
  obtain ⟨h0, h16, hok⟩ := of_e he
  obtain ⟨_, h1, h2⟩ := term_nodes hok _ _ t 0 (by omega) (by omega) h
  refine ⟨?_, (term_ok hok _ _ t 0 (by omega) (by omega) h).2.1, by omega⟩
  apply List.ext_getElem?
  intro i
  by_cases c : i < t.size
  · rw [h2 i c, Nat.zero_add, NJ_eq (by omega), List.getElem?_eq_getElem (by omega)]
  · rw [List.getElem?_eq_none (by omega), List.getElem?_eq_none (by rw [nodes_len]; omega)]
end Ex
end Go.Proofs.YtkelmhkakdeghaaGreatDoor
