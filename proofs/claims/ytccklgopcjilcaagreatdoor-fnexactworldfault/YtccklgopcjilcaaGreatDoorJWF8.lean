/- Texts of terms, and how they are read: plain facts, of no program. -/
import Derived.Test.YtccklgopcjilcaaGreatDoorJWF7
import Derived.Lib.ItoaNum
namespace Go.Proofs.YtccklgopcjilcaaGreatDoor
open Go.RowKit
set_option linter.unusedVariables false
namespace Ex
open Nd (NodeD)
open Go.Lib (decDigits decDigits_one)
def signOf (k : Int) : UInt8 := if k = 3 then 43 else if k = 4 then 45 else if k = 5 then 42 else if k = 6 then 47 else if k = 7 then 60 else if k = 8 then 61 else 38
def kindOf (b : UInt8) : Option Int := if b = 43 then some 3 else if b = 45 then some 4 else if b = 42 then some 5 else if b = 47 then some 6 else if b = 60 then some 7 else if b = 61 then some 8 else if b = 38 then some 9 else none
def Tm.txt : Tm → List UInt8
  | ⟨[], false, n⟩ => decDigits n.toNat
  | ⟨[], true, n⟩ => 118 :: decDigits n.toNat
  | ⟨[t], _, _⟩ => 33 :: t.txt
  | ⟨l :: r :: _, _, k⟩ => 40 :: (l.txt ++ signOf k :: (r.txt ++ [41]))
def isD (b : UInt8) : Bool := decide (48 ≤ b.toNat) && decide (b.toNat ≤ 57)
def valD (d : List UInt8) : Nat := d.foldl (fun a b => a * 10 + (b.toNat - 48)) 0
def numBad (most : Nat) (d : List UInt8) : Bool := decide (d.length = 0) || decide (most < d.length) || (decide (d.head? = some 48) && decide (1 < d.length))
def num (most : Nat) (l : List UInt8) : Option (Nat × List UInt8) := if numBad most (l.takeWhile isD) = true then none else some (valD (l.takeWhile isD), l.dropWhile isD)
def gp : Nat → List UInt8 → Option (Tm × List UInt8)
  | 0, _ => none
  | f + 1, [] => none
  | f + 1, b :: r =>
    if b = 40 then (gp f r).bind fun p => match p.2 with
        | [] => none
        | s :: r2 => (kindOf s).bind fun k => (gp f r2).bind fun q => match q.2 with
            | [] => none
            | c :: r4 => if c = 41 then some (.pair k p.1 q.1, r4) else none
    else if b = 33 then (gp f r).map fun p => (.not p.1, p.2)
    else if b = 118 then (num 1 r).map fun p => (.var p.1, p.2)
    else (num 4 (b :: r)).map fun p => (.const p.1, p.2)
/-- What is read has these bounds, whatever the variables are. -/
def Tm.near : Tm → Prop
  | ⟨[], false, n⟩ => 0 ≤ n ∧ n ≤ 9999
  | ⟨[], true, n⟩ => 0 ≤ n ∧ n ≤ 9
  | ⟨[t], v, n⟩ => t.near ∧ v = false ∧ n = 0
  | ⟨l :: r :: s, v, k⟩ => (3 ≤ k ∧ k ≤ 9 ∧ l.near ∧ r.near) ∧ v = false ∧ s = []
theorem near_of_ok : ∀ {t : Tm}, t.ok → t.near
  | ⟨[], false, n⟩, h => h
  | ⟨[], true, n⟩, h => ⟨h.1, by have := h.2; omega⟩
  | ⟨[t], v, n⟩, h => ⟨near_of_ok (t := t) h.1, h.2⟩
  | ⟨l :: r :: s, v, k⟩, h => ⟨⟨h.1.1, h.1.2.1, near_of_ok h.1.2.2.1, near_of_ok h.1.2.2.2⟩, h.2⟩
theorem dec_big {n : Nat} (h : ¬ n < 10) : decDigits n = decDigits (n / 10) ++ [UInt8.ofNat (48 + n % 10)] := by rw [decDigits, dif_neg h]
theorem dig_toNat {n : Nat} (h : n < 10) : (UInt8.ofNat (48 + n)).toNat = 48 + n := by
  rw [UInt8.toNat_ofNat']
  omega
theorem dig_of {b : UInt8} (h : isD b = true) : UInt8.ofNat (48 + (b.toNat - 48)) = b := by
  simp only [isD, Bool.and_eq_true, decide_eq_true_eq] at h
  rw [show 48 + (b.toNat - 48) = b.toNat by omega]
  exact UInt8.ofNat_toNat
theorem dec_isD : ∀ (n : Nat), ∀ b ∈ decDigits n, isD b = true := by
  intro n
  induction n using Nat.strongRecOn with
  | _ n ih =>
    by_cases h : n < 10
    · rw [decDigits_one h]
      intro b hb
      obtain rfl := List.mem_singleton.1 hb
      simp only [isD, dig_toNat h, Bool.and_eq_true, decide_eq_true_eq]
      omega
    · rw [dec_big h]
      intro b hb
      rcases List.mem_append.1 hb with hb | hb
      · exact ih _ (by omega) b hb
      · obtain rfl := List.mem_singleton.1 hb
        simp only [isD, dig_toNat (n := n % 10) (by omega), Bool.and_eq_true, decide_eq_true_eq]
        omega
theorem valD_snoc (d : List UInt8) (b : UInt8) : valD (d ++ [b]) = valD d * 10 + (b.toNat - 48) := by simp [valD]
theorem dec_val : ∀ (n : Nat), valD (decDigits n) = n := by
  intro n
  induction n using Nat.strongRecOn with
  | _ n ih =>
    by_cases h : n < 10
    · rw [decDigits_one h]
      simp only [valD, List.foldl_cons, List.foldl_nil, dig_toNat h]
      omega
    · rw [dec_big h, valD_snoc, ih _ (by omega), dig_toNat (by omega)]
      omega
theorem dec_head : ∀ (n : Nat), 0 < n → ∃ b s, decDigits n = b :: s ∧ b ≠ 48 := by
  intro n
  induction n using Nat.strongRecOn with
  | _ n ih =>
    intro hn
    by_cases h : n < 10
    · rw [decDigits_one h]
      refine ⟨_, [], rfl, fun e => ?_⟩
      have := congrArg UInt8.toNat e
      rw [dig_toNat h] at this
      simp at this
      omega
    · obtain ⟨b, s, h1, h2⟩ := ih (n / 10) (by omega) (by omega)
      rw [dec_big h, h1]
      exact ⟨b, s ++ [_], rfl, h2⟩
theorem dec_len : ∀ (m n : Nat), n < 10 ^ (m + 1) → (decDigits n).length ≤ m + 1
  | 0, n, h => by rw [decDigits_one (by simpa using h)]; simp
  | m + 1, n, h => by
    by_cases h1 : n < 10
    · rw [decDigits_one h1]; simp
    · rw [dec_big h1, List.length_append, List.length_singleton]
      have := dec_len m (n / 10) (by rw [Nat.pow_succ] at h; omega)
      omega
theorem dec_cons (n : Nat) : ∃ b s, decDigits n = b :: s := by
  by_cases h : n = 0
  · exact ⟨_, [], by rw [decDigits_one (by omega)]⟩
  · obtain ⟨b, s, h1, _⟩ := dec_head n (by omega)
    exact ⟨b, s, h1⟩
/-- Digits without a 0 ahead are those of their number. -/
theorem dec_of : ∀ (m : Nat) (d : List UInt8), d.length = m → (∀ b ∈ d, isD b = true) → d ≠ [] → ¬ (d.head? = some 48 ∧ 1 < d.length) → decDigits (valD d) = d ∧ (d.head? ≠ some 48 → 0 < valD d)
  | 0, d, hl, hd, h0, hh => absurd (List.eq_nil_of_length_eq_zero hl) h0
  | m + 1, d, hl, hd, h0, hh => by
    obtain ⟨d', b, rfl⟩ : ∃ d' b, d = d' ++ [b] := ⟨d.dropLast, d.getLast h0, (List.dropLast_concat_getLast h0).symm⟩
    have hb := hd b (by simp)
    have hb2 := hb
    simp only [isD, Bool.and_eq_true, decide_eq_true_eq] at hb2
    rw [valD_snoc]
    by_cases e : d' = []
    · subst e
      simp only [List.nil_append, valD, List.foldl_nil, Nat.zero_mul, Nat.zero_add]
      refine ⟨by rw [decDigits_one (by omega), dig_of hb], fun h => ?_⟩
      have : b.toNat ≠ 48 := fun e => h (by
        have : b = 48 := UInt8.toNat_inj.1 e
        rw [this]; rfl)
      omega
    · obtain ⟨c, s, rfl⟩ : ∃ c s, d' = c :: s := by cases d' with | nil => exact absurd rfl e | cons c s => exact ⟨c, s, rfl⟩
      have hc : c ≠ 48 := fun ec => hh ⟨by rw [ec]; rfl, by simp⟩
      have ih := dec_of m (c :: s) (by simpa using hl) (fun x hx => hd x (List.mem_append_left _ hx)) (by simp) (fun h => hc (by simpa using h.1))
      have hp := ih.2 (by simpa using hc)
      have hbig : ¬ valD (c :: s) * 10 + (b.toNat - 48) < 10 := by omega
      refine ⟨?_, fun _ => by omega⟩
      rw [dec_big hbig, show (valD (c :: s) * 10 + (b.toNat - 48)) / 10 = valD (c :: s) by omega, ih.1, show (valD (c :: s) * 10 + (b.toNat - 48)) % 10 = b.toNat - 48 by omega, dig_of hb]
theorem valD_lt : ∀ (m : Nat) (d : List UInt8), d.length = m → (∀ b ∈ d, isD b = true) → valD d < 10 ^ m
  | 0, d, hl, hd => by obtain rfl := List.eq_nil_of_length_eq_zero hl; simp [valD]
  | m + 1, d, hl, hd => by
    have h0 : d ≠ [] := by rintro rfl; simp at hl
    obtain ⟨d', b, rfl⟩ : ∃ d' b, d = d' ++ [b] := ⟨d.dropLast, d.getLast h0, (List.dropLast_concat_getLast h0).symm⟩
    have hb := hd b (by simp)
    simp only [isD, Bool.and_eq_true, decide_eq_true_eq] at hb
    have ih := valD_lt m d' (by simpa using hl) (fun x hx => hd x (List.mem_append_left _ hx))
    rw [valD_snoc, Nat.pow_succ]
    omega
theorem tw_all (l : List UInt8) : ∀ b ∈ l.takeWhile isD, isD b = true := by
  intro b hb
  induction l with
  | nil => simp at hb
  | cons c l ih =>
    rw [List.takeWhile_cons] at hb
    split at hb
    · rcases List.mem_cons.1 hb with rfl | hb
      · assumption
      · exact ih hb
    · simp at hb
theorem num_some {most n : Nat} {l r : List UInt8} (h : num most l = some (n, r)) : l = decDigits n ++ r ∧ n < 10 ^ most := by
  unfold num at h
  by_cases c : numBad most (l.takeWhile isD) = true
  · rw [if_pos c] at h; cases h
  · rw [if_neg c] at h
    simp only [Option.some.injEq, Prod.mk.injEq] at h
    obtain ⟨rfl, rfl⟩ := h
    simp only [numBad, Bool.or_eq_true, Bool.and_eq_true, decide_eq_true_eq, not_or] at c
    have h1 := dec_of _ (l.takeWhile isD) rfl (tw_all l) (fun e => c.1.1 (by rw [e]; rfl)) c.2
    refine ⟨by rw [h1.1, List.takeWhile_append_dropWhile], ?_⟩
    exact Nat.lt_of_lt_of_le (valD_lt _ _ rfl (tw_all l)) (Nat.pow_le_pow_right (by omega) (by omega))
def stops (r : List UInt8) : Prop := ∀ b s, r = b :: s → isD b = false
theorem tw_append {d r : List UInt8} (hd : ∀ b ∈ d, isD b = true) (hr : stops r) : (d ++ r).takeWhile isD = d ∧ (d ++ r).dropWhile isD = r := by
  induction d with
  | nil =>
    cases r with
    | nil => exact ⟨rfl, rfl⟩
    | cons b s => simp [hr b s rfl]
  | cons c d ih =>
    have hc := hd c (by simp)
    have := ih (fun b hb => hd b (List.mem_cons_of_mem _ hb))
    simp [hc, this.1, this.2]
theorem num_dec {m n : Nat} {r : List UInt8} (h : n < 10 ^ (m + 1)) (hr : stops r) : num (m + 1) (decDigits n ++ r) = some (n, r) := by
  unfold num
  obtain ⟨e1, e2⟩ := tw_append (dec_isD n) hr
  rw [e1, e2, dec_val, if_neg]
  simp only [numBad, Bool.or_eq_true, Bool.and_eq_true, decide_eq_true_eq, not_or]
  have hl := dec_len m n h
  obtain ⟨b, s, hb⟩ := dec_cons n
  refine ⟨⟨by rw [hb]; simp, by omega⟩, fun hh => ?_⟩
  by_cases h0 : n = 0
  · subst h0; rw [decDigits_one (by omega)] at hh; simp at hh
  · obtain ⟨b, s, h1, h2⟩ := dec_head n (by omega)
    rw [h1] at hh
    exact h2 (by simpa using hh.1)
theorem kind_in {b : UInt8} {k : Int} (h : kindOf b = some k) : 3 ≤ k ∧ k ≤ 9 ∧ signOf k = b := by
  unfold kindOf at h
  repeat' split at h
  all_goals first | (cases h; rename_i e; subst e; decide) | cases h
theorem kind_sign {k : Int} (h1 : 3 ≤ k) (h2 : k ≤ 9) : kindOf (signOf k) = some k := by
  have : k = 3 ∨ k = 4 ∨ k = 5 ∨ k = 6 ∨ k = 7 ∨ k = 8 ∨ k = 9 := by omega
  rcases this with rfl | rfl | rfl | rfl | rfl | rfl | rfl <;> decide
theorem gp_txt : ∀ (f : Nat) (l : List UInt8) (t : Tm) (r : List UInt8), gp f l = some (t, r) → l = t.txt ++ r ∧ t.near
  | 0, l, t, r, h => by rw [gp] at h; cases h
  | f + 1, [], t, r, h => by rw [gp] at h; cases h
  | f + 1, b :: l, t, r, h => by
    rw [gp] at h
    by_cases c1 : b = 40
    · rw [if_pos c1] at h
      cases h1 : gp f l with
      | none => rw [h1] at h; cases h
      | some p =>
        obtain ⟨a, r1⟩ := p
        rw [h1, Option.bind_some] at h
        cases r1 with
        | nil => cases h
        | cons s r2 =>
          simp only at h
          cases h2 : kindOf s with
          | none => rw [h2] at h; cases h
          | some k =>
            rw [h2, Option.bind_some] at h
            cases h3 : gp f r2 with
            | none => rw [h3] at h; cases h
            | some q =>
              obtain ⟨c, r3⟩ := q
              rw [h3, Option.bind_some] at h
              cases r3 with
              | nil => cases h
              | cons x r4 =>
                simp only at h
                by_cases c2 : x = 41
                · rw [if_pos c2] at h
                  simp only [Option.some.injEq, Prod.mk.injEq] at h
                  obtain ⟨rfl, rfl⟩ := h
                  obtain ⟨g1, g2⟩ := gp_txt f _ _ _ h1
                  obtain ⟨g3, g4⟩ := gp_txt f _ _ _ h3
                  obtain ⟨k1, k2, k3⟩ := kind_in h2
                  refine ⟨?_, ⟨k1, k2, g2, g4⟩, rfl, rfl⟩
                  subst c1 c2
                  rw [g1, g3, ← k3]
                  simp [Tm.txt]
                · rw [if_neg c2] at h; cases h
    · rw [if_neg c1] at h
      by_cases c2 : b = 33
      · rw [if_pos c2] at h
        cases h1 : gp f l with
        | none => rw [h1] at h; cases h
        | some p =>
          obtain ⟨a, r1⟩ := p
          rw [h1] at h
          simp only [Option.map_some, Option.some.injEq, Prod.mk.injEq] at h
          obtain ⟨rfl, rfl⟩ := h
          obtain ⟨g1, g2⟩ := gp_txt f _ _ _ h1
          exact ⟨by rw [c2, g1]; rfl, g2, rfl, rfl⟩
      · rw [if_neg c2] at h
        by_cases c3 : b = 118
        · rw [if_pos c3] at h
          cases h1 : num 1 l with
          | none => rw [h1] at h; cases h
          | some p =>
            obtain ⟨n, r1⟩ := p
            rw [h1] at h
            simp only [Option.map_some, Option.some.injEq, Prod.mk.injEq] at h
            obtain ⟨rfl, rfl⟩ := h
            obtain ⟨g1, g2⟩ := num_some h1
            exact ⟨by rw [c3, g1]; simp [Tm.txt], by simp only [Tm.near]; omega⟩
        · rw [if_neg c3] at h
          cases h1 : num 4 (b :: l) with
          | none => rw [h1] at h; cases h
          | some p =>
            obtain ⟨n, r1⟩ := p
            rw [h1] at h
            simp only [Option.map_some, Option.some.injEq, Prod.mk.injEq] at h
            obtain ⟨rfl, rfl⟩ := h
            obtain ⟨g1, g2⟩ := num_some h1
            exact ⟨by rw [g1]; simp [Tm.txt], by simp only [Tm.near]; omega⟩
theorem stops_cons {b : UInt8} {s : List UInt8} (h : isD b = false) : stops (b :: s) := by
  intro c r e
  cases e
  exact h
theorem sign_isD {k : Int} (h1 : 3 ≤ k) (h2 : k ≤ 9) : isD (signOf k) = false := by
  have : k = 3 ∨ k = 4 ∨ k = 5 ∨ k = 6 ∨ k = 7 ∨ k = 8 ∨ k = 9 := by omega
  rcases this with rfl | rfl | rfl | rfl | rfl | rfl | rfl <;> decide
/-- A term is read back from its text. -/
theorem txt_gp : ∀ (t : Tm) (r : List UInt8) (f : Nat), t.near → stops r → t.txt.length ≤ f → gp f (t.txt ++ r) = some (t, r)
  | ⟨[], false, n⟩, r, f, h, hr, hf => by
    obtain ⟨b, s, hb⟩ := dec_cons n.toNat
    have hd := dec_isD n.toNat b (by rw [hb]; simp)
    obtain ⟨f, rfl⟩ : ∃ g, f = g + 1 := ⟨f - 1, by simp only [Tm.txt, hb, List.length_cons] at hf; omega⟩
    have hn := num_dec (m := 3) (n := n.toNat) (r := r) (by have := h.2; simp only [Tm.near] at h; omega) hr
    simp only [Tm.txt]
    rw [hb, List.cons_append, gp, if_neg (by rintro rfl; revert hd; decide), if_neg (by rintro rfl; revert hd; decide), if_neg (by rintro rfl; revert hd; decide), ← List.cons_append, ← hb, hn]
    simp only [Option.map_some]
    rw [Int.toNat_of_nonneg h.1]
  | ⟨[], true, n⟩, r, f, h, hr, hf => by
    obtain ⟨f, rfl⟩ : ∃ g, f = g + 1 := ⟨f - 1, by simp only [Tm.txt, List.length_cons] at hf; omega⟩
    have hn := num_dec (m := 0) (n := n.toNat) (r := r) (by have := h.2; simp only [Tm.near] at h; omega) hr
    simp only [Tm.txt, List.cons_append]
    rw [gp, if_neg (by decide), if_neg (by decide), if_pos rfl, hn]
    simp only [Option.map_some]
    rw [Int.toNat_of_nonneg h.1]
  | ⟨[t], _, _⟩, r, f, h, hr, hf => by
    obtain ⟨h, rfl, rfl⟩ := h
    obtain ⟨f, rfl⟩ : ∃ g, f = g + 1 := ⟨f - 1, by simp only [Tm.txt, List.length_cons] at hf; omega⟩
    simp only [Tm.txt, List.length_cons] at hf
    simp only [Tm.txt, List.cons_append]
    rw [gp, if_neg (by decide), if_pos rfl, txt_gp t r f h hr (by omega)]
    rfl
  | ⟨a :: c :: _, _, k⟩, r, f, h, hr, hf => by
    obtain ⟨h, rfl, rfl⟩ := h
    obtain ⟨f, rfl⟩ : ∃ g, f = g + 1 := ⟨f - 1, by simp only [Tm.txt, List.length_cons] at hf; omega⟩
    simp only [Tm.txt, List.length_cons, List.length_append, List.length_nil] at hf
    simp only [Tm.txt, List.cons_append, List.append_assoc, List.nil_append]
    rw [gp, if_pos rfl, txt_gp a _ f h.2.2.1 (stops_cons (sign_isD h.1 h.2.1)) (by omega), Option.bind_some]
    simp only
    rw [kind_sign h.1 h.2.1, Option.bind_some, txt_gp c _ f h.2.2.2 (stops_cons (by decide)) (by omega), Option.bind_some]
    simp only
    rw [if_pos trivial]
theorem txt_len : ∀ (t : Tm), t.near → t.txt.length ≤ 4 * t.size
  | ⟨[], false, n⟩, h => by
    have := dec_len 3 n.toNat (by have := h.2; simp only [Tm.near] at h; omega)
    simp only [Tm.txt, Tm.size]; omega
  | ⟨[], true, n⟩, h => by
    have := dec_len 0 n.toNat (by have := h.2; simp only [Tm.near] at h; omega)
    simp only [Tm.txt, Tm.size, List.length_cons]; omega
  | ⟨[t], _, _⟩, h => by
    obtain ⟨h, rfl, rfl⟩ := h
    have := txt_len t h
    simp only [Tm.txt, Tm.size, List.length_cons]; omega
  | ⟨a :: c :: _, _, k⟩, h => by
    obtain ⟨h, rfl, rfl⟩ := h
    have h1 := txt_len a h.2.2.1
    have h2 := txt_len c h.2.2.2
    simp only [Tm.txt, Tm.size, List.length_cons, List.length_append, List.length_nil]; omega
/-- The nodes of a term, read as a term. -/
theorem nodes_term {ns : List NodeD} : ∀ (t : Tm) (a f : Nat), t.near → t.size ≤ f → (∀ i, i < t.size → some (NJ ns (a + i)) = (t.nodes a)[i]?) → termF ns f (a + t.size - 1) = some (t, a)
  | ⟨[], false, n⟩, a, f, h, hf, hi => by
    obtain ⟨f, rfl⟩ : ∃ g, f = g + 1 := ⟨f - 1, by simp only [Tm.size] at hf; omega⟩
    have h0 := hi 0 (by simp [Tm.size])
    simp only [Tm.nodes, List.getElem?_cons_zero, Nat.add_zero, Option.some.injEq] at h0
    simp only [Tm.size, Nat.add_sub_cancel]
    rw [t_const (by rw [h0]), h0]
  | ⟨[], true, n⟩, a, f, h, hf, hi => by
    obtain ⟨f, rfl⟩ : ∃ g, f = g + 1 := ⟨f - 1, by simp only [Tm.size] at hf; omega⟩
    have h0 := hi 0 (by simp [Tm.size])
    simp only [Tm.nodes, List.getElem?_cons_zero, Nat.add_zero, Option.some.injEq] at h0
    simp only [Tm.size, Nat.add_sub_cancel]
    rw [t_var (by rw [h0]), h0]
  | ⟨[t], _, _⟩, a, f, h, hf, hi => by
    obtain ⟨h, rfl, rfl⟩ := h
    simp only [Tm.size] at hf
    obtain ⟨f, rfl⟩ : ∃ g, f = g + 1 := ⟨f - 1, by omega⟩
    have hs := size_pos t
    have h0 := hi t.size (by simp [Tm.size])
    simp only [Tm.nodes] at h0
    rw [List.getElem?_append_right (by rw [nodes_len]; exact Nat.le_refl _), nodes_len, Nat.sub_self, List.getElem?_cons_zero, Option.some.injEq] at h0
    simp only [Tm.size]
    rw [show a + (t.size + 1) - 1 = a + t.size by omega, t_not (by rw [h0]) (by rw [h0]; simp only; omega), nodes_term t a f h (by omega) (fun i hi2 => by
      have := hi i (by simp only [Tm.size]; omega)
      simp only [Tm.nodes] at this
      rwa [List.getElem?_append_left (by rw [nodes_len]; exact hi2)] at this)]
    rfl
  | ⟨l :: r :: _, _, k⟩, a, f, h, hf, hi => by
    obtain ⟨h, rfl, rfl⟩ := h
    simp only [Tm.size] at hf
    obtain ⟨f, rfl⟩ : ∃ g, f = g + 1 := ⟨f - 1, by omega⟩
    have hs := size_pos l
    have hs2 := size_pos r
    have h0 := hi (l.size + r.size) (by simp [Tm.size])
    simp only [Tm.nodes] at h0
    rw [List.getElem?_append_right (by rw [List.length_append, nodes_len, nodes_len]; exact Nat.le_refl _), List.length_append, nodes_len, nodes_len, Nat.sub_self, List.getElem?_cons_zero, Option.some.injEq] at h0
    simp only [Tm.size]
    have hr := nodes_term r (a + l.size) f h.2.2.2 (by omega) (fun i hi2 => by
      have := hi (l.size + i) (by simp only [Tm.size]; omega)
      simp only [Tm.nodes] at this
      rwa [List.getElem?_append_left (by rw [List.length_append, nodes_len, nodes_len]; omega), List.getElem?_append_right (by rw [nodes_len]; omega), nodes_len, show l.size + i - l.size = i by omega, ← Nat.add_assoc] at this)
    have hl := nodes_term l a f h.2.2.1 (by omega) (fun i hi2 => by
      have := hi i (by simp only [Tm.size]; omega)
      simp only [Tm.nodes] at this
      rwa [List.append_assoc, List.getElem?_append_left (by rw [nodes_len]; exact hi2)] at this)
    rw [show a + (l.size + r.size + 1) - 1 = a + (l.size + r.size) by omega, t_pair (by rw [h0]; exact ⟨h.1, h.2.1⟩) (by rw [h0]; simp only; omega), show a + (l.size + r.size) - 1 = a + l.size + r.size - 1 by omega, hr, Option.bind_some]
    simp only
    rw [if_pos (by rw [h0]; simp only; omega), hl, h0]
    rfl
theorem NJ_get {ns : List NodeD} {i : Nat} (h : i < ns.length) : some (NJ ns i) = ns[i]? := by rw [NJ_eq h, List.getElem?_eq_getElem h]
theorem top_self {t : Tm} (h : t.near) : topF (t.nodes 0) = some (t, 0) := by
  have := nodes_term (ns := t.nodes 0) t 0 t.size h (Nat.le_refl _) (fun i hi => by rw [Nat.zero_add]; exact NJ_get (by rw [nodes_len]; exact hi))
  unfold topF
  rw [nodes_len]
  simpa using this
theorem nodes_code : ∀ (t : Tm) (a : Nat), t.ok → ∀ i (h : i < (t.nodes a).length), nCode (t.nodes a)[i] ((a + i : Nat) : Int) = 0
  | ⟨[], false, n⟩, a, h, i, hi => by
    simp only [Tm.nodes, List.length_singleton] at hi
    obtain rfl : i = 0 := by omega
    simp only [Tm.nodes, List.getElem_cons_zero]
    exact n_ok (inR_iff.2 (by simp)) (by simp [has]) (by simp [wide, inR_iff.2 h]) (by simp [far, leaf_two])
  | ⟨[], true, n⟩, a, h, i, hi => by
    simp only [Tm.nodes, List.length_singleton] at hi
    obtain rfl : i = 0 := by omega
    simp only [Tm.nodes, List.getElem_cons_zero]
    exact n_ok (inR_iff.2 (by simp)) (by simp [has]) (by simp [wide, inR_iff.2 h]) (by simp [far, leaf_two])
  | ⟨[t], _, _⟩, a, h, i, hi => by
    obtain ⟨h, rfl, rfl⟩ := h
    have hs := size_pos t
    simp only [Tm.nodes, List.length_append, nodes_len, List.length_singleton] at hi
    simp only [Tm.nodes]
    by_cases c : i < t.size
    · rw [List.getElem_append_left (by rw [nodes_len]; exact c)]
      exact nodes_code t a h i _
    · obtain rfl : i = t.size := by omega
      rw [List.getElem_append_right (by rw [nodes_len]; exact Nat.le_refl _)]
      simp only [nodes_len, Nat.sub_self, List.getElem_cons_zero]
      refine n_ok (inR_iff.2 (by simp)) (by simp [has]) (by simp [wide]) ?_
      simp only [far, not_two10, Bool.false_and, Bool.or_false, Bool.and_eq_false_iff, Bool.not_eq_false']
      exact .inr (inR_iff.2 (by omega))
  | ⟨l :: r :: _, _, k⟩, a, h, i, hi => by
    obtain ⟨h, rfl, rfl⟩ := h
    have hs := size_pos l
    have hs2 := size_pos r
    simp only [Tm.nodes, List.length_append, nodes_len, List.length_singleton] at hi
    simp only [Tm.nodes]
    by_cases c : i < l.size
    · simp only [List.append_assoc]
      rw [List.getElem_append_left (by rw [nodes_len]; exact c)]
      exact nodes_code l a h.2.2.1 i _
    · by_cases c2 : i < l.size + r.size
      · rw [List.getElem_append_left (by rw [List.length_append, nodes_len, nodes_len]; exact c2), List.getElem_append_right (by rw [nodes_len]; omega)]
        have := nodes_code r (a + l.size) h.2.2.2 (i - l.size) (by rw [nodes_len]; omega)
        simp only [nodes_len]
        rwa [show a + l.size + (i - l.size) = a + i by omega] at this
      · obtain rfl : i = l.size + r.size := by omega
        rw [List.getElem_append_right (by rw [List.length_append, nodes_len, nodes_len]; exact Nat.le_refl _)]
        simp only [List.length_append, nodes_len, Nat.sub_self, List.getElem_cons_zero]
        have hk := h.1
        have hk2 := h.2.1
        refine n_ok (inR_iff.2 (by simp only; omega)) ?_ ?_ ?_
        · have e1 : decide (k ≤ 2) = false := by simp; omega
          have e2 : (k == 10) = false := by simp; omega
          simp [has, e1, e2]
        · have e1 : (k == 1) = false := by simp; omega
          have e2 : (k == 2) = false := by simp; omega
          simp [wide, e1, e2]
        · simp only [far, Bool.or_eq_false_iff, Bool.and_eq_false_iff, Bool.not_eq_false']
          exact ⟨.inr (inR_iff.2 (by omega)), .inr (inR_iff.2 (by omega))⟩
theorem code_of {ns : List NodeD} : ∀ {n : Nat}, n ≤ ns.length → (∀ k, k < n → nCode (NJ ns k) k = 0) → eCodeTo ns n = 0
  | 0, _, _ => rfl
  | n + 1, hn, h => by rw [eCodeTo, if_neg (by simp [code_of (n := n) (by omega) (fun k hk => h k (by omega))])]; exact h n (by omega)
/-- The nodes of a term have no fault just if the numbers in it have their bounds and there are not too many. -/
theorem e_nodes {t : Tm} (h : t.near) : eFault (t.nodes 0) = 0 ↔ t.ok ∧ t.size ≤ 16 := by
  constructor
  · intro he
    obtain ⟨h0, h16, hok⟩ := of_e he
    obtain ⟨t', ht⟩ := top_of_e he
    rw [top_self h] at ht
    cases ht
    exact ⟨(top_nodes he (top_self h)).2.1, by rw [nodes_len] at h16; exact h16⟩
  · rintro ⟨h1, h2⟩
    have hp := size_pos t
    refine e_of_top (t := t) (by rw [nodes_len]; omega) (code_of (Nat.le_refl _) (fun k hk => ?_)) (top_self h)
    have := nodes_code t 0 h1 k hk
    rw [Nat.zero_add] at this
    rwa [NJ_eq hk]
end Ex
end Go.Proofs.YtccklgopcjilcaaGreatDoor
