/- Plain facts, of no program: what the bytes of a value stand for, and that a value is read back from how it is written. -/
import Derived.Test.YtbnpejijfnigaaaDoorEsc2
namespace Go.Proofs.YtbnpejijfnigaaaDoor
set_option linter.unusedVariables false
namespace Un
open Esc
def dig (c : UInt8) : Bool := decide (48 ≤ c.toNat) && decide (c.toNat ≤ 57)
def val (d : List UInt8) : Nat := d.foldl (fun n c => n * 10 + (c.toNat - 48)) 0
theorem val_snoc (d : List UInt8) (c : UInt8) : val (d ++ [c]) = val d * 10 + (c.toNat - 48) := by simp [val]
/-- What stands behind the two signs of a number: the number, and how many bytes the whole takes. -/
def numOf (m : List UInt8) : Option (UInt8 × Nat) :=
  if (m.takeWhile dig).length ≠ 0 ∧ (m.takeWhile dig).length ≤ 3 ∧ m[(m.takeWhile dig).length]? = some 59 ∧ 32 ≤ val (m.takeWhile dig) ∧ val (m.takeWhile dig) ≤ 126 then some ((val (m.takeWhile dig)).toUInt8, (m.takeWhile dig).length + 3) else none
def e0 : List UInt8 := [38, 108, 116, 59]
def e1 : List UInt8 := [38, 103, 116, 59]
def e2 : List UInt8 := [38, 97, 109, 112, 59]
def e3 : List UInt8 := [38, 113, 117, 111, 116, 59]
def e4 : List UInt8 := [38, 97, 112, 111, 115, 59]
def named (l : List UInt8) : Option (UInt8 × Nat) :=
  if e0.isPrefixOf l then some (60, 4) else if e1.isPrefixOf l then some (62, 4) else if e2.isPrefixOf l then some (38, 5) else if e3.isPrefixOf l then some (34, 6) else if e4.isPrefixOf l then some (39, 6) else none
def one (l : List UInt8) : Option (UInt8 × Nat) := match l with
  | [] => none
  | c :: r => if c.toNat = 38 then (if [38, 35].isPrefixOf (c :: r) then numOf (r.drop 1) else named (c :: r)) else if plainB c = true ∧ c.toNat ≠ 60 ∧ c.toNat ≠ 62 ∧ c.toNat ≠ 34 then some (c, 1) else none
theorem numOf_pos {m : List UInt8} {b : UInt8} {n : Nat} (h : numOf m = some (b, n)) : 0 < n ∧ n ≤ m.length + 2 ∧ plainB b = true := by
  unfold numOf at h
  split at h
  · rename_i hc
    obtain ⟨h1, h2, h3, h4, h5⟩ := hc
    simp only [Option.some.injEq, Prod.mk.injEq] at h
    obtain ⟨hb, hn⟩ := h
    have hl := (List.getElem?_eq_some_iff.1 h3).1
    refine ⟨by omega, by omega, ?_⟩
    subst hb
    generalize val (m.takeWhile dig) = v at *
    have hv : v.toUInt8.toNat = v := by simp [Nat.toUInt8]; omega
    unfold plainB
    rw [hv]
    simp [h4, h5]
  · cases h
theorem pre_len {p l : List UInt8} (h : p.isPrefixOf l = true) : p.length ≤ l.length := List.IsPrefix.length_le (List.isPrefixOf_iff_prefix.1 h)
theorem named_pos {l : List UInt8} {b : UInt8} {n : Nat} (h : named l = some (b, n)) : 0 < n ∧ n ≤ l.length ∧ plainB b = true := by
  unfold named at h
  repeat' split at h
  all_goals first
    | (cases h; done)
    | (rename_i hp; have hl := pre_len hp; simp only [Option.some.injEq, Prod.mk.injEq] at h; obtain ⟨hb, hn⟩ := h; subst hb; subst hn; exact ⟨by decide, hl, by decide⟩)
theorem one_pos {l : List UInt8} {b : UInt8} {n : Nat} (h : one l = some (b, n)) : 0 < n ∧ n ≤ l.length ∧ plainB b = true := by
  unfold one at h
  split at h
  · cases h
  · rename_i c r
    split at h
    · split at h
      · rename_i hp
        have h2 := pre_len hp
        have := numOf_pos h
        simp only [List.length_drop, List.length_cons, List.length_nil] at *
        exact ⟨this.1, by omega, this.2.2⟩
      · exact named_pos h
    · split at h
      · rename_i hc
        simp only [Option.some.injEq, Prod.mk.injEq] at h
        obtain ⟨hb, hn⟩ := h
        subst hb; subst hn
        exact ⟨by decide, by simp, hc.1⟩
      · cases h
def readF : Nat → List UInt8 → Option (List UInt8)
  | _, [] => some []
  | 0, _ => none
  | f + 1, c :: r => match one (c :: r) with
    | none => none
    | some (b, n) => (readF f ((c :: r).drop n)).map (b :: ·)
def read (l : List UInt8) : Option (List UInt8) := readF l.length l
theorem readF_more : ∀ (f g : Nat) (l : List UInt8), l.length ≤ f → l.length ≤ g → readF f l = readF g l
  | 0, 0, l, _, _ => rfl
  | 0, g + 1, l, h, _ => by
    obtain rfl : l = [] := List.length_eq_zero_iff.1 (by omega)
    rfl
  | f + 1, 0, l, _, h => by
    obtain rfl : l = [] := List.length_eq_zero_iff.1 (by omega)
    rfl
  | f + 1, g + 1, [], _, _ => rfl
  | f + 1, g + 1, c :: r, h1, h2 => by
    unfold readF
    cases ho : one (c :: r) with
    | none => rfl
    | some p =>
      obtain ⟨b, n⟩ := p
      have hp := one_pos ho
      simp only
      rw [readF_more f g _ (by simp only [List.length_drop, List.length_cons] at *; omega) (by simp only [List.length_drop, List.length_cons] at *; omega)]
theorem read_nil : read [] = some [] := rfl
theorem read_no {l : List UInt8} (h0 : l ≠ []) (h : one l = none) : read l = none := by
  obtain ⟨c, r, rfl⟩ := List.exists_cons_of_ne_nil h0
  simp [read, readF, h]
theorem read_yes {l : List UInt8} {b : UInt8} {n : Nat} (h0 : l ≠ []) (h : one l = some (b, n)) : read l = (read (l.drop n)).map (b :: ·) := by
  obtain ⟨c, r, rfl⟩ := List.exists_cons_of_ne_nil h0
  have hp := one_pos h
  unfold read
  simp only [List.length_cons, readF, h]
  rw [readF_more r.length _ _ (by simp only [List.length_drop, List.length_cons] at *; omega) (Nat.le_refl _)]
/-- What is read is plain. -/
theorem read_plain : ∀ (k : Nat) (l o : List UInt8), l.length ≤ k → read l = some o → plainAll o = true
  | _, [], o, _, h => by rw [read_nil] at h; cases h; rfl
  | 0, c :: r, o, hk, _ => by simp at hk
  | k + 1, c :: r, o, hk, h => by
    cases ho : one (c :: r) with
    | none => rw [read_no (by simp) ho] at h; cases h
    | some p =>
      obtain ⟨b, n⟩ := p
      have hp := one_pos ho
      rw [read_yes (by simp) ho] at h
      obtain ⟨q, hq, rfl⟩ := Option.map_eq_some_iff.1 h
      have := read_plain k _ q (by simp only [List.length_drop, List.length_cons] at *; omega) hq
      unfold plainAll at *
      simp [this, hp.2.2]
/-- No number with a 0 ahead. -/
def noz : List UInt8 → Bool
  | [] => true
  | c :: r => !([38, 35, 48].isPrefixOf (c :: r)) && noz r
theorem noz_drop : ∀ (l : List UInt8) (n : Nat), noz l = true → noz (l.drop n) = true
  | l, 0, h => h
  | [], n + 1, h => h
  | c :: r, n + 1, h => by
    rw [List.drop_succ_cons]
    unfold noz at h
    exact noz_drop r n (by simpa using (Bool.and_eq_true_iff.1 h).2)
theorem noz_app : ∀ (a b : List UInt8), noz a = true → noz b = true → b.head? ≠ some 35 → b.head? ≠ some 48 → noz (a ++ b) = true
  | [], b, _, hb, _, _ => hb
  | c :: r, b, ha, hb, h1, h2 => by
    have ha' := Bool.and_eq_true_iff.1 (show (!([38, 35, 48].isPrefixOf (c :: r)) && noz r) = true from ha)
    have ih := noz_app r b ha'.2 hb h1 h2
    show (!([38, 35, 48].isPrefixOf (c :: (r ++ b))) && noz (r ++ b)) = true
    rw [ih, Bool.and_true]
    have hp := ha'.1
    match r, hp with
    | [], hp =>
      match b, h1 with
      | [], _ => simp [List.isPrefixOf]
      | y :: q, h1 =>
        simp only [List.nil_append, List.isPrefixOf]
        simp only [List.head?_cons, ne_eq, Option.some.injEq] at h1
        have : ((35 : UInt8) == y) = false := beq_eq_false_iff_ne.2 (fun e => h1 e.symm)
        simp [this]
    | [x], hp =>
      match b, h2 with
      | [], _ => simp [List.isPrefixOf]
      | y :: q, h2 =>
        simp only [List.cons_append, List.nil_append, List.isPrefixOf]
        simp only [List.head?_cons, ne_eq, Option.some.injEq] at h2
        have : ((48 : UInt8) == y) = false := beq_eq_false_iff_ne.2 (fun e => h2 e.symm)
        simp [this]
    | x :: y :: q, hp =>
      simpa [List.isPrefixOf] using hp
/-- What a value is written as stands for the value. -/
theorem one_esc (c : UInt8) (r : List UInt8) (hc : plainB c = true) : one (esc c ++ r) = some (c, (esc c).length) := by
  have key : ∀ k : Nat, c.toNat = k → k < 256 → c = k.toUInt8 := fun k hk h => UInt8.toNat_inj.1 (by rw [hk]; simp [Nat.toUInt8]; omega)
  unfold esc
  split
  · rename_i h; rw [key _ h (by decide)]; simp [one, named, e0, List.isPrefixOf]
  split
  · rename_i h; rw [key _ h (by decide)]; simp [one, named, e0, e1, List.isPrefixOf]
  split
  · rename_i h; rw [key _ h (by decide)]; simp [one, named, e0, e1, e2, List.isPrefixOf]
  split
  · rename_i h; rw [key _ h (by decide)]; simp [one, named, e0, e1, e2, e3, List.isPrefixOf]
  · rename_i h1 h2 h3 h4
    simp only [List.cons_append, List.nil_append, one]
    rw [if_neg h3, if_pos ⟨hc, h1, h2, h4⟩]
    rfl
theorem esc_ne (c : UInt8) : esc c ≠ [] := by unfold esc; repeat (first | split | simp)
theorem read_esc : ∀ (l : List UInt8), plainAll l = true → read (escAll l) = some l
  | [], _ => rfl
  | c :: r, h => by
    have h' : plainB c = true ∧ plainAll r = true := by simpa [plainAll] using h
    have e : escAll (c :: r) = esc c ++ escAll r := by simp [escAll]
    rw [e, read_yes (by simp [esc_ne]) (one_esc c _ h'.1), List.drop_left, read_esc r h'.2]
    rfl
theorem noz_esc1 (c : UInt8) (r : List UInt8) (h : noz r = true) : noz (esc c ++ r) = true := by
  unfold esc
  split
  · simp [noz, List.isPrefixOf, h]
  split
  · simp [noz, List.isPrefixOf, h]
  split
  · simp [noz, List.isPrefixOf, h]
  split
  · simp [noz, List.isPrefixOf, h]
  · rename_i h3 _
    have : ((38 : UInt8) == c) = false := beq_eq_false_iff_ne.2 (fun e => h3 (by rw [← e]; rfl))
    simp [noz, List.isPrefixOf, h, this]
theorem noz_esc : ∀ (l : List UInt8), noz (escAll l) = true
  | [] => rfl
  | c :: r => by
    have e : escAll (c :: r) = esc c ++ escAll r := by simp [escAll]
    rw [e]
    exact noz_esc1 c _ (noz_esc r)
theorem esc_signs (c : UInt8) : ∀ x ∈ esc c, x.toNat ≠ 60 ∧ x.toNat ≠ 62 ∧ x.toNat ≠ 34 := by
  unfold esc
  split
  · decide
  split
  · decide
  split
  · decide
  split
  · decide
  · rename_i h1 h2 h3 h4
    intro x hx
    rw [List.mem_singleton.1 hx]
    exact ⟨h1, h2, h4⟩
theorem escAll_signs (l : List UInt8) : ∀ x ∈ escAll l, x.toNat ≠ 60 ∧ x.toNat ≠ 62 ∧ x.toNat ≠ 34 := by
  intro x hx
  obtain ⟨c, _, hc⟩ := List.mem_flatMap.1 hx
  exact esc_signs c x hc
def ucode (l : List UInt8) : Int := if 400 < l.length then 2 else match read l with
  | none => 5
  | some o => if 40 < o.length then 2 else 0
def utext (l : List UInt8) : List UInt8 := if ucode l = 0 then (read l).getD [] else []
def unVal (l : List UInt8) : Value := .agg #[.int .i64 (ucode l), .string ⟨(utext l).toArray⟩]
theorem u_many {l : List UInt8} (h : 400 < l.length) : unVal l = .agg #[.int .i64 2, .string ⟨#[]⟩] := by
  have h1 : ucode l = 2 := by unfold ucode; rw [if_pos h]
  unfold unVal utext; rw [h1]; rfl
theorem u_bad {l : List UInt8} (h : ¬ 400 < l.length) (hr : read l = none) : unVal l = .agg #[.int .i64 5, .string ⟨#[]⟩] := by
  have h1 : ucode l = 5 := by unfold ucode; rw [if_neg h, hr]
  unfold unVal utext; rw [h1]; rfl
theorem u_long {l o : List UInt8} (h : ¬ 400 < l.length) (hr : read l = some o) (ho : 40 < o.length) : unVal l = .agg #[.int .i64 2, .string ⟨#[]⟩] := by
  have h1 : ucode l = 2 := by unfold ucode; rw [if_neg h, hr]; simp only; rw [if_pos ho]
  unfold unVal utext; rw [h1]; rfl
theorem u_ok {l o : List UInt8} (h : ¬ 400 < l.length) (hr : read l = some o) (ho : ¬ 40 < o.length) : unVal l = .agg #[.int .i64 0, .string ⟨o.toArray⟩] := by
  have h1 : ucode l = 0 := by unfold ucode; rw [if_neg h, hr]; simp only; rw [if_neg ho]
  unfold unVal utext; rw [h1, hr]; rfl
theorem u_back {l : List UInt8} (hp : plainAll l = true) (h40 : ¬ 40 < l.length) : unVal (escAll l) = .agg #[.int .i64 0, .string ⟨l.toArray⟩] :=
  u_ok (by have := escAll_len l; omega) (read_esc l hp) h40
theorem u_zero {l : List UInt8} (h : ucode l = 0) : plainAll (utext l) = true ∧ (utext l).length ≤ 40 := by
  have h0 := h
  unfold ucode at h
  split at h
  · cases h
  · split at h
    · cases h
    · rename_i o hr
      split at h
      · cases h
      · rename_i ho
        unfold utext
        rw [if_pos h0, hr]
        exact ⟨read_plain _ _ _ (Nat.le_refl _) hr, by simpa using ho⟩
end Un
end Go.Proofs.YtbnpejijfnigaaaDoor

