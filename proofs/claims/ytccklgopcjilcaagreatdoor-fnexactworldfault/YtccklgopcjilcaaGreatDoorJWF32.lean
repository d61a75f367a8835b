/- Laid together: PlN, KcM. -/
import Derived.Test.YtccklgopcjilcaaGreatDoorJWF31
import Derived.Test.YtccklgopcjilcaaGreatDoorJWF6
/- The list that the tree of a process comes to is the process; how many steps are left when it is made plain. -/
namespace Go.Proofs.YtccklgopcjilcaaGreatDoor
open Go.RowKit
set_option linter.unusedVariables false
namespace Pl
open Ex (hid inR)
open St (StepD)
open Tr (Chain cutTo onPath top nf ElemD cut_no cut_le top_cut)
open Pf
theorem cut_suffix {p : Int} : ∀ (S : List Nat), cutTo p S <:+ S
  | [] => List.suffix_refl _
  | a :: r => by
    unfold cutTo
    split
    · exact List.suffix_refl _
    · exact (cut_suffix r).trans (List.suffix_cons a r)
theorem path_succ (ss : List StepD) (i : Nat) : path ss (i + 1) = i :: cutTo (PJ ss i).parent (path ss i) := rfl
theorem deep_succ (ss : List StepD) (i : Nat) : deepG ss i = (cutTo (PJ ss i).parent (path ss i)).length + 1 := by unfold deepG; rw [path_succ]; simp
/-- Where what is below a step ends. -/
structure End (ss : List StepD) (k e : Nat) : Prop where
  lt : k < e
  le : e ≤ ss.length
  deep : ∀ i, k < i → i < e → deepG ss k < deepG ss i
  stop : e = ss.length ∨ deepG ss e ≤ deepG ss k
theorem end_from (ss : List StepD) (k : Nat) : ∀ (n s : Nat), s + n = ss.length → k < s → (∀ i, k < i → i < s → deepG ss k < deepG ss i) → ∃ e, End ss k e
  | 0, s, h, hs, hd => ⟨s, hs, by omega, hd, .inl (by omega)⟩
  | n + 1, s, h, hs, hd => by
    by_cases h1 : deepG ss k < deepG ss s
    · exact end_from ss k n (s + 1) (by omega) (by omega) (fun i hi hl => by
        by_cases e : i = s
        · rw [e]; exact h1
        · exact hd i hi (by omega))
    · exact ⟨s, hs, by omega, hd, .inr (by omega)⟩
theorem end_is {ss : List StepD} {k : Nat} (hk : k < ss.length) : ∃ e, End ss k e := end_from ss k (ss.length - (k + 1)) (k + 1) (by omega) (by omega) (fun i h1 h2 => by omega)
theorem suf_of {α : Type} {a b l : List α} (h1 : a <:+ l) (h2 : b <:+ l) (h : a.length ≤ b.length) : a <:+ b := by
  rcases List.suffix_or_suffix_of_suffix h1 h2 with h3 | h3
  · exact h3
  · have : b.length = a.length := Nat.le_antisymm h3.length_le h
    rw [h3.eq_of_length this]
    exact List.suffix_refl _
theorem End.suf {ss : List StepD} {k e : Nat} (h : End ss k e) : ∀ (m : Nat), k + 1 + m ≤ e → path ss (k + 1) <:+ path ss (k + 1 + m)
  | 0, _ => List.suffix_refl _
  | m + 1, hm => by
    have h1 := h.suf m (by omega)
    have h2 := h.deep (k + 1 + m) (by omega) (by omega)
    rw [← Nat.add_assoc, path_succ]
    refine (suf_of h1 (cut_suffix (path ss (k + 1 + m))) ?_).trans (List.suffix_cons _ _)
    rw [deep_succ ss (k + 1 + m)] at h2
    have e : deepG ss k = (path ss (k + 1)).length := rfl
    omega
theorem on_path {ss : List StepD} {i : Nat} (hp : pFault ss = 0) (hi : i < ss.length) (h0 : 0 < i) : onPath (PJ ss i).parent (path ss i) = true := by
  have h := of_one (first_all (of_p hp).2.1 hi)
  cases hx : onPath (PJ ss i).parent (path ss i)
  · exact absurd ⟨h0, hx⟩ h.2.2.1
  · rfl
theorem End.par {ss : List StepD} {k e s : Nat} (hp : pFault ss = 0) (h : End ss k e) (h1 : k < s) (h2 : s < e) (h3 : deepG ss s = deepG ss k + 1) : (PJ ss s).parent = (k : Int) := by
  obtain ⟨m, rfl⟩ : ∃ m, s = k + 1 + m := ⟨s - (k + 1), by omega⟩
  have hs := h.suf m (by omega)
  have hn : k + 1 + m < ss.length := Nat.lt_of_lt_of_le h2 h.le
  have hl : (cutTo (PJ ss (k + 1 + m)).parent (path ss (k + 1 + m))).length = (path ss (k + 1)).length := by
    rw [deep_succ ss (k + 1 + m)] at h3
    have e : deepG ss k = (path ss (k + 1)).length := rfl
    omega
  have he := (suf_of hs (cut_suffix (p := (PJ ss (k + 1 + m)).parent) _) (by omega)).eq_of_length hl.symm
  have ht := top_cut (on_path hp hn (by omega))
  rw [← he] at ht
  rw [← ht]
  rfl
theorem kid_path {ss : List StepD} {k s : Nat} (hp : pFault ss = 0) (hk : k < ss.length) (hs : s < ss.length) (h : (PJ ss s).parent = (k : Int)) : k < s ∧ path ss (k + 1) <:+ path ss s := by
  have h1 := par_lt (first_all (of_p hp).2.1 hs)
  have h2 : k < s := by omega
  have w1 := (walked (ss := ss) (i := s) (by omega) (first_to (of_p hp).2.1 (by omega))).chain
  have w2 := (walked (ss := ss) (i := k + 1) hk (first_to (of_p hp).2.1 hk)).chain
  have e := chain_one (Tr.chain_cut (p := (PJ ss s).parent) w1) w2 (by rw [top_cut (on_path hp hs (by omega)), h]; rfl)
  exact ⟨h2, e ▸ cut_suffix _⟩
theorem back {ss : List StepD} {k : Nat} : ∀ (m i : Nat), k < i → path ss (k + 1) <:+ path ss (i + m) → path ss (k + 1) <:+ path ss i
  | 0, i, _, h => h
  | m + 1, i, hi, h => by
    have h1 : path ss (k + 1) <:+ path ss (i + 1) := back m (i + 1) (by omega) (by rw [Nat.add_right_comm]; exact h)
    rw [path_succ ss i] at h1
    rcases List.suffix_cons_iff.1 h1 with h2 | h2
    · rw [path_succ ss k] at h2
      have := (List.cons.inj h2).1
      omega
    · exact h2.trans (cut_suffix _)
theorem kid_between {ss : List StepD} {k s : Nat} (hp : pFault ss = 0) (hk : k < ss.length) (hs : s < ss.length) (h : (PJ ss s).parent = (k : Int)) : ∀ i, k < i → i ≤ s → deepG ss k < deepG ss i := by
  obtain ⟨h1, h2⟩ := kid_path hp hk hs h
  intro i hi hl
  have hm : s ∈ kidsL ss k := by unfold kidsL kidsN; rw [List.mem_filter]; exact ⟨List.mem_range.2 hs, by simp [h]⟩
  by_cases e : i = s
  · rw [e, kid_deep hp hk hm]; omega
  · have h3 : path ss (k + 1) <:+ path ss (i + 1) := back (s - (i + 1)) (i + 1) (by omega) (by rw [show i + 1 + (s - (i + 1)) = s by omega]; exact h2)
    rw [path_succ ss i] at h3
    rcases List.suffix_cons_iff.1 h3 with h4 | h4
    · rw [path_succ ss k] at h4
      have := (List.cons.inj h4).1
      omega
    · rw [deep_succ ss i]
      have := h4.length_le
      have e : deepG ss k = (path ss (k + 1)).length := rfl
      omega
/-! ### the kids from a place on -/
def kf (ss : List StepD) (k s : Nat) : List Nat := (List.range' s (ss.length - s)).filter fun i => (PJ ss i).parent == (k : Int)
theorem kf_zero (ss : List StepD) (k : Nat) : kidsL ss k = kf ss k 0 := by unfold kidsL kidsN kf; rw [List.range_eq_range', Nat.sub_zero]
theorem kf_yes {ss : List StepD} {k s : Nat} (hs : s < ss.length) (h : (PJ ss s).parent = (k : Int)) : kf ss k s = s :: kf ss k (s + 1) := by
  unfold kf
  rw [show ss.length - s = (ss.length - (s + 1)) + 1 by omega, List.range'_succ, List.filter_cons_of_pos (by simp [h])]
theorem kf_no {ss : List StepD} {k s : Nat} (hs : s < ss.length) (h : (PJ ss s).parent ≠ (k : Int)) : kf ss k s = kf ss k (s + 1) := by
  unfold kf
  rw [show ss.length - s = (ss.length - (s + 1)) + 1 by omega, List.range'_succ, List.filter_cons_of_neg (by simp [h])]
theorem kf_skip {ss : List StepD} {k : Nat} : ∀ (m s : Nat), s + m ≤ ss.length → (∀ i, s ≤ i → i < s + m → (PJ ss i).parent ≠ (k : Int)) → kf ss k s = kf ss k (s + m)
  | 0, s, _, _ => rfl
  | m + 1, s, h, hn => by
    rw [kf_no (by omega) (hn s (by omega) (by omega)), kf_skip m (s + 1) (by omega) (fun i h1 h2 => hn i (by omega) (by omega))]
    congr 1
    omega
theorem kf_end (ss : List StepD) (k : Nat) : kf ss k ss.length = [] := by unfold kf; simp
theorem take_snoc {ss : List StepD} {k : Nat} (hk : k < ss.length) : ss.take k ++ [ss[k]] = ss.take (k + 1) := List.take_append_getElem hk
theorem step_same (s : StepD) : ({ s with parent := s.parent } : StepD) = s := rfl
/-- What the tree of a step comes to is what stands from it on, up to its end. -/
theorem flat_gT {ss : List StepD} (g : Nat) (hp : pFault ss = 0) : ∀ (f k e : Nat), k < ss.length → End ss k e → 8 ≤ f + deepG ss k → lst (f + g) (ss.take k) (gT ss f k) (PJ ss k).parent = ss.take e
  | 0, k, e, hk, he, hd => by have := deep_le hp hk; omega
  | f + 1, k, e, hk, he, hd => by
    rw [show f + 1 + g = (f + g) + 1 by omega]
    have hlen : (ss.take k).length = k := by simp; omega
    have e0 : ss.take k ++ [({ (PJ ss k) with parent := (PJ ss k).parent } : StepD)] = ss.take (k + 1) := by
      show ss.take k ++ [PJ ss k] = _
      rw [PJ_eq hk, take_snoc hk]
    have key : ∀ (n s : Nat), e - s = n → k < s → s ≤ e → (s = e ∨ deepG ss s = deepG ss k + 1) → (((kf ss k s).map (gT ss f)).foldl (fun a b => lst (f + g) a b (k : Int)) (ss.take s)) = ss.take e := by
      intro n
      induction n using Nat.strongRecOn with
      | ind n ih =>
        intro s hn hks hse hg
        by_cases hs : s = e
        · subst hs
          have : kf ss k s = [] := by
            rw [kf_skip (ss.length - s) s (by have := he.le; omega) (fun i h1 h2 h3 => ?_), show s + (ss.length - s) = ss.length by have := he.le; omega, kf_end]
            have h4 := kid_between hp hk (show i < ss.length by omega) h3 s hks h1
            rcases he.stop with h5 | h5
            · omega
            · omega
          rw [this]
          rfl
        · have hds : deepG ss s = deepG ss k + 1 := by
            rcases hg with h | h
            · exact absurd h hs
            · exact h
          have hsl : s < ss.length := by have := he.le; omega
          have hpar := he.par hp hks (by omega) hds
          obtain ⟨e', he'⟩ := end_is hsl
          have hle : e' ≤ e := by
            rcases Nat.lt_or_ge e e' with h | h
            · have := he'.deep e (by omega) h
              rcases he.stop with h5 | h5
              · have := he'.le; omega
              · omega
            · exact h
          rw [kf_yes hsl hpar, List.map_cons, List.foldl_cons]
          have h1 := flat_gT g hp f s e' hsl he' (by omega)
          rw [hpar] at h1
          rw [h1]
          have hsk : kf ss k (s + 1) = kf ss k e' := by
            have h2 := kf_skip (ss := ss) (k := k) (e' - (s + 1)) (s + 1) (by have := he'.lt; have := he'.le; omega) (fun i h1 h2 h3 => by
              have h4 := he'.deep i (by omega) (by omega)
              have hil : i < ss.length := by have := he'.le; omega
              have hm : i ∈ kidsL ss k := by unfold kidsL kidsN; rw [List.mem_filter]; exact ⟨List.mem_range.2 hil, by simp [h3]⟩
              have := kid_deep hp hk hm
              omega)
            rw [h2]
            congr 1
            have := he'.lt
            omega
          rw [hsk]
          have hlt' := he'.lt
          refine ih (e - e') (by omega) e' rfl (by omega) hle ?_
          by_cases h6 : e' = e
          · exact .inl h6
          · right
            have h7 := he.deep e' (by omega) (by omega)
            rcases he'.stop with h8 | h8
            · have := he.le; omega
            · omega
    have hk1 : kidsL ss k = kf ss k (k + 1) := by
      have h1 := kf_skip (ss := ss) (k := k) (k + 1) 0 (by omega) (fun i _ h2 h3 => by
        have := (kid_path hp hk (show i < ss.length by omega) h3).1
        omega)
      rw [kf_zero, h1, Nat.zero_add]
    show ((kidsL ss k).map (gT ss f)).foldl (fun a b => lst (f + g) a b ((ss.take k).length : Int)) (ss.take k ++ [{ (PJ ss k) with parent := (PJ ss k).parent }]) = ss.take e
    rw [e0, hlen, hk1]
    have hlt := he.lt
    refine key (e - (k + 1)) (k + 1) rfl (by omega) (by omega) ?_
    by_cases h6 : k + 1 = e
    · exact .inl h6
    · right
      have h7 := he.deep (k + 1) (by omega) (by omega)
      rw [deep_succ ss (k + 1)] at h7 ⊢
      have := cut_le (p := (PJ ss (k + 1)).parent) (S := path ss (k + 1))
      have e : deepG ss k = (path ss (k + 1)).length := rfl
      omega
theorem whole_gT {ss : List StepD} (g : Nat) (hp : pFault ss = 0) : lst (8 + g) [] (gT ss 8 0) (-1) = ss := by
  have hn := of_p hp
  have h0 : 0 < ss.length := by omega
  have hpar : (PJ ss 0).parent = -1 := by
    have := (of_one (first_all hn.2.1 h0)).2.1
    unfold parOk at this
    rw [if_pos rfl] at this
    exact beq_iff_eq.1 this
  have hd0 : deepG ss 0 = 1 := rfl
  have hE : End ss 0 ss.length := by
    obtain ⟨e, he⟩ := end_is h0
    have : e = ss.length := by
      rcases he.stop with h | h
      · exact h
      · by_cases hel : e < ss.length
        · have h1 := top_cut (on_path hp hel he.lt)
          rw [deep_succ ss e] at h
          have h2 : (cutTo (PJ ss e).parent (path ss e)) = [] := List.eq_nil_of_length_eq_zero (by omega)
          rw [h2] at h1
          have := Tr.on_nonneg (on_path hp hel he.lt)
          rw [← h1] at this
          exact absurd this (by decide)
        · have := he.le; omega
    rw [this] at he
    exact he
  have h := flat_gT g hp 8 0 ss.length h0 hE (by omega)
  rw [hpar] at h
  simpa using h
/-! ### how many steps are left -/
theorem cnt_pos (F : Nat) (t : PT) : 1 ≤ cnt (F + 1) t := by rw [cnt]; omega
theorem cnt_gT {ss : List StepD} (hp : pFault ss = 0) : cnt 8 (gT ss 8 0) = ss.length := by
  have h := congrArg List.length (whole_gT 0 hp)
  rw [lst_len] at h
  simpa using h
end Pl
end Go.Proofs.YtccklgopcjilcaaGreatDoor
/- The chart, told plainly: what comes of it where a step is entered, and where one is over. -/
namespace Go.Proofs.YtccklgopcjilcaaGreatDoor
set_option linter.unusedVariables false
namespace Kc
open Ex (inR evalCode evalVal vFault)
open St (StepD)
open Pf
open Pl (deepG)
/-- A chart under way. -/
structure CS where
  status : Int
  now : Int
  vars : List Int
  acts : Nat → Int
  dues : Nat → Int
def upd (f : Nat → Int) (i : Nat) (v : Int) : Nat → Int := fun j => if j = i then v else f j
def zer (f : Nat → Int) (i e : Nat) : Nat → Int := fun j => if i ≤ j ∧ j < e then 0 else f j
def endOf (ss : List StepD) (k : Nat) : Nat := k + (underN ss k).length
def stopped (s : CS) (st : Int) : CS := ⟨st, s.now, s.vars, fun _ => 0, fun _ => 0⟩
def act (s : CS) (k : Nat) (v : Int) : CS := { s with acts := upd s.acts k v }
def due (s : CS) (k : Nat) (v : Int) : CS := { s with dues := upd s.dues k v }
def setV (s : CS) (k : Nat) (v : Int) : CS := { s with vars := s.vars.set k v }
def idle (ss : List StepD) (s : CS) (k : Nat) : CS := { s with acts := zer s.acts k (endOf ss k), dues := zer s.dues k (endOf ss k) }
def pick (ss : List StepD) (vars : List Int) : List Nat → Option Nat
  | [] => none
  | k :: ks => if (PJ ss k).cond.length = 0 then some k else if evalCode (PJ ss k).cond vars ≠ 0 then none else if evalVal (PJ ss k).cond vars = 1 then some k else pick ss vars ks
/-- The one behind k. -/
def aft : List Nat → Nat → Option Nat
  | a :: b :: r, k => if a = k then some b else aft (b :: r) k
  | _, _ => none
def allOver (s : CS) (ks : List Nat) : Bool := ks.all fun k => s.acts k == 2
def kid (ss : List StepD) (k i : Nat) : Nat := (kidsL ss k).getD i 0
/-- What entering a step asks for beside that it is on. -/
def beginG (E O : Nat → CS → CS) (ss : List StepD) (k : Nat) (s : CS) : CS :=
  if (PJ ss k).kind = 1 then E (kid ss k 0) s
  else if (PJ ss k).kind = 3 then (match pick ss s.vars (kidsL ss k) with | some j => E j s | none => stopped s 3)
  else if (PJ ss k).kind = 4 then (kidsL ss k).foldl (fun s j => E j s) s
  else if (PJ ss k).kind = 6 then due s k (s.now + (PJ ss k).arg)
  else if (PJ ss k).kind = 7 then (if evalCode (PJ ss k).expr s.vars = 0 then O k (setV s (PJ ss k).arg.toNat (evalVal (PJ ss k).expr s.vars)) else stopped s 3)
  else if (PJ ss k).kind = 8 then E (kid ss k 0) (due s k (s.now + (PJ ss k).arg))
  else s
/-- What the step above does. -/
def behindG (E O : Nat → CS → CS) (ss : List StepD) (k : Nat) (s : CS) : CS :=
  if (PJ ss k).parent < 0 then stopped s 2
  else if (PJ ss (PJ ss k).parent.toNat).kind = 4 then (if allOver (act s k 2) (kidsL ss (PJ ss k).parent.toNat) = true then O (PJ ss k).parent.toNat (act s k 2) else act s k 2)
  else if (PJ ss (PJ ss k).parent.toNat).kind = 1 then (match aft (kidsL ss (PJ ss k).parent.toNat) k with | some j => E j s | none => O (PJ ss k).parent.toNat s)
  else O (PJ ss k).parent.toNat s
/-- A step entered (false), or over (true). -/
def go (ss : List StepD) : Nat → Bool → Nat → CS → CS
  | 0, _, _, s => s
  | f + 1, false, k, s => if s.status = 1 then beginG (go ss f false) (go ss f true) ss k (act s k 1) else s
  | f + 1, true, k, s => behindG (go ss f false) (go ss f true) ss k (idle ss s k)
theorem go_enter (ss : List StepD) (f k : Nat) (s : CS) : go ss (f + 1) false k s = if s.status = 1 then beginG (go ss f false) (go ss f true) ss k (act s k 1) else s := rfl
theorem go_over (ss : List StepD) (f k : Nat) (s : CS) : go ss (f + 1) true k s = behindG (go ss f false) (go ss f true) ss k (idle ss s k) := rfl
/-! ### places -/
theorem kid_mem {ss : List StepD} {k j : Nat} : j ∈ kidsL ss k ↔ j < ss.length ∧ (PJ ss j).parent = (k : Int) := by
  unfold kidsL kidsN
  rw [List.mem_filter, List.mem_range, beq_iff_eq]
theorem kid_lt {ss : List StepD} {k j : Nat} (hp : pFault ss = 0) (h : j ∈ kidsL ss k) : k < j ∧ j < ss.length := by
  obtain ⟨h1, h2⟩ := kid_mem.1 h
  have := par_lt (first_all (of_p hp).2.1 h1)
  exact ⟨by omega, h1⟩
theorem kids_sorted (ss : List StepD) (k : Nat) : (kidsL ss k).Pairwise (· < ·) := by
  unfold kidsL kidsN
  exact List.Pairwise.filter _ List.pairwise_lt_range
theorem uFrom_end {ss : List StepD} {k : Nat} : ∀ (n i : Nat), i + n = ss.length → k < i → (∀ j, k < j → j < i → deepG ss k < deepG ss j) → Pl.End ss k (i + (uFrom ss k i).length)
  | 0, i, h, hk, hd => by rw [u_end (by omega)]; exact ⟨by simp; omega, by simp; omega, fun j h1 h2 => hd j h1 (by simpa using h2), .inl (by simp; omega)⟩
  | n + 1, i, h, hk, hd => by
    by_cases h1 : dOf ss k < dOf ss i
    · rw [u_step (by omega) h1, List.length_cons]
      have := uFrom_end (ss := ss) (k := k) n (i + 1) (by omega) (by omega) (fun j h2 h3 => by
        by_cases e : j = i
        · rw [e]; exact h1
        · exact hd j h2 (by omega))
      rw [show i + ((uFrom ss k (i + 1)).length + 1) = i + 1 + (uFrom ss k (i + 1)).length by omega]
      exact this
    · rw [u_stop (by omega) h1]
      exact ⟨by simp; omega, by simp; omega, fun j h2 h3 => hd j h2 (by simpa using h3), .inr (by have h4 : deepG ss i ≤ deepG ss k := Nat.not_lt.1 h1; simpa using h4)⟩
theorem end_of {ss : List StepD} {k : Nat} (hk : k < ss.length) : Pl.End ss k (endOf ss k) := by
  have := uFrom_end (ss := ss) (k := k) (ss.length - (k + 1)) (k + 1) (by omega) (by omega) (fun j h1 h2 => by omega)
  unfold endOf underN
  rw [List.length_cons, show k + ((uFrom ss k (k + 1)).length + 1) = k + 1 + (uFrom ss k (k + 1)).length by omega]
  exact this
theorem end_up {ss : List StepD} {k p : Nat} (hp : pFault ss = 0) (h : k ∈ kidsL ss p) : endOf ss k ≤ endOf ss p := by
  obtain ⟨h1, h2⟩ := kid_lt hp h
  have e1 := end_of h2
  have e2 := end_of (ss := ss) (k := p) (by omega)
  have hd := Pl.kid_deep hp (by omega) h
  have hb := Pl.kid_between hp (by omega) h2 (kid_mem.1 h).2
  have hgt : k < endOf ss p := by
    rcases Nat.lt_or_ge k (endOf ss p) with h3 | h3
    · exact h3
    · rcases e2.stop with h4 | h4
      · omega
      · have := hb (endOf ss p) e2.lt h3
        omega
  rcases Nat.lt_or_ge (endOf ss p) (endOf ss k) with h3 | h3
  · have h5 := e1.deep _ hgt h3
    rcases e2.stop with h4 | h4
    · have := e1.le; omega
    · omega
  · exact h3
theorem end_next {ss : List StepD} {k j p : Nat} (hp : pFault ss = 0) (h : k ∈ kidsL ss p) (h2 : j ∈ kidsL ss p) (h3 : k < j) : endOf ss k ≤ j := by
  have a1 := kid_lt hp h
  have d1 := Pl.kid_deep hp (by omega) h
  have d2 := Pl.kid_deep hp (by omega) h2
  rcases Nat.lt_or_ge j (endOf ss k) with h4 | h4
  · have := (end_of a1.2).deep j h3 h4
    omega
  · exact h4
theorem aft_mem : ∀ {l : List Nat} {k j : Nat}, l.Pairwise (· < ·) → aft l k = some j → k ∈ l ∧ j ∈ l ∧ k < j
  | [], k, j, _, h => by simp [aft] at h
  | [a], k, j, _, h => by simp [aft] at h
  | a :: b :: r, k, j, hp, h => by
    rw [aft] at h
    by_cases e : a = k
    · rw [if_pos e] at h
      cases h
      exact ⟨by simp [e], by simp, e ▸ (List.pairwise_cons.1 hp).1 _ (by simp)⟩
    · rw [if_neg e] at h
      obtain ⟨h1, h2, h3⟩ := aft_mem (List.pairwise_cons.1 hp).2 h
      exact ⟨List.mem_cons_of_mem _ h1, List.mem_cons_of_mem _ h2, h3⟩
/-! ### how far it is still -/
def mE (ss : List StepD) (k : Nat) : Nat := 10 * (ss.length - k)
def mO (ss : List StepD) (k : Nat) : Nat := 10 * (ss.length - endOf ss k) + deepG ss k
theorem deep_pos (ss : List StepD) (k : Nat) : 1 ≤ deepG ss k := by unfold deepG; rw [path]; simp
theorem m_kid {ss : List StepD} {k j : Nat} (hp : pFault ss = 0) (h : j ∈ kidsL ss k) : mE ss j < mE ss k := by
  have := kid_lt hp h
  unfold mE
  omega
theorem m_over {ss : List StepD} {k : Nat} (hp : pFault ss = 0) (hk : k < ss.length) : mO ss k < mE ss k := by
  have := Pl.deep_le hp hk
  have h1 := (end_of hk).lt
  have h2 := (end_of hk).le
  unfold mO mE
  omega
theorem m_next {ss : List StepD} {k j p : Nat} (hp : pFault ss = 0) (h : aft (kidsL ss p) k = some j) : mE ss j < mO ss k := by
  obtain ⟨h1, h2, h3⟩ := aft_mem (kids_sorted ss p) h
  have := end_next hp h1 h2 h3
  have := deep_pos ss k
  unfold mE mO
  omega
theorem m_up {ss : List StepD} {k p : Nat} (hp : pFault ss = 0) (h : k ∈ kidsL ss p) : mO ss p < mO ss k := by
  have h1 := end_up hp h
  have h2 := kid_lt hp h
  have h3 := Pl.kid_deep hp (by omega) h
  unfold mO
  omega
theorem up_mem {ss : List StepD} {k : Nat} (hk : k < ss.length) (h : ¬ (PJ ss k).parent < 0) : k ∈ kidsL ss (PJ ss k).parent.toNat := kid_mem.2 ⟨hk, by omega⟩
theorem kid_in {ss : List StepD} {k i : Nat} (h : i < (kidsL ss k).length) : kid ss k i ∈ kidsL ss k := by
  unfold kid
  rw [List.getD_eq_getElem?_getD, List.getElem?_eq_getElem h]
  exact List.getElem_mem h
theorem pick_mem {ss : List StepD} {vars : List Int} : ∀ {l : List Nat} {j : Nat}, pick ss vars l = some j → j ∈ l
  | [], j, h => by simp [pick] at h
  | a :: r, j, h => by
    rw [pick] at h
    by_cases h1 : (PJ ss a).cond.length = 0
    · rw [if_pos h1] at h; cases h; simp
    · rw [if_neg h1] at h
      by_cases h2 : evalCode (PJ ss a).cond vars ≠ 0
      · rw [if_pos h2] at h; cases h
      · rw [if_neg h2] at h
        by_cases h3 : evalVal (PJ ss a).cond vars = 1
        · rw [if_pos h3] at h; cases h; simp
        · rw [if_neg h3] at h
          exact List.mem_cons_of_mem _ (pick_mem h)
/-! ### kinds and kids -/
theorem many {ss : List StepD} {k : Nat} (hp : pFault ss = 0) (hk : k < ss.length) : manyOk (PJ ss k).kind (kidsL ss k).length = true := by
  have h := first_all (of_p hp).2.2.1 hk
  cases hx : manyOk (PJ ss k).kind (kidsL ss k).length
  · rw [link_many hx] at h; cases h
  · rfl
theorem kids_seq {ss : List StepD} {k : Nat} (hp : pFault ss = 0) (hk : k < ss.length) (h : (PJ ss k).kind = 1) : 1 ≤ (kidsL ss k).length := by
  have := many hp hk
  rw [h] at this
  simpa [manyOk] using this
theorem kids_two {ss : List StepD} {k : Nat} (hp : pFault ss = 0) (hk : k < ss.length) (h : (PJ ss k).kind = 3 ∨ (PJ ss k).kind = 4) : 2 ≤ (kidsL ss k).length := by
  have := many hp hk
  rcases h with h | h <;> rw [h] at this <;> simpa [manyOk] using this
theorem kids_guard {ss : List StepD} {k : Nat} (hp : pFault ss = 0) (hk : k < ss.length) (h : (PJ ss k).kind = 8) : (kidsL ss k).length = 2 := by
  have := many hp hk
  rw [h] at this
  simpa [manyOk] using this
/-! ### what stays -/
structure Ok (s : CS) : Prop where
  vars : vFault s.vars = 0
  lo : 0 ≤ s.now
  hi : s.now ≤ 1000000
theorem Ok.stopped {s : CS} (h : Ok s) (st : Int) : Ok (stopped s st) := ⟨h.vars, h.lo, h.hi⟩
theorem Ok.act {s : CS} (h : Ok s) (k : Nat) (v : Int) : Ok (act s k v) := ⟨h.vars, h.lo, h.hi⟩
theorem Ok.due {s : CS} (h : Ok s) (k : Nat) (v : Int) : Ok (due s k v) := ⟨h.vars, h.lo, h.hi⟩
theorem Ok.idle {ss : List StepD} {s : CS} (h : Ok s) (k : Nat) : Ok (idle ss s k) := ⟨h.vars, h.lo, h.hi⟩
theorem eval_in {e : List Nd.NodeD} {vars : List Int} (h : evalCode e vars = 0) : -1000000 ≤ evalVal e vars ∧ evalVal e vars ≤ 1000000 := by
  by_cases ht : Ex.typeCode e = 0
  · by_cases hv : vFault vars = 0
    · cases ho : Ex.evOk e vars
      · rw [(Ex.ev_bad ht hv ho).1] at h; cases h
      · rw [(Ex.ev_ok ht hv ho).2]
        obtain ⟨h0, h16, hok⟩ := Ex.of_e (Ex.of_type ht)
        refine Ex.getD_in (Ex.evs_in hok hv (Nat.le_refl _) (fun j hj => ?_)) (by rw [Ex.evs_len]; omega)
        cases hb : Ex.evBad e vars j
        · rfl
        · rw [Ex.evOk_bad hj hb] at ho; cases ho
    · rw [(Ex.ev_vars ht hv).1] at h; exact absurd h hv
  · rw [(Ex.ev_type ht).1] at h; exact absurd h ht
theorem Ok.setV {s : CS} (h : Ok s) (k : Nat) {v : Int} (hv : -1000000 ≤ v ∧ v ≤ 1000000) : Ok (setV s k v) := by
  refine ⟨?_, h.lo, h.hi⟩
  obtain ⟨h4, hr⟩ := Ex.of_v h.vars
  refine Ex.v_ok (by simp [Kc.setV, h4]) (fun i hi => ?_)
  have hi2 : i < s.vars.length := by simpa [Kc.setV] using hi
  have e : (Kc.setV s k v).vars[i] = if k = i then v else s.vars[i] := List.getElem_set _
  rw [e]
  split
  · exact Ex.inR_iff.2 hv
  · exact hr i hi2
theorem fold_ok {E : Nat → CS → CS} (hE : ∀ j s, Ok s → Ok (E j s)) : ∀ (l : List Nat) (s : CS), Ok s → Ok (l.foldl (fun s j => E j s) s)
  | [], s, h => h
  | a :: r, s, h => fold_ok hE r (E a s) (hE a s h)
theorem begin_ok {E O : Nat → CS → CS} {ss : List StepD} (hE : ∀ j s, Ok s → Ok (E j s)) (hO : ∀ j s, Ok s → Ok (O j s)) (k : Nat) (s : CS) (h : Ok s) : Ok (beginG E O ss k s) := by
  unfold beginG
  split
  · exact hE _ _ h
  · split
    · split
      · exact hE _ _ h
      · exact h.stopped _
    · split
      · exact fold_ok hE _ _ h
      · split
        · exact h.due _ _
        · split
          · split
            · next hc => exact hO _ _ (h.setV _ (eval_in hc))
            · exact h.stopped _
          · split
            · exact hE _ _ (h.due _ _)
            · exact h
theorem behind_ok {E O : Nat → CS → CS} {ss : List StepD} (hE : ∀ j s, Ok s → Ok (E j s)) (hO : ∀ j s, Ok s → Ok (O j s)) (k : Nat) (s : CS) (h : Ok s) : Ok (behindG E O ss k s) := by
  unfold behindG
  split
  · exact h.stopped _
  · split
    · split
      · exact hO _ _ (h.act _ _)
      · exact h.act _ _
    · split
      · split
        · exact hE _ _ h
        · exact hO _ _ h
      · exact hO _ _ h
theorem go_ok (ss : List StepD) : ∀ (f : Nat) (b : Bool) (k : Nat) (s : CS), Ok s → Ok (go ss f b k s)
  | 0, _, _, s, h => h
  | f + 1, false, k, s, h => by
    rw [go_enter]
    split
    · exact begin_ok (fun j s hs => go_ok ss f false j s hs) (fun j s hs => go_ok ss f true j s hs) _ _ (h.act _ _)
    · exact h
  | f + 1, true, k, s, h => by
    rw [go_over]
    exact behind_ok (fun j s hs => go_ok ss f false j s hs) (fun j s hs => go_ok ss f true j s hs) _ _ (h.idle _)
end Kc
end Go.Proofs.YtccklgopcjilcaaGreatDoor
