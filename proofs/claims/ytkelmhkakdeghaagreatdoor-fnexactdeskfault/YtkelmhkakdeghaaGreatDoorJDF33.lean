/- Laid together: PlM, PlN. -/
import Derived.Test.YtkelmhkakdeghaaGreatDoorJDF6
/- A process made plain, as plain functions: the tree of a step, made plain, and the list that it comes to. -/
namespace Go.Proofs.YtkelmhkakdeghaaGreatDoor
open Go.RowKit
set_option linter.unusedVariables false
namespace Pl
open Ex (hid inR)
open Nd (NodeD)
open St (StepD)
open Tr (Chain cutTo onPath top nf ElemD)
open Pf
/-- A step with what is below it. -/
structure PT where
  s : StepD
  kids : List PT
def gT (ss : List StepD) : Nat → Nat → PT
  | 0, k => ⟨PJ ss k, []⟩
  | f + 1, k => ⟨PJ ss k, (kidsL ss k).map (gT ss f)⟩
def pieceT (b : PT) : List PT := if b.s.kind = 1 then b.kids else [b]
def lineT (l : List PT) : List PT := l.flatMap pieceT
def TJ (l : List PT) (i : Nat) : PT := l[i]?.getD ⟨⟨0, 0, ByteArray.empty, 0, [], []⟩, []⟩
theorem TJ_eq {l : List PT} {i : Nat} (h : i < l.length) : TJ l i = l[i] := by unfold TJ; rw [List.getElem?_eq_getElem h]; rfl
def condT (c : List NodeD) (t : PT) : PT := if 0 < c.length then ⟨{ t.s with cond := c }, t.kids⟩ else t
def wholeT (s : StepD) (l : List PT) : PT := if l.length = 1 then condT s.cond (TJ l 0) else ⟨s, l⟩
def plB (ss : List StepD) : Nat → Nat → PT
  | 0, k => ⟨PJ ss k, []⟩
  | f + 1, k => if (PJ ss k).kind = 1 then wholeT (PJ ss k) (lineT ((kidsL ss k).map (plB ss f))) else ⟨PJ ss k, (kidsL ss k).map (plB ss f)⟩
def lst : Nat → List StepD → PT → Int → List StepD
  | 0, acc, _, _ => acc
  | f + 1, acc, t, par => t.kids.foldl (fun a b => lst f a b (acc.length : Int)) (acc ++ [{ t.s with parent := par }])
def cnt : Nat → PT → Nat
  | 0, _ => 0
  | f + 1, t => 1 + (t.kids.map (cnt f)).sum
theorem line_snoc (l : List PT) (b : PT) : lineT (l ++ [b]) = lineT l ++ pieceT b := by simp [lineT]
theorem lst_len : ∀ (f : Nat) (acc : List StepD) (t : PT) (par : Int), (lst f acc t par).length = acc.length + cnt f t
  | 0, acc, t, par => by simp [lst, cnt]
  | f + 1, acc, t, par => by
    have h : ∀ (ks : List PT) (a : List StepD), (ks.foldl (fun a b => lst f a b (acc.length : Int)) a).length = a.length + (ks.map (cnt f)).sum := by
      intro ks
      induction ks with
      | nil => intro a; simp
      | cons b ks ih => intro a; rw [List.foldl_cons, ih, lst_len f]; simp; omega
    rw [lst, h, cnt]
    simp
    omega
/-- How the list stands when some kids are told. -/
def lstK (f : Nat) (acc : List StepD) (t : PT) (par : Int) (m : Nat) : List StepD := (t.kids.take m).foldl (fun a b => lst f a b (acc.length : Int)) (acc ++ [{ t.s with parent := par }])
theorem lstK_zero (f : Nat) (acc : List StepD) (t : PT) (par : Int) : lstK f acc t par 0 = acc ++ [{ t.s with parent := par }] := by simp [lstK]
theorem lstK_succ (f : Nat) (acc : List StepD) (t : PT) (par : Int) {m : Nat} (h : m < t.kids.length) : lstK f acc t par (m + 1) = lst f (lstK f acc t par m) t.kids[m] (acc.length : Int) := by
  unfold lstK
  rw [List.take_succ_eq_append_getElem h, List.foldl_append]
  rfl
theorem lstK_all (f : Nat) (acc : List StepD) (t : PT) (par : Int) : lstK f acc t par t.kids.length = lst (f + 1) acc t par := by
  unfold lstK
  rw [List.take_length]
  rfl
theorem fold_le (f : Nat) (n : Int) : ∀ (ks : List PT) (a : List StepD), a.length ≤ (ks.foldl (fun a b => lst f a b n) a).length := by
  intro ks
  induction ks with
  | nil => intro a; simp
  | cons b ks ih => intro a; rw [List.foldl_cons]; have := ih (lst f a b n); rw [lst_len] at this; omega
theorem lstK_le (f : Nat) (acc : List StepD) (t : PT) (par : Int) (m : Nat) : (lstK f acc t par m).length ≤ (lst (f + 1) acc t par).length := by
  have e : lst (f + 1) acc t par = (t.kids.drop m).foldl (fun a b => lst f a b (acc.length : Int)) (lstK f acc t par m) := by
    unfold lstK
    rw [← List.foldl_append, List.take_append_drop]
    rfl
  rw [e]
  exact fold_le _ _ _ _
theorem lstK_lst_le (f : Nat) (acc : List StepD) (t : PT) (par : Int) {m : Nat} (h : m < t.kids.length) : (lst f (lstK f acc t par m) t.kids[m] (acc.length : Int)).length ≤ (lst (f + 1) acc t par).length := by
  rw [← lstK_succ f acc t par h]
  exact lstK_le _ _ _ _ _
theorem lstK_pos (f : Nat) (acc : List StepD) (t : PT) (par : Int) (m : Nat) : acc.length < (lstK f acc t par m).length := by
  have h := fold_le f (acc.length : Int) (t.kids.take m) (acc ++ [{ t.s with parent := par }])
  rw [List.length_append, List.length_singleton] at h
  unfold lstK
  omega
/-! ### how much of it there can be -/
def SB : Nat → Nat
  | 0 => 1
  | f + 1 => 1 + 24 * SB f
theorem SB8 : SB 8 ≤ 1000000000000 := by decide
theorem kids_le {ss : List StepD} (hl : ss.length ≤ 24) (k : Nat) : (kidsL ss k).length ≤ 24 := Nat.le_trans (Pf.kidsN_le ss ss.length k) hl
theorem sum_le {α : Type} (g : α → Nat) (b : Nat) : ∀ (l : List α), (∀ x ∈ l, g x ≤ b) → (l.map g).sum ≤ l.length * b
  | [], _ => by simp
  | x :: l, h => by
    have h1 := h x (by simp)
    have h2 := sum_le g b l (fun y hy => h y (by simp [hy]))
    simp only [List.map_cons, List.sum_cons, List.length_cons, Nat.succ_mul]
    omega
theorem mem_sum {α : Type} (g : α → Nat) : ∀ (l : List α) (x : α), x ∈ l → g x ≤ (l.map g).sum
  | [], x, h => by cases h
  | y :: l, x, h => by
    simp only [List.map_cons, List.sum_cons]
    rcases List.mem_cons.1 h with rfl | h
    · omega
    · have := mem_sum g l x h
      omega
theorem line_sum (F b : Nat) : ∀ (l : List PT), (∀ x ∈ l, ∀ F, cnt F x ≤ b) → ((lineT l).map (cnt F)).sum ≤ l.length * b
  | [], _ => by simp [lineT]
  | x :: l, h => by
    have h1 := h x (by simp)
    have h2 := line_sum F b l (fun y hy => h y (by simp [hy]))
    have e : lineT (x :: l) = pieceT x ++ lineT l := by simp [lineT]
    have h3 : ((pieceT x).map (cnt F)).sum ≤ b := by
      unfold pieceT
      by_cases hk : x.s.kind = 1
      · rw [if_pos hk]
        have := h1 (F + 1)
        rw [cnt] at this
        omega
      · rw [if_neg hk]
        simpa using h1 F
    rw [e, List.map_append, List.sum_append, List.length_cons, Nat.succ_mul]
    omega
theorem cnt_cond (F : Nat) (c : List NodeD) (t : PT) : cnt F (condT c t) = cnt F t := by
  unfold condT
  by_cases h : 0 < c.length
  · rw [if_pos h]
    cases F <;> rfl
  · rw [if_neg h]
theorem cnt_plB {ss : List StepD} (hl : ss.length ≤ 24) : ∀ (f k F : Nat), cnt F (plB ss f k) ≤ SB f
  | 0, k, F => by
    cases F
    · simp [cnt, SB]
    · simp [cnt, plB, SB]
  | f + 1, k, 0 => by simp [cnt]
  | f + 1, k, F + 1 => by
    have hk := kids_le hl k
    have hm : ∀ x ∈ (kidsL ss k).map (plB ss f), ∀ F, cnt F x ≤ SB f := by
      intro x hx F
      obtain ⟨j, _, rfl⟩ := List.mem_map.1 hx
      exact cnt_plB hl f j F
    have hb : ((kidsL ss k).map (plB ss f)).length * SB f ≤ 24 * SB f := Nat.mul_le_mul_right _ (by simpa using hk)
    rw [plB]
    by_cases h1 : (PJ ss k).kind = 1
    · rw [if_pos h1]
      have hs := fun F => line_sum F (SB f) _ hm
      unfold wholeT
      by_cases h2 : (lineT ((kidsL ss k).map (plB ss f))).length = 1
      · rw [if_pos h2, cnt_cond, TJ_eq (by omega), SB]
        have h3 := mem_sum (cnt (F + 1)) (lineT ((kidsL ss k).map (plB ss f))) _ (List.getElem_mem (show 0 < _ by omega))
        have := hs (F + 1)
        omega
      · rw [if_neg h2, cnt, SB]
        have := hs F
        simp only
        omega
    · rw [if_neg h1, cnt, SB]
      have := sum_le (cnt F) (SB f) _ (fun x hx => hm x hx F)
      simp only
      omega
/-! ### how deep -/
theorem chain_one {es : List Tr.ElemD} : ∀ {l m : List Nat}, Chain es l → Chain es m → top l = top m → l = m
  | [], [], _, _, _ => rfl
  | [], b :: m, _, _, h => by have : (-1 : Int) = (b : Int) := h; omega
  | a :: l, [], _, _, h => by have : (a : Int) = (-1 : Int) := h; omega
  | a :: l, b :: m, h1, h2, h => by
    have e : a = b := by have : (a : Int) = (b : Int) := h; omega
    subst e
    obtain ⟨⟨e1, x1, y1⟩, _, z1⟩ := h1
    obtain ⟨⟨e2, x2, y2⟩, _, z2⟩ := h2
    have : e1 = e2 := Option.some.inj (x1.symm.trans x2)
    subst this
    rw [chain_one z1 z2 (y1.symm.trans y2)]
theorem kid_mem {ss : List StepD} {k j : Nat} (h : j ∈ kidsL ss k) : j < ss.length ∧ (PJ ss j).parent = (k : Int) := by
  unfold kidsL Pf.kidsN at h
  have := List.mem_filter.1 h
  exact ⟨List.mem_range.1 this.1, by simpa using this.2⟩
def deepG (ss : List StepD) (k : Nat) : Nat := (path ss (k + 1)).length
theorem deep_le {ss : List StepD} {k : Nat} (h : pFault ss = 0) (hk : k < ss.length) : deepG ss k ≤ 7 := (walked (ss := ss) (i := k + 1) hk (first_to (of_p h).2.1 hk)).deep
theorem kid_deep {ss : List StepD} {k j : Nat} (h : pFault ss = 0) (hk : k < ss.length) (hj : j ∈ kidsL ss k) : deepG ss j = deepG ss k + 1 := by
  obtain ⟨hj1, hj2⟩ := kid_mem hj
  have w1 := (walked (ss := ss) (i := j + 1) hj1 (first_to (of_p h).2.1 hj1)).chain
  have w2 := (walked (ss := ss) (i := k + 1) hk (first_to (of_p h).2.1 hk)).chain
  have e : path ss (j + 1) = j :: cutTo (PJ ss j).parent (path ss j) := rfl
  rw [e] at w1
  obtain ⟨⟨e1, x1, y1⟩, _, z1⟩ := w1
  have hp : e1.parent = (k : Int) := by
    rw [← hj2]
    have : (es ss)[j]? = some ⟨ss[j].name, ss[j].parent, []⟩ := by simp [es, hj1]
    rw [x1] at this
    cases this
    rw [PJ_eq hj1]
  have h3 := chain_one z1 w2 (by rw [← y1, hp]; rfl)
  unfold deepG
  rw [e, h3]
  simp
end Pl
end Go.Proofs.YtkelmhkakdeghaaGreatDoor
/- The list that the tree of a process comes to is the process; how many steps are left when it is made plain. -/
namespace Go.Proofs.YtkelmhkakdeghaaGreatDoor
open Go.RowKit
set_option linter.unusedVariables false
namespace Pl
open Ex (hid inR)
open St (StepD)
open Tr (Chain cutTo onPath top nf ElemD cut_no cut_le top_cut)
open Pf
theorem cut_suffix {p : Int} : ∀ (S : List Nat), cutTo p S <:+ S
  | [] => List.suffix_refl _
  | a :: r => by
    unfold cutTo
    split
    · exact List.suffix_refl _
    · exact (cut_suffix r).trans (List.suffix_cons a r)
theorem path_succ (ss : List StepD) (i : Nat) : path ss (i + 1) = i :: cutTo (PJ ss i).parent (path ss i) := rfl
theorem deep_succ (ss : List StepD) (i : Nat) : deepG ss i = (cutTo (PJ ss i).parent (path ss i)).length + 1 := by unfold deepG; rw [path_succ]; simp
/-- Where what is below a step ends. -/
structure End (ss : List StepD) (k e : Nat) : Prop where
  lt : k < e
  le : e ≤ ss.length
  deep : ∀ i, k < i → i < e → deepG ss k < deepG ss i
  stop : e = ss.length ∨ deepG ss e ≤ deepG ss k
theorem end_from (ss : List StepD) (k : Nat) : ∀ (n s : Nat), s + n = ss.length → k < s → (∀ i, k < i → i < s → deepG ss k < deepG ss i) → ∃ e, End ss k e
  | 0, s, h, hs, hd => ⟨s, hs, by omega, hd, .inl (by omega)⟩
  | n + 1, s, h, hs, hd => by
    by_cases h1 : deepG ss k < deepG ss s
    · exact end_from ss k n (s + 1) (by omega) (by omega) (fun i hi hl => by
        by_cases e : i = s
        · rw [e]; exact h1
        · exact hd i hi (by omega))
    · exact ⟨s, hs, by omega, hd, .inr (by omega)⟩
theorem end_is {ss : List StepD} {k : Nat} (hk : k < ss.length) : ∃ e, End ss k e := end_from ss k (ss.length - (k + 1)) (k + 1) (by omega) (by omega) (fun i h1 h2 => by omega)
theorem suf_of {α : Type} {a b l : List α} (h1 : a <:+ l) (h2 : b <:+ l) (h : a.length ≤ b.length) : a <:+ b := by
  rcases List.suffix_or_suffix_of_suffix h1 h2 with h3 | h3
  · exact h3
  · have : b.length = a.length := Nat.le_antisymm h3.length_le h
    rw [h3.eq_of_length this]
    exact List.suffix_refl _
theorem End.suf {ss : List StepD} {k e : Nat} (h : End ss k e) : ∀ (m : Nat), k + 1 + m ≤ e → path ss (k + 1) <:+ path ss (k + 1 + m)
  | 0, _ => List.suffix_refl _
  | m + 1, hm => by
    have h1 := h.suf m (by omega)
    have h2 := h.deep (k + 1 + m) (by omega) (by omega)
    rw [← Nat.add_assoc, path_succ]
    refine (suf_of h1 (cut_suffix (path ss (k + 1 + m))) ?_).trans (List.suffix_cons _ _)
    rw [deep_succ ss (k + 1 + m)] at h2
    have e : deepG ss k = (path ss (k + 1)).length := rfl
    omega
theorem on_path {ss : List StepD} {i : Nat} (hp : pFault ss = 0) (hi : i < ss.length) (h0 : 0 < i) : onPath (PJ ss i).parent (path ss i) = true := by
  have h := of_one (first_all (of_p hp).2.1 hi)
  cases hx : onPath (PJ ss i).parent (path ss i)
  · exact absurd ⟨h0, hx⟩ h.2.2.1
  · rfl
theorem End.par {ss : List StepD} {k e s : Nat} (hp : pFault ss = 0) (h : End ss k e) (h1 : k < s) (h2 : s < e) (h3 : deepG ss s = deepG ss k + 1) : (PJ ss s).parent = (k : Int) := by
  obtain ⟨m, rfl⟩ : ∃ m, s = k + 1 + m := ⟨s - (k + 1), by omega⟩
  have hs := h.suf m (by omega)
  have hn : k + 1 + m < ss.length := Nat.lt_of_lt_of_le h2 h.le
  have hl : (cutTo (PJ ss (k + 1 + m)).parent (path ss (k + 1 + m))).length = (path ss (k + 1)).length := by
    rw [deep_succ ss (k + 1 + m)] at h3
    have e : deepG ss k = (path ss (k + 1)).length := rfl
    omega
  have he := (suf_of hs (cut_suffix (p := (PJ ss (k + 1 + m)).parent) _) (by omega)).eq_of_length hl.symm
  have ht := top_cut (on_path hp hn (by omega))
  rw [← he] at ht
  rw [← ht]
  rfl
theorem kid_path {ss : List StepD} {k s : Nat} (hp : pFault ss = 0) (hk : k < ss.length) (hs : s < ss.length) (h : (PJ ss s).parent = (k : Int)) : k < s ∧ path ss (k + 1) <:+ path ss s := by
  have h1 := par_lt (first_all (of_p hp).2.1 hs)
  have h2 : k < s := by omega
  have w1 := (walked (ss := ss) (i := s) (by omega) (first_to (of_p hp).2.1 (by omega))).chain
  have w2 := (walked (ss := ss) (i := k + 1) hk (first_to (of_p hp).2.1 hk)).chain
  have e := chain_one (Tr.chain_cut (p := (PJ ss s).parent) w1) w2 (by rw [top_cut (on_path hp hs (by omega)), h]; rfl)
  exact ⟨h2, e ▸ cut_suffix _⟩
theorem back {ss : List StepD} {k : Nat} : ∀ (m i : Nat), k < i → path ss (k + 1) <:+ path ss (i + m) → path ss (k + 1) <:+ path ss i
  | 0, i, _, h => h
  | m + 1, i, hi, h => by
    have h1 : path ss (k + 1) <:+ path ss (i + 1) := back m (i + 1) (by omega) (by rw [Nat.add_right_comm]; exact h)
    rw [path_succ ss i] at h1
    rcases List.suffix_cons_iff.1 h1 with h2 | h2
    · rw [path_succ ss k] at h2
      have := (List.cons.inj h2).1
      omega
    · exact h2.trans (cut_suffix _)
theorem kid_between {ss : List StepD} {k s : Nat} (hp : pFault ss = 0) (hk : k < ss.length) (hs : s < ss.length) (h : (PJ ss s).parent = (k : Int)) : ∀ i, k < i → i ≤ s → deepG ss k < deepG ss i := by
  obtain ⟨h1, h2⟩ := kid_path hp hk hs h
  intro i hi hl
  have hm : s ∈ kidsL ss k := by unfold kidsL kidsN; rw [List.mem_filter]; exact ⟨List.mem_range.2 hs, by simp [h]⟩
  by_cases e : i = s
  · rw [e, kid_deep hp hk hm]; omega
  · have h3 : path ss (k + 1) <:+ path ss (i + 1) := back (s - (i + 1)) (i + 1) (by omega) (by rw [show i + 1 + (s - (i + 1)) = s by omega]; exact h2)
    rw [path_succ ss i] at h3
    rcases List.suffix_cons_iff.1 h3 with h4 | h4
    · rw [path_succ ss k] at h4
      have := (List.cons.inj h4).1
      omega
    · rw [deep_succ ss i]
      have := h4.length_le
      have e : deepG ss k = (path ss (k + 1)).length := rfl
      omega
/-! ### the kids from a place on -/
def kf (ss : List StepD) (k s : Nat) : List Nat := (List.range' s (ss.length - s)).filter fun i => (PJ ss i).parent == (k : Int)
theorem kf_zero (ss : List StepD) (k : Nat) : kidsL ss k = kf ss k 0 := by unfold kidsL kidsN kf; rw [List.range_eq_range', Nat.sub_zero]
theorem kf_yes {ss : List StepD} {k s : Nat} (hs : s < ss.length) (h : (PJ ss s).parent = (k : Int)) : kf ss k s = s :: kf ss k (s + 1) := by
  unfold kf
  rw [show ss.length - s = (ss.length - (s + 1)) + 1 by omega, List.range'_succ, List.filter_cons_of_pos (by simp [h])]
theorem kf_no {ss : List StepD} {k s : Nat} (hs : s < ss.length) (h : (PJ ss s).parent ≠ (k : Int)) : kf ss k s = kf ss k (s + 1) := by
  unfold kf
  rw [show ss.length - s = (ss.length - (s + 1)) + 1 by omega, List.range'_succ, List.filter_cons_of_neg (by simp [h])]
theorem kf_skip {ss : List StepD} {k : Nat} : ∀ (m s : Nat), s + m ≤ ss.length → (∀ i, s ≤ i → i < s + m → (PJ ss i).parent ≠ (k : Int)) → kf ss k s = kf ss k (s + m)
  | 0, s, _, _ => rfl
  | m + 1, s, h, hn => by
    rw [kf_no (by omega) (hn s (by omega) (by omega)), kf_skip m (s + 1) (by omega) (fun i h1 h2 => hn i (by omega) (by omega))]
    congr 1
    omega
theorem kf_end (ss : List StepD) (k : Nat) : kf ss k ss.length = [] := by unfold kf; simp
theorem take_snoc {ss : List StepD} {k : Nat} (hk : k < ss.length) : ss.take k ++ [ss[k]] = ss.take (k + 1) := List.take_append_getElem hk
theorem step_same (s : StepD) : ({ s with parent := s.parent } : StepD) = s := rfl
/-- What the tree of a step comes to is what stands from it on, up to its end. -/
theorem flat_gT {ss : List StepD} (g : Nat) (hp : pFault ss = 0) : ∀ (f k e : Nat), k < ss.length → End ss k e → 8 ≤ f + deepG ss k → lst (f + g) (ss.take k) (gT ss f k) (PJ ss k).parent = ss.take e
  | 0, k, e, hk, he, hd => by have := deep_le hp hk; omega
  | f + 1, k, e, hk, he, hd => by
    rw [show f + 1 + g = (f + g) + 1 by omega]
    have hlen : (ss.take k).length = k := by simp; omega
    have e0 : ss.take k ++ [({ (PJ ss k) with parent := (PJ ss k).parent } : StepD)] = ss.take (k + 1) := by
      show ss.take k ++ [PJ ss k] = _
      rw [PJ_eq hk, take_snoc hk]
    have key : ∀ (n s : Nat), e - s = n → k < s → s ≤ e → (s = e ∨ deepG ss s = deepG ss k + 1) → (((kf ss k s).map (gT ss f)).foldl (fun a b => lst (f + g) a b (k : Int)) (ss.take s)) = ss.take e := by
      intro n
      induction n using Nat.strongRecOn with
      | ind n ih =>
        intro s hn hks hse hg
        by_cases hs : s = e
        · subst hs
          have : kf ss k s = [] := by
            rw [kf_skip (ss.length - s) s (by have := he.le; omega) (fun i h1 h2 h3 => ?_), show s + (ss.length - s) = ss.length by have := he.le; omega, kf_end]
            have h4 := kid_between hp hk (show i < ss.length by omega) h3 s hks h1
            rcases he.stop with h5 | h5
            · omega
            · omega
          rw [this]
          rfl
        · have hds : deepG ss s = deepG ss k + 1 := by
            rcases hg with h | h
            · exact absurd h hs
            · exact h
          have hsl : s < ss.length := by have := he.le; omega
          have hpar := he.par hp hks (by omega) hds
          obtain ⟨e', he'⟩ := end_is hsl
          have hle : e' ≤ e := by
            rcases Nat.lt_or_ge e e' with h | h
            · have := he'.deep e (by omega) h
              rcases he.stop with h5 | h5
              · have := he'.le; omega
              · omega
            · exact h
          rw [kf_yes hsl hpar, List.map_cons, List.foldl_cons]
          have h1 := flat_gT g hp f s e' hsl he' (by omega)
          rw [hpar] at h1
          rw [h1]
          have hsk : kf ss k (s + 1) = kf ss k e' := by
            have h2 := kf_skip (ss := ss) (k := k) (e' - (s + 1)) (s + 1) (by have := he'.lt; have := he'.le; omega) (fun i h1 h2 h3 => by
              have h4 := he'.deep i (by omega) (by omega)
              have hil : i < ss.length := by have := he'.le; omega
              have hm : i ∈ kidsL ss k := by unfold kidsL kidsN; rw [List.mem_filter]; exact ⟨List.mem_range.2 hil, by simp [h3]⟩
              have := kid_deep hp hk hm
              omega)
            rw [h2]
            congr 1
            have := he'.lt
            omega
          rw [hsk]
          have hlt' := he'.lt
          refine ih (e - e') (by omega) e' rfl (by omega) hle ?_
          by_cases h6 : e' = e
          · exact .inl h6
          · right
            have h7 := he.deep e' (by omega) (by omega)
            rcases he'.stop with h8 | h8
            · have := he.le; omega
            · omega
    have hk1 : kidsL ss k = kf ss k (k + 1) := by
      have h1 := kf_skip (ss := ss) (k := k) (k + 1) 0 (by omega) (fun i _ h2 h3 => by
        have := (kid_path hp hk (show i < ss.length by omega) h3).1
        omega)
      rw [kf_zero, h1, Nat.zero_add]
    show ((kidsL ss k).map (gT ss f)).foldl (fun a b => lst (f + g) a b ((ss.take k).length : Int)) (ss.take k ++ [{ (PJ ss k) with parent := (PJ ss k).parent }]) = ss.take e
    rw [e0, hlen, hk1]
    have hlt := he.lt
    refine key (e - (k + 1)) (k + 1) rfl (by omega) (by omega) ?_
    by_cases h6 : k + 1 = e
    · exact .inl h6
    · right
      have h7 := he.deep (k + 1) (by omega) (by omega)
      rw [deep_succ ss (k + 1)] at h7 ⊢
      have := cut_le (p := (PJ ss (k + 1)).parent) (S := path ss (k + 1))
      have e : deepG ss k = (path ss (k + 1)).length := rfl
      omega
theorem whole_gT {ss : List StepD} (g : Nat) (hp : pFault ss = 0) : lst (8 + g) [] (gT ss 8 0) (-1) = ss := by
  have hn := of_p hp
  have h0 : 0 < ss.length := by omega
  have hpar : (PJ ss 0).parent = -1 := by
    have := (of_one (first_all hn.2.1 h0)).2.1
    unfold parOk at this
    rw [if_pos rfl] at this
    exact beq_iff_eq.1 this
  have hd0 : deepG ss 0 = 1 := rfl
  have hE : End ss 0 ss.length := by
    obtain ⟨e, he⟩ := end_is h0
    have : e = ss.length := by
      rcases he.stop with h | h
      · exact h
      · by_cases hel : e < ss.length
        · have h1 := top_cut (on_path hp hel he.lt)
          rw [deep_succ ss e] at h
          have h2 : (cutTo (PJ ss e).parent (path ss e)) = [] := List.eq_nil_of_length_eq_zero (by omega)
          rw [h2] at h1
          have := Tr.on_nonneg (on_path hp hel he.lt)
          rw [← h1] at this
          exact absurd this (by decide)
        · have := he.le; omega
    rw [this] at he
    exact he
  have h := flat_gT g hp 8 0 ss.length h0 hE (by omega)
  rw [hpar] at h
  simpa using h
/-! ### how many steps are left -/
theorem cnt_pos (F : Nat) (t : PT) : 1 ≤ cnt (F + 1) t := by rw [cnt]; omega
theorem cnt_gT {ss : List StepD} (hp : pFault ss = 0) : cnt 8 (gT ss 8 0) = ss.length := by
  have h := congrArg List.length (whole_gT 0 hp)
  rw [lst_len] at h
  simpa using h
end Pl
end Go.Proofs.YtkelmhkakdeghaaGreatDoor
