/- Laid together: PlM, PlN, KcM, KuA, PqC. -/
import Derived.Test.YtnbmpofmieagfaaGreatDoorJFnProcs15
import Derived.Test.YtnbmpofmieagfaaGreatDoorJFnProcs8
import Derived.Test.YtnbmpofmieagfaaGreatDoorJFnProcs5
import Derived.Test.YtnbmpofmieagfaaGreatDoorJFnProcs34
import Derived.Deep.RegionHeld3
/- A process made plain, as plain functions: the tree of a step, made plain, and the list that it comes to. -/
namespace Go.Proofs.YtnbmpofmieagfaaGreatDoor
open Go.RowKit
set_option linter.unusedVariables false
namespace Pl
open Ex (hid inR)
open Nd (NodeD)
open St (StepD)
open Tr (Chain cutTo onPath top nf ElemD)
open Pf
/-- A step with what is below it. -/
structure PT where
  s : StepD
  kids : List PT
def gT (ss : List StepD) : Nat → Nat → PT
  | 0, k => ⟨PJ ss k, []⟩
  | f + 1, k => ⟨PJ ss k, (kidsL ss k).map (gT ss f)⟩
def pieceT (b : PT) : List PT := if b.s.kind = 1 then b.kids else [b]
def lineT (l : List PT) : List PT := l.flatMap pieceT
def TJ (l : List PT) (i : Nat) : PT := l[i]?.getD ⟨⟨0, 0, ByteArray.empty, 0, [], []⟩, []⟩
theorem TJ_eq {l : List PT} {i : Nat} (h : i < l.length) : TJ l i = l[i] := by unfold TJ; rw [List.getElem?_eq_getElem h]; rfl
def condT (c : List NodeD) (t : PT) : PT := if 0 < c.length then ⟨{ t.s with cond := c }, t.kids⟩ else t
def wholeT (s : StepD) (l : List PT) : PT := if l.length = 1 then condT s.cond (TJ l 0) else ⟨s, l⟩
def plB (ss : List StepD) : Nat → Nat → PT
  | 0, k => ⟨PJ ss k, []⟩
  | f + 1, k => if (PJ ss k).kind = 1 then wholeT (PJ ss k) (lineT ((kidsL ss k).map (plB ss f))) else ⟨PJ ss k, (kidsL ss k).map (plB ss f)⟩
def lst : Nat → List StepD → PT → Int → List StepD
  | 0, acc, _, _ => acc
  | f + 1, acc, t, par => t.kids.foldl (fun a b => lst f a b (acc.length : Int)) (acc ++ [{ t.s with parent := par }])
def cnt : Nat → PT → Nat
  | 0, _ => 0
  | f + 1, t => 1 + (t.kids.map (cnt f)).sum
theorem line_snoc (l : List PT) (b : PT) : lineT (l ++ [b]) = lineT l ++ pieceT b := by simp [lineT]
theorem lst_len : ∀ (f : Nat) (acc : List StepD) (t : PT) (par : Int), (lst f acc t par).length = acc.length + cnt f t
  | 0, acc, t, par => by simp [lst, cnt]
  | f + 1, acc, t, par => by
    have h : ∀ (ks : List PT) (a : List StepD), (ks.foldl (fun a b => lst f a b (acc.length : Int)) a).length = a.length + (ks.map (cnt f)).sum := by
      intro ks
      induction ks with
      | nil => intro a; simp
      | cons b ks ih => intro a; rw [List.foldl_cons, ih, lst_len f]; simp; omega
    rw [lst, h, cnt]
    simp
    omega
/-- How the list stands when some kids are told. -/
def lstK (f : Nat) (acc : List StepD) (t : PT) (par : Int) (m : Nat) : List StepD := (t.kids.take m).foldl (fun a b => lst f a b (acc.length : Int)) (acc ++ [{ t.s with parent := par }])
theorem lstK_zero (f : Nat) (acc : List StepD) (t : PT) (par : Int) : lstK f acc t par 0 = acc ++ [{ t.s with parent := par }] := by simp [lstK]
theorem lstK_succ (f : Nat) (acc : List StepD) (t : PT) (par : Int) {m : Nat} (h : m < t.kids.length) : lstK f acc t par (m + 1) = lst f (lstK f acc t par m) t.kids[m] (acc.length : Int) := by
  unfold lstK
  rw [List.take_succ_eq_append_getElem h, List.foldl_append]
  rfl
theorem lstK_all (f : Nat) (acc : List StepD) (t : PT) (par : Int) : lstK f acc t par t.kids.length = lst (f + 1) acc t par := by
  unfold lstK
  rw [List.take_length]
  rfl
theorem fold_le (f : Nat) (n : Int) : ∀ (ks : List PT) (a : List StepD), a.length ≤ (ks.foldl (fun a b => lst f a b n) a).length := by
  intro ks
  induction ks with
  | nil => intro a; simp
  | cons b ks ih => intro a; rw [List.foldl_cons]; have := ih (lst f a b n); rw [lst_len] at this; omega
theorem lstK_le (f : Nat) (acc : List StepD) (t : PT) (par : Int) (m : Nat) : (lstK f acc t par m).length ≤ (lst (f + 1) acc t par).length := by
  have e : lst (f + 1) acc t par = (t.kids.drop m).foldl (fun a b => lst f a b (acc.length : Int)) (lstK f acc t par m) := by
    unfold lstK
    rw [← List.foldl_append, List.take_append_drop]
    rfl
  rw [e]
  exact fold_le _ _ _ _
theorem lstK_lst_le (f : Nat) (acc : List StepD) (t : PT) (par : Int) {m : Nat} (h : m < t.kids.length) : (lst f (lstK f acc t par m) t.kids[m] (acc.length : Int)).length ≤ (lst (f + 1) acc t par).length := by
  rw [← lstK_succ f acc t par h]
  exact lstK_le _ _ _ _ _
theorem lstK_pos (f : Nat) (acc : List StepD) (t : PT) (par : Int) (m : Nat) : acc.length < (lstK f acc t par m).length := by
  have h := fold_le f (acc.length : Int) (t.kids.take m) (acc ++ [{ t.s with parent := par }])
  rw [List.length_append, List.length_singleton] at h
  unfold lstK
  omega
/-! ### how much of it there can be -/
def SB : Nat → Nat
  | 0 => 1
  | f + 1 => 1 + 24 * SB f
theorem SB8 : SB 8 ≤ 1000000000000 := by decide
theorem kids_le {ss : List StepD} (hl : ss.length ≤ 24) (k : Nat) : (kidsL ss k).length ≤ 24 := Nat.le_trans (Pf.kidsN_le ss ss.length k) hl
theorem sum_le {α : Type} (g : α → Nat) (b : Nat) : ∀ (l : List α), (∀ x ∈ l, g x ≤ b) → (l.map g).sum ≤ l.length * b
  | [], _ => by simp
  | x :: l, h => by
    have h1 := h x (by simp)
    have h2 := sum_le g b l (fun y hy => h y (by simp [hy]))
    simp only [List.map_cons, List.sum_cons, List.length_cons, Nat.succ_mul]
    omega
theorem mem_sum {α : Type} (g : α → Nat) : ∀ (l : List α) (x : α), x ∈ l → g x ≤ (l.map g).sum
  | [], x, h => by cases h
  | y :: l, x, h => by
    simp only [List.map_cons, List.sum_cons]
    rcases List.mem_cons.1 h with rfl | h
    · omega
    · have := mem_sum g l x h
      omega
theorem line_sum (F b : Nat) : ∀ (l : List PT), (∀ x ∈ l, ∀ F, cnt F x ≤ b) → ((lineT l).map (cnt F)).sum ≤ l.length * b
  | [], _ => by simp [lineT]
  | x :: l, h => by
    have h1 := h x (by simp)
    have h2 := line_sum F b l (fun y hy => h y (by simp [hy]))
    have e : lineT (x :: l) = pieceT x ++ lineT l := by simp [lineT]
    have h3 : ((pieceT x).map (cnt F)).sum ≤ b := by
      unfold pieceT
      by_cases hk : x.s.kind = 1
      · rw [if_pos hk]
        have := h1 (F + 1)
        rw [cnt] at this
        omega
      · rw [if_neg hk]
        simpa using h1 F
    rw [e, List.map_append, List.sum_append, List.length_cons, Nat.succ_mul]
    omega
theorem cnt_cond (F : Nat) (c : List NodeD) (t : PT) : cnt F (condT c t) = cnt F t := by
  unfold condT
  by_cases h : 0 < c.length
  · rw [if_pos h]
    cases F <;> rfl
  · rw [if_neg h]
theorem cnt_plB {ss : List StepD} (hl : ss.length ≤ 24) : ∀ (f k F : Nat), cnt F (plB ss f k) ≤ SB f
  | 0, k, F => by
    cases F
    · simp [cnt, SB]
    · simp [cnt, plB, SB]
  | f + 1, k, 0 => by simp [cnt]
  | f + 1, k, F + 1 => by
    have hk := kids_le hl k
    have hm : ∀ x ∈ (kidsL ss k).map (plB ss f), ∀ F, cnt F x ≤ SB f := by
      intro x hx F
      obtain ⟨j, _, rfl⟩ := List.mem_map.1 hx
      exact cnt_plB hl f j F
    have hb : ((kidsL ss k).map (plB ss f)).length * SB f ≤ 24 * SB f := Nat.mul_le_mul_right _ (by simpa using hk)
    rw [plB]
    by_cases h1 : (PJ ss k).kind = 1
    · rw [if_pos h1]
      have hs := fun F => line_sum F (SB f) _ hm
      unfold wholeT
      by_cases h2 : (lineT ((kidsL ss k).map (plB ss f))).length = 1
      · rw [if_pos h2, cnt_cond, TJ_eq (by omega), SB]
        have h3 := mem_sum (cnt (F + 1)) (lineT ((kidsL ss k).map (plB ss f))) _ (List.getElem_mem (show 0 < _ by omega))
        have := hs (F + 1)
        omega
      · rw [if_neg h2, cnt, SB]
        have := hs F
        simp only
        omega
    · rw [if_neg h1, cnt, SB]
      have := sum_le (cnt F) (SB f) _ (fun x hx => hm x hx F)
      simp only
      omega
/-! ### how deep -/
theorem chain_one {es : List Tr.ElemD} : ∀ {l m : List Nat}, Chain es l → Chain es m → top l = top m → l = m
  | [], [], _, _, _ => rfl
  | [], b :: m, _, _, h => by have : (-1 : Int) = (b : Int) := h; omega
  | a :: l, [], _, _, h => by have : (a : Int) = (-1 : Int) := h; omega
  | a :: l, b :: m, h1, h2, h => by
    have e : a = b := by have : (a : Int) = (b : Int) := h; omega
    subst e
    obtain ⟨⟨e1, x1, y1⟩, _, z1⟩ := h1
    obtain ⟨⟨e2, x2, y2⟩, _, z2⟩ := h2
    have : e1 = e2 := Option.some.inj (x1.symm.trans x2)
    subst this
    rw [chain_one z1 z2 (y1.symm.trans y2)]
theorem kid_mem {ss : List StepD} {k j : Nat} (h : j ∈ kidsL ss k) : j < ss.length ∧ (PJ ss j).parent = (k : Int) := by
  unfold kidsL Pf.kidsN at h
  have := List.mem_filter.1 h
  exact ⟨List.mem_range.1 this.1, by simpa using this.2⟩
def deepG (ss : List StepD) (k : Nat) : Nat := (path ss (k + 1)).length
theorem deep_le {ss : List StepD} {k : Nat} (h : pFault ss = 0) (hk : k < ss.length) : deepG ss k ≤ 7 := (walked (ss := ss) (i := k + 1) hk (first_to (of_p h).2.1 hk)).deep
theorem kid_deep {ss : List StepD} {k j : Nat} (h : pFault ss = 0) (hk : k < ss.length) (hj : j ∈ kidsL ss k) : deepG ss j = deepG ss k + 1 := by
  obtain ⟨hj1, hj2⟩ := kid_mem hj
  have w1 := (walked (ss := ss) (i := j + 1) hj1 (first_to (of_p h).2.1 hj1)).chain
  have w2 := (walked (ss := ss) (i := k + 1) hk (first_to (of_p h).2.1 hk)).chain
  have e : path ss (j + 1) = j :: cutTo (PJ ss j).parent (path ss j) := rfl
  rw [e] at w1
  obtain ⟨⟨e1, x1, y1⟩, _, z1⟩ := w1
  have hp : e1.parent = (k : Int) := by
    rw [← hj2]
    have : (es ss)[j]? = some ⟨ss[j].name, ss[j].parent, []⟩ := by simp [es, hj1]
    rw [x1] at this
    cases this
    rw [PJ_eq hj1]
  have h3 := chain_one z1 w2 (by rw [← y1, hp]; rfl)
  unfold deepG
  rw [e, h3]
  simp
end Pl
end Go.Proofs.YtnbmpofmieagfaaGreatDoor
/- The list that the tree of a process comes to is the process; how many steps are left when it is made plain. -/
namespace Go.Proofs.YtnbmpofmieagfaaGreatDoor
open Go.RowKit
set_option linter.unusedVariables false
namespace Pl
open Ex (hid inR)
open St (StepD)
open Tr (Chain cutTo onPath top nf ElemD cut_no cut_le top_cut)
open Pf
theorem cut_suffix {p : Int} : ∀ (S : List Nat), cutTo p S <:+ S
  | [] => List.suffix_refl _
  | a :: r => by
    unfold cutTo
    split
    · exact List.suffix_refl _
    · exact (cut_suffix r).trans (List.suffix_cons a r)
theorem path_succ (ss : List StepD) (i : Nat) : path ss (i + 1) = i :: cutTo (PJ ss i).parent (path ss i) := rfl
theorem deep_succ (ss : List StepD) (i : Nat) : deepG ss i = (cutTo (PJ ss i).parent (path ss i)).length + 1 := by unfold deepG; rw [path_succ]; simp
/-- Where what is below a step ends. -/
structure End (ss : List StepD) (k e : Nat) : Prop where
  lt : k < e
  le : e ≤ ss.length
  deep : ∀ i, k < i → i < e → deepG ss k < deepG ss i
  stop : e = ss.length ∨ deepG ss e ≤ deepG ss k
theorem end_from (ss : List StepD) (k : Nat) : ∀ (n s : Nat), s + n = ss.length → k < s → (∀ i, k < i → i < s → deepG ss k < deepG ss i) → ∃ e, End ss k e
  | 0, s, h, hs, hd => ⟨s, hs, by omega, hd, .inl (by omega)⟩
  | n + 1, s, h, hs, hd => by
    by_cases h1 : deepG ss k < deepG ss s
    · exact end_from ss k n (s + 1) (by omega) (by omega) (fun i hi hl => by
        by_cases e : i = s
        · rw [e]; exact h1
        · exact hd i hi (by omega))
    · exact ⟨s, hs, by omega, hd, .inr (by omega)⟩
theorem end_is {ss : List StepD} {k : Nat} (hk : k < ss.length) : ∃ e, End ss k e := end_from ss k (ss.length - (k + 1)) (k + 1) (by omega) (by omega) (fun i h1 h2 => by omega)
theorem suf_of {α : Type} {a b l : List α} (h1 : a <:+ l) (h2 : b <:+ l) (h : a.length ≤ b.length) : a <:+ b := by
  rcases List.suffix_or_suffix_of_suffix h1 h2 with h3 | h3
  · exact h3
  · have : b.length = a.length := Nat.le_antisymm h3.length_le h
    rw [h3.eq_of_length this]
    exact List.suffix_refl _
theorem End.suf {ss : List StepD} {k e : Nat} (h : End ss k e) : ∀ (m : Nat), k + 1 + m ≤ e → path ss (k + 1) <:+ path ss (k + 1 + m)
  | 0, _ => List.suffix_refl _
  | m + 1, hm => by
    have h1 := h.suf m (by omega)
    have h2 := h.deep (k + 1 + m) (by omega) (by omega)
    rw [← Nat.add_assoc, path_succ]
    refine (suf_of h1 (cut_suffix (path ss (k + 1 + m))) ?_).trans (List.suffix_cons _ _)
    rw [deep_succ ss (k + 1 + m)] at h2
    have e : deepG ss k = (path ss (k + 1)).length := rfl
    omega
theorem on_path {ss : List StepD} {i : Nat} (hp : pFault ss = 0) (hi : i < ss.length) (h0 : 0 < i) : onPath (PJ ss i).parent (path ss i) = true := by
  have h := of_one (first_all (of_p hp).2.1 hi)
  cases hx : onPath (PJ ss i).parent (path ss i)
  · exact absurd ⟨h0, hx⟩ h.2.2.1
  · rfl
theorem End.par {ss : List StepD} {k e s : Nat} (hp : pFault ss = 0) (h : End ss k e) (h1 : k < s) (h2 : s < e) (h3 : deepG ss s = deepG ss k + 1) : (PJ ss s).parent = (k : Int) := by
  obtain ⟨m, rfl⟩ : ∃ m, s = k + 1 + m := ⟨s - (k + 1), by omega⟩
  have hs := h.suf m (by omega)
  have hn : k + 1 + m < ss.length := Nat.lt_of_lt_of_le h2 h.le
  have hl : (cutTo (PJ ss (k + 1 + m)).parent (path ss (k + 1 + m))).length = (path ss (k + 1)).length := by
    rw [deep_succ ss (k + 1 + m)] at h3
    have e : deepG ss k = (path ss (k + 1)).length := rfl
    omega
  have he := (suf_of hs (cut_suffix (p := (PJ ss (k + 1 + m)).parent) _) (by omega)).eq_of_length hl.symm
  have ht := top_cut (on_path hp hn (by omega))
  rw [← he] at ht
  rw [← ht]
  rfl
theorem kid_path {ss : List StepD} {k s : Nat} (hp : pFault ss = 0) (hk : k < ss.length) (hs : s < ss.length) (h : (PJ ss s).parent = (k : Int)) : k < s ∧ path ss (k + 1) <:+ path ss s := by
  have h1 := par_lt (first_all (of_p hp).2.1 hs)
  have h2 : k < s := by omega
  have w1 := (walked (ss := ss) (i := s) (by omega) (first_to (of_p hp).2.1 (by omega))).chain
  have w2 := (walked (ss := ss) (i := k + 1) hk (first_to (of_p hp).2.1 hk)).chain
  have e := chain_one (Tr.chain_cut (p := (PJ ss s).parent) w1) w2 (by rw [top_cut (on_path hp hs (by omega)), h]; rfl)
  exact ⟨h2, e ▸ cut_suffix _⟩
theorem back {ss : List StepD} {k : Nat} : ∀ (m i : Nat), k < i → path ss (k + 1) <:+ path ss (i + m) → path ss (k + 1) <:+ path ss i
  | 0, i, _, h => h
  | m + 1, i, hi, h => by
    have h1 : path ss (k + 1) <:+ path ss (i + 1) := back m (i + 1) (by omega) (by rw [Nat.add_right_comm]; exact h)
    rw [path_succ ss i] at h1
    rcases List.suffix_cons_iff.1 h1 with h2 | h2
    · rw [path_succ ss k] at h2
      have := (List.cons.inj h2).1
      omega
    · exact h2.trans (cut_suffix _)
theorem kid_between {ss : List StepD} {k s : Nat} (hp : pFault ss = 0) (hk : k < ss.length) (hs : s < ss.length) (h : (PJ ss s).parent = (k : Int)) : ∀ i, k < i → i ≤ s → deepG ss k < deepG ss i := by
  obtain ⟨h1, h2⟩ := kid_path hp hk hs h
  intro i hi hl
  have hm : s ∈ kidsL ss k := by unfold kidsL kidsN; rw [List.mem_filter]; exact ⟨List.mem_range.2 hs, by simp [h]⟩
  by_cases e : i = s
  · rw [e, kid_deep hp hk hm]; omega
  · have h3 : path ss (k + 1) <:+ path ss (i + 1) := back (s - (i + 1)) (i + 1) (by omega) (by rw [show i + 1 + (s - (i + 1)) = s by omega]; exact h2)
    rw [path_succ ss i] at h3
    rcases List.suffix_cons_iff.1 h3 with h4 | h4
    · rw [path_succ ss k] at h4
      have := (List.cons.inj h4).1
      omega
    · rw [deep_succ ss i]
      have := h4.length_le
      have e : deepG ss k = (path ss (k + 1)).length := rfl
      omega
/-! ### the kids from a place on -/
def kf (ss : List StepD) (k s : Nat) : List Nat := (List.range' s (ss.length - s)).filter fun i => (PJ ss i).parent == (k : Int)
theorem kf_zero (ss : List StepD) (k : Nat) : kidsL ss k = kf ss k 0 := by unfold kidsL kidsN kf; rw [List.range_eq_range', Nat.sub_zero]
theorem kf_yes {ss : List StepD} {k s : Nat} (hs : s < ss.length) (h : (PJ ss s).parent = (k : Int)) : kf ss k s = s :: kf ss k (s + 1) := by
  unfold kf
  rw [show ss.length - s = (ss.length - (s + 1)) + 1 by omega, List.range'_succ, List.filter_cons_of_pos (by simp [h])]
theorem kf_no {ss : List StepD} {k s : Nat} (hs : s < ss.length) (h : (PJ ss s).parent ≠ (k : Int)) : kf ss k s = kf ss k (s + 1) := by
  unfold kf
  rw [show ss.length - s = (ss.length - (s + 1)) + 1 by omega, List.range'_succ, List.filter_cons_of_neg (by simp [h])]
theorem kf_skip {ss : List StepD} {k : Nat} : ∀ (m s : Nat), s + m ≤ ss.length → (∀ i, s ≤ i → i < s + m → (PJ ss i).parent ≠ (k : Int)) → kf ss k s = kf ss k (s + m)
  | 0, s, _, _ => rfl
  | m + 1, s, h, hn => by
    rw [kf_no (by omega) (hn s (by omega) (by omega)), kf_skip m (s + 1) (by omega) (fun i h1 h2 => hn i (by omega) (by omega))]
    congr 1
    omega
theorem kf_end (ss : List StepD) (k : Nat) : kf ss k ss.length = [] := by unfold kf; simp
theorem take_snoc {ss : List StepD} {k : Nat} (hk : k < ss.length) : ss.take k ++ [ss[k]] = ss.take (k + 1) := List.take_append_getElem hk
theorem step_same (s : StepD) : ({ s with parent := s.parent } : StepD) = s := rfl
/-- What the tree of a step comes to is what stands from it on, up to its end. -/
theorem flat_gT {ss : List StepD} (g : Nat) (hp : pFault ss = 0) : ∀ (f k e : Nat), k < ss.length → End ss k e → 8 ≤ f + deepG ss k → lst (f + g) (ss.take k) (gT ss f k) (PJ ss k).parent = ss.take e
  | 0, k, e, hk, he, hd => by have := deep_le hp hk; omega
  | f + 1, k, e, hk, he, hd => by
    rw [show f + 1 + g = (f + g) + 1 by omega]
    have hlen : (ss.take k).length = k := by simp; omega
    have e0 : ss.take k ++ [({ (PJ ss k) with parent := (PJ ss k).parent } : StepD)] = ss.take (k + 1) := by
      show ss.take k ++ [PJ ss k] = _
      rw [PJ_eq hk, take_snoc hk]
    have key : ∀ (n s : Nat), e - s = n → k < s → s ≤ e → (s = e ∨ deepG ss s = deepG ss k + 1) → (((kf ss k s).map (gT ss f)).foldl (fun a b => lst (f + g) a b (k : Int)) (ss.take s)) = ss.take e := by
      intro n
      induction n using Nat.strongRecOn with
      | ind n ih =>
        intro s hn hks hse hg
        by_cases hs : s = e
        · subst hs
          have : kf ss k s = [] := by
            rw [kf_skip (ss.length - s) s (by have := he.le; omega) (fun i h1 h2 h3 => ?_), show s + (ss.length - s) = ss.length by have := he.le; omega, kf_end]
            have h4 := kid_between hp hk (show i < ss.length by omega) h3 s hks h1
            rcases he.stop with h5 | h5
            · omega
            · omega
          rw [this]
          rfl
        · have hds : deepG ss s = deepG ss k + 1 := by
            rcases hg with h | h
            · exact absurd h hs
            · exact h
          have hsl : s < ss.length := by have := he.le; omega
          have hpar := he.par hp hks (by omega) hds
          obtain ⟨e', he'⟩ := end_is hsl
          have hle : e' ≤ e := by
            rcases Nat.lt_or_ge e e' with h | h
            · have := he'.deep e (by omega) h
              rcases he.stop with h5 | h5
              · have := he'.le; omega
              · omega
            · exact h
          rw [kf_yes hsl hpar, List.map_cons, List.foldl_cons]
          have h1 := flat_gT g hp f s e' hsl he' (by omega)
          rw [hpar] at h1
          rw [h1]
          have hsk : kf ss k (s + 1) = kf ss k e' := by
            have h2 := kf_skip (ss := ss) (k := k) (e' - (s + 1)) (s + 1) (by have := he'.lt; have := he'.le; omega) (fun i h1 h2 h3 => by
              have h4 := he'.deep i (by omega) (by omega)
              have hil : i < ss.length := by have := he'.le; omega
              have hm : i ∈ kidsL ss k := by unfold kidsL kidsN; rw [List.mem_filter]; exact ⟨List.mem_range.2 hil, by simp [h3]⟩
              have := kid_deep hp hk hm
              omega)
            rw [h2]
            congr 1
            have := he'.lt
            omega
          rw [hsk]
          have hlt' := he'.lt
          refine ih (e - e') (by omega) e' rfl (by omega) hle ?_
          by_cases h6 : e' = e
          · exact .inl h6
          · right
            have h7 := he.deep e' (by omega) (by omega)
            rcases he'.stop with h8 | h8
            · have := he.le; omega
            · omega
    have hk1 : kidsL ss k = kf ss k (k + 1) := by
      have h1 := kf_skip (ss := ss) (k := k) (k + 1) 0 (by omega) (fun i _ h2 h3 => by
        have := (kid_path hp hk (show i < ss.length by omega) h3).1
        omega)
      rw [kf_zero, h1, Nat.zero_add]
    show ((kidsL ss k).map (gT ss f)).foldl (fun a b => lst (f + g) a b ((ss.take k).length : Int)) (ss.take k ++ [{ (PJ ss k) with parent := (PJ ss k).parent }]) = ss.take e
    rw [e0, hlen, hk1]
    have hlt := he.lt
    refine key (e - (k + 1)) (k + 1) rfl (by omega) (by omega) ?_
    by_cases h6 : k + 1 = e
    · exact .inl h6
    · right
      have h7 := he.deep (k + 1) (by omega) (by omega)
      rw [deep_succ ss (k + 1)] at h7 ⊢
      have := cut_le (p := (PJ ss (k + 1)).parent) (S := path ss (k + 1))
      have e : deepG ss k = (path ss (k + 1)).length := rfl
      omega
theorem whole_gT {ss : List StepD} (g : Nat) (hp : pFault ss = 0) : lst (8 + g) [] (gT ss 8 0) (-1) = ss := by
  have hn := of_p hp
  have h0 : 0 < ss.length := by omega
  have hpar : (PJ ss 0).parent = -1 := by
    have := (of_one (first_all hn.2.1 h0)).2.1
    unfold parOk at this
    rw [if_pos rfl] at this
    exact beq_iff_eq.1 this
  have hd0 : deepG ss 0 = 1 := rfl
  have hE : End ss 0 ss.length := by
    obtain ⟨e, he⟩ := end_is h0
    have : e = ss.length := by
      rcases he.stop with h | h
      · exact h
      · by_cases hel : e < ss.length
        · have h1 := top_cut (on_path hp hel he.lt)
          rw [deep_succ ss e] at h
          have h2 : (cutTo (PJ ss e).parent (path ss e)) = [] := List.eq_nil_of_length_eq_zero (by omega)
          rw [h2] at h1
          have := Tr.on_nonneg (on_path hp hel he.lt)
          rw [← h1] at this
          exact absurd this (by decide)
        · have := he.le; omega
    rw [this] at he
    exact he
  have h := flat_gT g hp 8 0 ss.length h0 hE (by omega)
  rw [hpar] at h
  simpa using h
/-! ### how many steps are left -/
theorem cnt_pos (F : Nat) (t : PT) : 1 ≤ cnt (F + 1) t := by rw [cnt]; omega
theorem cnt_gT {ss : List StepD} (hp : pFault ss = 0) : cnt 8 (gT ss 8 0) = ss.length := by
  have h := congrArg List.length (whole_gT 0 hp)
  rw [lst_len] at h
  simpa using h
end Pl
end Go.Proofs.YtnbmpofmieagfaaGreatDoor
/- The chart, told plainly: what comes of it where a step is entered, and where one is over. -/
namespace Go.Proofs.YtnbmpofmieagfaaGreatDoor
set_option linter.unusedVariables false
namespace Kc
open Ex (inR evalCode evalVal vFault)
open St (StepD)
open Pf
open Pl (deepG)
/-- A chart under way. -/
structure CS where
  status : Int
  now : Int
  vars : List Int
  acts : Nat → Int
  dues : Nat → Int
def upd (f : Nat → Int) (i : Nat) (v : Int) : Nat → Int := fun j => if j = i then v else f j
def zer (f : Nat → Int) (i e : Nat) : Nat → Int := fun j => if i ≤ j ∧ j < e then 0 else f j
def endOf (ss : List StepD) (k : Nat) : Nat := k + (underN ss k).length
def stopped (s : CS) (st : Int) : CS := ⟨st, s.now, s.vars, fun _ => 0, fun _ => 0⟩
def act (s : CS) (k : Nat) (v : Int) : CS := { s with acts := upd s.acts k v }
def due (s : CS) (k : Nat) (v : Int) : CS := { s with dues := upd s.dues k v }
def setV (s : CS) (k : Nat) (v : Int) : CS := { s with vars := s.vars.set k v }
def idle (ss : List StepD) (s : CS) (k : Nat) : CS := { s with acts := zer s.acts k (endOf ss k), dues := zer s.dues k (endOf ss k) }
def pick (ss : List StepD) (vars : List Int) : List Nat → Option Nat
  | [] => none
  | k :: ks => if (PJ ss k).cond.length = 0 then some k else if evalCode (PJ ss k).cond vars ≠ 0 then none else if evalVal (PJ ss k).cond vars = 1 then some k else pick ss vars ks
/-- The one behind k. -/
def aft : List Nat → Nat → Option Nat
  | a :: b :: r, k => if a = k then some b else aft (b :: r) k
  | _, _ => none
def allOver (s : CS) (ks : List Nat) : Bool := ks.all fun k => s.acts k == 2
def kid (ss : List StepD) (k i : Nat) : Nat := (kidsL ss k).getD i 0
/-- What entering a step asks for beside that it is on. -/
def beginG (E O : Nat → CS → CS) (ss : List StepD) (k : Nat) (s : CS) : CS :=
  if (PJ ss k).kind = 1 then E (kid ss k 0) s
  else if (PJ ss k).kind = 3 then (match pick ss s.vars (kidsL ss k) with | some j => E j s | none => stopped s 3)
  else if (PJ ss k).kind = 4 then (kidsL ss k).foldl (fun s j => E j s) s
  else if (PJ ss k).kind = 6 then due s k (s.now + (PJ ss k).arg)
  else if (PJ ss k).kind = 7 then (if evalCode (PJ ss k).expr s.vars = 0 then O k (setV s (PJ ss k).arg.toNat (evalVal (PJ ss k).expr s.vars)) else stopped s 3)
  else if (PJ ss k).kind = 8 then E (kid ss k 0) (due s k (s.now + (PJ ss k).arg))
  else s
/-- What the step above does. -/
def behindG (E O : Nat → CS → CS) (ss : List StepD) (k : Nat) (s : CS) : CS :=
  if (PJ ss k).parent < 0 then stopped s 2
  else if (PJ ss (PJ ss k).parent.toNat).kind = 4 then (if allOver (act s k 2) (kidsL ss (PJ ss k).parent.toNat) = true then O (PJ ss k).parent.toNat (act s k 2) else act s k 2)
  else if (PJ ss (PJ ss k).parent.toNat).kind = 1 then (match aft (kidsL ss (PJ ss k).parent.toNat) k with | some j => E j s | none => O (PJ ss k).parent.toNat s)
  else O (PJ ss k).parent.toNat s
/-- A step entered (false), or over (true). -/
def go (ss : List StepD) : Nat → Bool → Nat → CS → CS
  | 0, _, _, s => s
  | f + 1, false, k, s => if s.status = 1 then beginG (go ss f false) (go ss f true) ss k (act s k 1) else s
  | f + 1, true, k, s => behindG (go ss f false) (go ss f true) ss k (idle ss s k)
theorem go_enter (ss : List StepD) (f k : Nat) (s : CS) : go ss (f + 1) false k s = if s.status = 1 then beginG (go ss f false) (go ss f true) ss k (act s k 1) else s := rfl
theorem go_over (ss : List StepD) (f k : Nat) (s : CS) : go ss (f + 1) true k s = behindG (go ss f false) (go ss f true) ss k (idle ss s k) := rfl
/-! ### places -/
theorem kid_mem {ss : List StepD} {k j : Nat} : j ∈ kidsL ss k ↔ j < ss.length ∧ (PJ ss j).parent = (k : Int) := by
  unfold kidsL kidsN
  rw [List.mem_filter, List.mem_range, beq_iff_eq]
theorem kid_lt {ss : List StepD} {k j : Nat} (hp : pFault ss = 0) (h : j ∈ kidsL ss k) : k < j ∧ j < ss.length := by
  obtain ⟨h1, h2⟩ := kid_mem.1 h
  have := par_lt (first_all (of_p hp).2.1 h1)
  exact ⟨by omega, h1⟩
theorem kids_sorted (ss : List StepD) (k : Nat) : (kidsL ss k).Pairwise (· < ·) := by
  unfold kidsL kidsN
  exact List.Pairwise.filter _ List.pairwise_lt_range
theorem uFrom_end {ss : List StepD} {k : Nat} : ∀ (n i : Nat), i + n = ss.length → k < i → (∀ j, k < j → j < i → deepG ss k < deepG ss j) → Pl.End ss k (i + (uFrom ss k i).length)
  | 0, i, h, hk, hd => by rw [u_end (by omega)]; exact ⟨by simp; omega, by simp; omega, fun j h1 h2 => hd j h1 (by simpa using h2), .inl (by simp; omega)⟩
  | n + 1, i, h, hk, hd => by
    by_cases h1 : dOf ss k < dOf ss i
    · rw [u_step (by omega) h1, List.length_cons]
      have := uFrom_end (ss := ss) (k := k) n (i + 1) (by omega) (by omega) (fun j h2 h3 => by
        by_cases e : j = i
        · rw [e]; exact h1
        · exact hd j h2 (by omega))
      rw [show i + ((uFrom ss k (i + 1)).length + 1) = i + 1 + (uFrom ss k (i + 1)).length by omega]
      exact this
    · rw [u_stop (by omega) h1]
      exact ⟨by simp; omega, by simp; omega, fun j h2 h3 => hd j h2 (by simpa using h3), .inr (by have h4 : deepG ss i ≤ deepG ss k := Nat.not_lt.1 h1; simpa using h4)⟩
theorem end_of {ss : List StepD} {k : Nat} (hk : k < ss.length) : Pl.End ss k (endOf ss k) := by
  have := uFrom_end (ss := ss) (k := k) (ss.length - (k + 1)) (k + 1) (by omega) (by omega) (fun j h1 h2 => by omega)
  unfold endOf underN
  rw [List.length_cons, show k + ((uFrom ss k (k + 1)).length + 1) = k + 1 + (uFrom ss k (k + 1)).length by omega]
  exact this
theorem end_up {ss : List StepD} {k p : Nat} (hp : pFault ss = 0) (h : k ∈ kidsL ss p) : endOf ss k ≤ endOf ss p := by
  obtain ⟨h1, h2⟩ := kid_lt hp h
  have e1 := end_of h2
  have e2 := end_of (ss := ss) (k := p) (by omega)
  have hd := Pl.kid_deep hp (by omega) h
  have hb := Pl.kid_between hp (by omega) h2 (kid_mem.1 h).2
  have hgt : k < endOf ss p := by
    rcases Nat.lt_or_ge k (endOf ss p) with h3 | h3
    · exact h3
    · rcases e2.stop with h4 | h4
      · omega
      · have := hb (endOf ss p) e2.lt h3
        omega
  rcases Nat.lt_or_ge (endOf ss p) (endOf ss k) with h3 | h3
  · have h5 := e1.deep _ hgt h3
    rcases e2.stop with h4 | h4
    · have := e1.le; omega
    · omega
  · exact h3
theorem end_next {ss : List StepD} {k j p : Nat} (hp : pFault ss = 0) (h : k ∈ kidsL ss p) (h2 : j ∈ kidsL ss p) (h3 : k < j) : endOf ss k ≤ j := by
  have a1 := kid_lt hp h
  have d1 := Pl.kid_deep hp (by omega) h
  have d2 := Pl.kid_deep hp (by omega) h2
  rcases Nat.lt_or_ge j (endOf ss k) with h4 | h4
  · have := (end_of a1.2).deep j h3 h4
    omega
  · exact h4
theorem aft_mem : ∀ {l : List Nat} {k j : Nat}, l.Pairwise (· < ·) → aft l k = some j → k ∈ l ∧ j ∈ l ∧ k < j
  | [], k, j, _, h => by simp [aft] at h
  | [a], k, j, _, h => by simp [aft] at h
  | a :: b :: r, k, j, hp, h => by
    rw [aft] at h
    by_cases e : a = k
    · rw [if_pos e] at h
      cases h
      exact ⟨by simp [e], by simp, e ▸ (List.pairwise_cons.1 hp).1 _ (by simp)⟩
    · rw [if_neg e] at h
      obtain ⟨h1, h2, h3⟩ := aft_mem (List.pairwise_cons.1 hp).2 h
      exact ⟨List.mem_cons_of_mem _ h1, List.mem_cons_of_mem _ h2, h3⟩
/-! ### how far it is still -/
def mE (ss : List StepD) (k : Nat) : Nat := 10 * (ss.length - k)
def mO (ss : List StepD) (k : Nat) : Nat := 10 * (ss.length - endOf ss k) + deepG ss k
theorem deep_pos (ss : List StepD) (k : Nat) : 1 ≤ deepG ss k := by unfold deepG; rw [path]; simp
theorem m_kid {ss : List StepD} {k j : Nat} (hp : pFault ss = 0) (h : j ∈ kidsL ss k) : mE ss j < mE ss k := by
  have := kid_lt hp h
  unfold mE
  omega
theorem m_over {ss : List StepD} {k : Nat} (hp : pFault ss = 0) (hk : k < ss.length) : mO ss k < mE ss k := by
  have := Pl.deep_le hp hk
  have h1 := (end_of hk).lt
  have h2 := (end_of hk).le
  unfold mO mE
  omega
theorem m_next {ss : List StepD} {k j p : Nat} (hp : pFault ss = 0) (h : aft (kidsL ss p) k = some j) : mE ss j < mO ss k := by
  obtain ⟨h1, h2, h3⟩ := aft_mem (kids_sorted ss p) h
  have := end_next hp h1 h2 h3
  have := deep_pos ss k
  unfold mE mO
  omega
theorem m_up {ss : List StepD} {k p : Nat} (hp : pFault ss = 0) (h : k ∈ kidsL ss p) : mO ss p < mO ss k := by
  have h1 := end_up hp h
  have h2 := kid_lt hp h
  have h3 := Pl.kid_deep hp (by omega) h
  unfold mO
  omega
theorem up_mem {ss : List StepD} {k : Nat} (hk : k < ss.length) (h : ¬ (PJ ss k).parent < 0) : k ∈ kidsL ss (PJ ss k).parent.toNat := kid_mem.2 ⟨hk, by omega⟩
theorem kid_in {ss : List StepD} {k i : Nat} (h : i < (kidsL ss k).length) : kid ss k i ∈ kidsL ss k := by
  unfold kid
  rw [List.getD_eq_getElem?_getD, List.getElem?_eq_getElem h]
  exact List.getElem_mem h
theorem pick_mem {ss : List StepD} {vars : List Int} : ∀ {l : List Nat} {j : Nat}, pick ss vars l = some j → j ∈ l
  | [], j, h => by simp [pick] at h
  | a :: r, j, h => by
    rw [pick] at h
    by_cases h1 : (PJ ss a).cond.length = 0
    · rw [if_pos h1] at h; cases h; simp
    · rw [if_neg h1] at h
      by_cases h2 : evalCode (PJ ss a).cond vars ≠ 0
      · rw [if_pos h2] at h; cases h
      · rw [if_neg h2] at h
        by_cases h3 : evalVal (PJ ss a).cond vars = 1
        · rw [if_pos h3] at h; cases h; simp
        · rw [if_neg h3] at h
          exact List.mem_cons_of_mem _ (pick_mem h)
/-! ### kinds and kids -/
theorem many {ss : List StepD} {k : Nat} (hp : pFault ss = 0) (hk : k < ss.length) : manyOk (PJ ss k).kind (kidsL ss k).length = true := by
  have h := first_all (of_p hp).2.2.1 hk
  cases hx : manyOk (PJ ss k).kind (kidsL ss k).length
  · rw [link_many hx] at h; cases h
  · rfl
theorem kids_seq {ss : List StepD} {k : Nat} (hp : pFault ss = 0) (hk : k < ss.length) (h : (PJ ss k).kind = 1) : 1 ≤ (kidsL ss k).length := by
  have := many hp hk
  rw [h] at this
  simpa [manyOk] using this
theorem kids_two {ss : List StepD} {k : Nat} (hp : pFault ss = 0) (hk : k < ss.length) (h : (PJ ss k).kind = 3 ∨ (PJ ss k).kind = 4) : 2 ≤ (kidsL ss k).length := by
  have := many hp hk
  rcases h with h | h <;> rw [h] at this <;> simpa [manyOk] using this
theorem kids_guard {ss : List StepD} {k : Nat} (hp : pFault ss = 0) (hk : k < ss.length) (h : (PJ ss k).kind = 8) : (kidsL ss k).length = 2 := by
  have := many hp hk
  rw [h] at this
  simpa [manyOk] using this
/-! ### what stays -/
structure Ok (s : CS) : Prop where
  vars : vFault s.vars = 0
  lo : 0 ≤ s.now
  hi : s.now ≤ 1000000
theorem Ok.stopped {s : CS} (h : Ok s) (st : Int) : Ok (stopped s st) := ⟨h.vars, h.lo, h.hi⟩
theorem Ok.act {s : CS} (h : Ok s) (k : Nat) (v : Int) : Ok (act s k v) := ⟨h.vars, h.lo, h.hi⟩
theorem Ok.due {s : CS} (h : Ok s) (k : Nat) (v : Int) : Ok (due s k v) := ⟨h.vars, h.lo, h.hi⟩
theorem Ok.idle {ss : List StepD} {s : CS} (h : Ok s) (k : Nat) : Ok (idle ss s k) := ⟨h.vars, h.lo, h.hi⟩
theorem eval_in {e : List Nd.NodeD} {vars : List Int} (h : evalCode e vars = 0) : -1000000 ≤ evalVal e vars ∧ evalVal e vars ≤ 1000000 := by
  by_cases ht : Ex.typeCode e = 0
  · by_cases hv : vFault vars = 0
    · cases ho : Ex.evOk e vars
      · rw [(Ex.ev_bad ht hv ho).1] at h; cases h
      · rw [(Ex.ev_ok ht hv ho).2]
        obtain ⟨h0, h16, hok⟩ := Ex.of_e (Ex.of_type ht)
        refine Ex.getD_in (Ex.evs_in hok hv (Nat.le_refl _) (fun j hj => ?_)) (by rw [Ex.evs_len]; omega)
        cases hb : Ex.evBad e vars j
        · rfl
        · rw [Ex.evOk_bad hj hb] at ho; cases ho
    · rw [(Ex.ev_vars ht hv).1] at h; exact absurd h hv
  · rw [(Ex.ev_type ht).1] at h; exact absurd h ht
theorem Ok.setV {s : CS} (h : Ok s) (k : Nat) {v : Int} (hv : -1000000 ≤ v ∧ v ≤ 1000000) : Ok (setV s k v) := by
  refine ⟨?_, h.lo, h.hi⟩
  obtain ⟨h4, hr⟩ := Ex.of_v h.vars
  refine Ex.v_ok (by simp [Kc.setV, h4]) (fun i hi => ?_)
  have hi2 : i < s.vars.length := by simpa [Kc.setV] using hi
  have e : (Kc.setV s k v).vars[i] = if k = i then v else s.vars[i] := List.getElem_set _
  rw [e]
  split
  · exact Ex.inR_iff.2 hv
  · exact hr i hi2
theorem fold_ok {E : Nat → CS → CS} (hE : ∀ j s, Ok s → Ok (E j s)) : ∀ (l : List Nat) (s : CS), Ok s → Ok (l.foldl (fun s j => E j s) s)
  | [], s, h => h
  | a :: r, s, h => fold_ok hE r (E a s) (hE a s h)
theorem begin_ok {E O : Nat → CS → CS} {ss : List StepD} (hE : ∀ j s, Ok s → Ok (E j s)) (hO : ∀ j s, Ok s → Ok (O j s)) (k : Nat) (s : CS) (h : Ok s) : Ok (beginG E O ss k s) := by
  unfold beginG
  split
  · exact hE _ _ h
  · split
    · split
      · exact hE _ _ h
      · exact h.stopped _
    · split
      · exact fold_ok hE _ _ h
      · split
        · exact h.due _ _
        · split
          · split
            · next hc => exact hO _ _ (h.setV _ (eval_in hc))
            · exact h.stopped _
          · split
            · exact hE _ _ (h.due _ _)
            · exact h
theorem behind_ok {E O : Nat → CS → CS} {ss : List StepD} (hE : ∀ j s, Ok s → Ok (E j s)) (hO : ∀ j s, Ok s → Ok (O j s)) (k : Nat) (s : CS) (h : Ok s) : Ok (behindG E O ss k s) := by
  unfold behindG
  split
  · exact h.stopped _
  · split
    · split
      · exact hO _ _ (h.act _ _)
      · exact h.act _ _
    · split
      · split
        · exact hE _ _ h
        · exact hO _ _ h
      · exact hO _ _ h
theorem go_ok (ss : List StepD) : ∀ (f : Nat) (b : Bool) (k : Nat) (s : CS), Ok s → Ok (go ss f b k s)
  | 0, _, _, s, h => h
  | f + 1, false, k, s, h => by
    rw [go_enter]
    split
    · exact begin_ok (fun j s hs => go_ok ss f false j s hs) (fun j s hs => go_ok ss f true j s hs) _ _ (h.act _ _)
    · exact h
  | f + 1, true, k, s, h => by
    rw [go_over]
    exact behind_ok (fun j s hs => go_ok ss f false j s hs) (fun j s hs => go_ok ss f true j s hs) _ _ (h.idle _)
end Kc
end Go.Proofs.YtnbmpofmieagfaaGreatDoor
/- A step and all below it, by the program. -/
namespace Go.Proofs.YtnbmpofmieagfaaGreatDoor
open Go.RowKit Go.Deep
set_option linter.unusedVariables false
set_option linter.unusedSimpArgs false
namespace Ku
open Ex (inR evalCode evalVal vFault hid)
open St (StepD)
open Pf
open Kc (endOf)
set_option maxRecDepth 100000 in
set_option maxHeartbeats 1000000 in
theorem hasStep (a : Option Addr) (n c : Nat) (x : Int) (w : World) (hn : n ≤ 1048576) : Calls Tryz.prog 20 #[.slice a n c, .int .i64 x] w fun e w' => e = .returned (.bool (decide (0 ≤ x) && decide (x < (n : Int)))) ∧ w' = w := by
  by_cases h1 : (0 : Int) ≤ x
  · by_cases h2 : x < (n : Int)
    · have HV : Hid ((decide (0 ≤ x) && decide (x < (n : Int))) = true) := hid (by simp [h1, h2])
      generalize (decide (0 ≤ x) && decide (x < (n : Int))) = bb at *
      go_enter Tryz.func20, Tryz.ntmps20
      go_wp2
      go_ret
      exact ⟨by rw [HV.out]; rfl, rfl⟩
    · have HV : Hid ((decide (0 ≤ x) && decide (x < (n : Int))) = false) := hid (by simp [h2])
      generalize (decide (0 ≤ x) && decide (x < (n : Int))) = bb at *
      go_enter Tryz.func20, Tryz.ntmps20
      go_wp2
      go_ret
      exact ⟨by rw [HV.out]; rfl, rfl⟩
  · have HV : Hid ((decide (0 ≤ x) && decide (x < (n : Int))) = false) := hid (by simp [h1])
    generalize (decide (0 ≤ x) && decide (x < (n : Int))) = bb at *
    go_enter Tryz.func20, Tryz.ntmps20
    go_wp2
    go_ret
    exact ⟨by rw [HV.out]; rfl, rfl⟩
set_option maxRecDepth 100000 in
set_option maxHeartbeats 16000000 in
theorem withAllBelow (ss : List StepD) (gu cu k : Nat) (w : World) (hl : ss.length ≤ 24) (hk : k < ss.length) (hP : PAt w ss (.slice (some ⟨gu, 0, none⟩) ss.length cu)) (hcap : capOk (.slice (some ⟨gu, 0, none⟩) ss.length cu)) :
    Calls Tryz.prog 21 #[.slice (some ⟨gu, 0, none⟩) ss.length cu, .int .i64 (k : Int)] w fun e w' => e = .returned (.slice (some ⟨gu, k * 9, none⟩) (endOf ss k - k) (cu - k)) ∧ Below w.heap.size w w' := by
  have hc := hcap _ _ _ rfl
  unfold maxLen at hc
  have HP := hid hP
  obtain ⟨_, _, e0, hgu, hcs⟩ := hP
  cases e0
  obtain ⟨kv, vc, ve, d0, d1, d2, _, _, _, _, _, _, hpc⟩ := hcs k hk
  obtain ⟨ak, ck, rfl⟩ := hpc.kids.slice
  have HK : Hid (w.cell? ⟨gu, k * 9, none⟩ = some (.int .i64 (k : Int)) ∧ w.cell? ⟨gu, k * 9 + 1, none⟩ = some (.int .i64 (dOf ss k : Int)) ∧ w.cell? ⟨gu, k * 9 + 2, none⟩ = some (.slice ak (kidsL ss k).length ck)) := hid ⟨d0, d1, d2⟩
  clear hcap hcs d0 d1 d2 hpc
  generalize (kidsL ss k).length = nk at *
  generalize hres : endOf ss k = en at *
  have HEN := hid hres
  clear hres
  go_enter Tryz.func21, Tryz.ntmps21
  go_wp2
  go_loopw [5] (fun x wr => ∃ j : Nat, x = .int .i64 j ∧ k < j ∧ j ≤ ss.length ∧ Hid (en = j + (uFrom ss k j).length) ∧ Hid (Below w.heap.size w wr)) (fun x _ => ss.length - (intOf x).toNat)
  case atStart => exact ⟨k + 1, by simp, by omega, by omega, hid (by rw [← HEN.out]; unfold endOf underN; rw [List.length_cons]; omega), hid (Below.refl _ _)⟩
  case round =>
    obtain ⟨j, rfl, hkj, hjl, HE, HB⟩ := hrel
    have HBd : Hid (Below w.heap.size w wr.drew) := hid HB.out.drew
    by_cases hlt : j < ss.length
    · have HHS : Hid (∀ w', Calls Tryz.prog 20 #[.slice (some ⟨gu, 0, none⟩) ss.length cu, .int .i64 (j : Int)] w' fun e w'' => e = .returned (.bool true) ∧ w'' = w') := hid (fun w' => by
        have := hasStep (some ⟨gu, 0, none⟩) ss.length cu (j : Int) w' (by omega)
        rwa [show (decide ((0 : Int) ≤ (j : Int)) && decide ((j : Int) < (ss.length : Int))) = true by simp; omega] at this)
      obtain ⟨_, _, e0, _, hcs⟩ := HP.out
      cases e0
      obtain ⟨kv, vc, ve, d0, d1, d2, _, _, _, _, _, _, hpc⟩ := hcs j hlt
      obtain ⟨aj, cj, rfl⟩ := hpc.kids.slice
      have HJ : Hid (w.cell? ⟨gu, j * 9, none⟩ = some (.int .i64 (j : Int)) ∧ w.cell? ⟨gu, j * 9 + 1, none⟩ = some (.int .i64 (dOf ss j : Int)) ∧ w.cell? ⟨gu, j * 9 + 2, none⟩ = some (.slice aj (kidsL ss j).length cj)) := hid ⟨d0, d1, d2⟩
      have HUS := hid (u_step (k := k) hlt)
      have HUE := hid (u_stop (k := k) hlt)
      have HIB := hid (fun w' => isBelow (j : Int) (k : Int) (dOf ss j) (dOf ss k) aj ak (kidsL ss j).length cj nk ck w')
      have q1 : (j : Int) < (ss.length : Int) := by omega
      have q2 : (k : Int) < (ss.length : Int) := by omega
      clear hcs d0 d1 d2 hpc
      generalize (kidsL ss j).length = nj at *
      generalize dOf ss j = dj at *
      generalize dOf ss k = dk at *
      have HCL : Hid (∀ wx, Below w.heap.size w wx → wx.cell? ⟨gu, k * 9, none⟩ = some (.int .i64 (k : Int)) ∧ wx.cell? ⟨gu, k * 9 + 1, none⟩ = some (.int .i64 (dk : Int)) ∧ wx.cell? ⟨gu, k * 9 + 2, none⟩ = some (.slice ak nk ck) ∧ wx.cell? ⟨gu, j * 9, none⟩ = some (.int .i64 (j : Int)) ∧ wx.cell? ⟨gu, j * 9 + 1, none⟩ = some (.int .i64 (dj : Int)) ∧ wx.cell? ⟨gu, j * 9 + 2, none⟩ = some (.slice aj nj cj)) := hid (fun wx hb => ⟨(hb.cell (p := ⟨gu, k * 9, none⟩) hgu).trans HK.out.1, (hb.cell (p := ⟨gu, k * 9 + 1, none⟩) hgu).trans HK.out.2.1, (hb.cell (p := ⟨gu, k * 9 + 2, none⟩) hgu).trans HK.out.2.2, (hb.cell (p := ⟨gu, j * 9, none⟩) hgu).trans HJ.out.1, (hb.cell (p := ⟨gu, j * 9 + 1, none⟩) hgu).trans HJ.out.2.1, (hb.cell (p := ⟨gu, j * 9 + 2, none⟩) hgu).trans HJ.out.2.2⟩)
      have HLD := hid (HCL.out _ HBd.out)
      by_cases hd : dk < dj
      · have HX : Hid (en = (j + 1) + (uFrom ss k (j + 1)).length) := hid (by rw [HE.out, HUS.out hd, List.length_cons]; omega)
        rw [show decide (dk < dj) = true by simp [hd]] at HIB
        clear hd HUS HUE HE
        go_wp2
        refine wp_region_held_drew (S := fun wx => wx.cell? ⟨gu, k * 9, none⟩ = some (.int .i64 (k : Int)) ∧ wx.cell? ⟨gu, k * 9 + 1, none⟩ = some (.int .i64 (dk : Int)) ∧ wx.cell? ⟨gu, k * 9 + 2, none⟩ = some (.slice ak nk ck) ∧ wx.cell? ⟨gu, j * 9, none⟩ = some (.int .i64 (j : Int)) ∧ wx.cell? ⟨gu, j * 9 + 1, none⟩ = some (.int .i64 (dj : Int)) ∧ wx.cell? ⟨gu, j * 9 + 2, none⟩ = some (.slice aj nj cj)) (by kernel_rfl) HLD.out (fun hHeld => ?_)
        refine wpAnyH_take (i := 0) (v := .slice (some ⟨gu, 0, none⟩) ss.length cu) rfl (by kernel_rfl) (by kernel_rfl) (by kernel_rfl) (fun _ _ _ h => h) (Or.inl ⟨by kernel_rfl, by intro w hSw; (try dsimp only at hSw); go_simp⟩) (by assumption) ?_
        simp only [Act.put, List.setIfInBounds_toArray, List.set_cons_zero, List.set_cons_succ]
        refine wpAnyH_take (i := 1) (v := .int .i64 (j : Int)) rfl (by kernel_rfl) (by kernel_rfl) (by kernel_rfl) (fun _ _ _ h => h) (Or.inl ⟨by kernel_rfl, by intro w hSw; (try dsimp only at hSw); go_simp⟩) (by assumption) ?_
        simp only [Act.put, List.setIfInBounds_toArray, List.set_cons_zero, List.set_cons_succ]
        refine wpAnyH_ready (rs := [2]) (by kernel_rfl) (by simp) ?_
        refine AllReadyH.cons rfl (fun K hK => ?_) AllReadyH.nil
        go_simp
        go_at_call 20
        refine (HHS.out _).mono ?_
        rintro e w2 ⟨rfl, hw2⟩
        replace hw2 := hw2.symm
        subst hw2
        go_wp2_with fail
        refine hK.out _ _ HLD.out (fun hHeld => ?_)
        clear hK K
        try simp only [Act.put, List.setIfInBounds_toArray, List.set_cons_zero, List.set_cons_succ]
        refine wpAnyH_take (i := 3) (v := .bool true) rfl (by kernel_rfl) (by kernel_rfl) (by kernel_rfl) (fun _ _ _ h => h) (Or.inl ⟨by kernel_rfl, by intro w hSw; (try dsimp only at hSw); go_simp⟩) (by assumption) ?_
        simp only [Act.put, List.setIfInBounds_toArray, List.set_cons_zero, List.set_cons_succ]
        refine wpAnyH_take (i := 4) (v := .slice (some ⟨gu, 0, none⟩) ss.length cu) rfl (by kernel_rfl) (by kernel_rfl) (by kernel_rfl) (fun _ _ _ h => h) (Or.inl ⟨by kernel_rfl, by intro w hSw; (try dsimp only at hSw); go_simp⟩) (by assumption) ?_
        simp only [Act.put, List.setIfInBounds_toArray, List.set_cons_zero, List.set_cons_succ]
        refine wpAnyH_take (i := 5) (v := .int .i64 (j : Int)) rfl (by kernel_rfl) (by kernel_rfl) (by kernel_rfl) (fun _ _ _ h => h) (Or.inl ⟨by kernel_rfl, by intro w hSw; (try dsimp only at hSw); go_simp⟩) (by assumption) ?_
        simp only [Act.put, List.setIfInBounds_toArray, List.set_cons_zero, List.set_cons_succ]
        refine wpAnyH_take (i := 6) (v := .pointer (some ⟨gu, j * 9, none⟩)) rfl (by kernel_rfl) (by kernel_rfl) (by kernel_rfl) (fun _ _ _ h => h) (Or.inl ⟨by kernel_rfl, by intro w hSw; (try dsimp only at hSw); go_simp⟩) (by assumption) ?_
        simp only [Act.put, List.setIfInBounds_toArray, List.set_cons_zero, List.set_cons_succ]
        refine wpAnyH_take (i := 7) (v := .pointer (some ⟨gu, j * 9, none⟩)) rfl (by kernel_rfl) (by kernel_rfl) (by kernel_rfl) (fun _ _ _ h => h) (Or.inl ⟨by kernel_rfl, by intro w hSw; (try dsimp only at hSw); go_simp⟩) (by assumption) ?_
        simp only [Act.put, List.setIfInBounds_toArray, List.set_cons_zero, List.set_cons_succ]
        refine wpAnyH_take (i := 8) (v := .agg #[.int .i64 (j : Int), .int .i64 (dj : Int), .slice aj nj cj]) rfl (by kernel_rfl) (by kernel_rfl) (by kernel_rfl) (fun _ _ _ h => h) (Or.inl ⟨by kernel_rfl, by intro w hSw; (try dsimp only at hSw); obtain ⟨s0, s1, s2, s3, s4, s5⟩ := hSw; go_simp⟩) (by assumption) ?_
        simp only [Act.put, List.setIfInBounds_toArray, List.set_cons_zero, List.set_cons_succ]
        refine wpAnyH_take (i := 9) (v := .slice (some ⟨gu, 0, none⟩) ss.length cu) rfl (by kernel_rfl) (by kernel_rfl) (by kernel_rfl) (fun _ _ _ h => h) (Or.inl ⟨by kernel_rfl, by intro w hSw; (try dsimp only at hSw); go_simp⟩) (by assumption) ?_
        simp only [Act.put, List.setIfInBounds_toArray, List.set_cons_zero, List.set_cons_succ]
        refine wpAnyH_take (i := 10) (v := .int .i64 (k : Int)) rfl (by kernel_rfl) (by kernel_rfl) (by kernel_rfl) (fun _ _ _ h => h) (Or.inl ⟨by kernel_rfl, by intro w hSw; (try dsimp only at hSw); go_simp⟩) (by assumption) ?_
        simp only [Act.put, List.setIfInBounds_toArray, List.set_cons_zero, List.set_cons_succ]
        refine wpAnyH_take (i := 11) (v := .pointer (some ⟨gu, k * 9, none⟩)) rfl (by kernel_rfl) (by kernel_rfl) (by kernel_rfl) (fun _ _ _ h => h) (Or.inl ⟨by kernel_rfl, by intro w hSw; (try dsimp only at hSw); go_simp⟩) (by assumption) ?_
        simp only [Act.put, List.setIfInBounds_toArray, List.set_cons_zero, List.set_cons_succ]
        refine wpAnyH_take (i := 12) (v := .pointer (some ⟨gu, k * 9, none⟩)) rfl (by kernel_rfl) (by kernel_rfl) (by kernel_rfl) (fun _ _ _ h => h) (Or.inl ⟨by kernel_rfl, by intro w hSw; (try dsimp only at hSw); go_simp⟩) (by assumption) ?_
        simp only [Act.put, List.setIfInBounds_toArray, List.set_cons_zero, List.set_cons_succ]
        refine wpAnyH_take (i := 13) (v := .agg #[.int .i64 (k : Int), .int .i64 (dk : Int), .slice ak nk ck]) rfl (by kernel_rfl) (by kernel_rfl) (by kernel_rfl) (fun _ _ _ h => h) (Or.inl ⟨by kernel_rfl, by intro w hSw; (try dsimp only at hSw); obtain ⟨s0, s1, s2, s3, s4, s5⟩ := hSw; go_simp⟩) (by assumption) ?_
        simp only [Act.put, List.setIfInBounds_toArray, List.set_cons_zero, List.set_cons_succ]
        refine wpAnyH_ready (rs := [14]) (by kernel_rfl) (by simp) ?_
        refine AllReadyH.cons rfl (fun K hK => ?_) AllReadyH.nil
        go_simp
        go_at_call 46
        refine (HIB.out _).mono ?_
        rintro e w3 ⟨rfl, hb3⟩
        have HB3 := hid (HBd.out.trans (hb3.mono HBd.out.size))
        have HLD3 := hid (HCL.out _ HB3.out)
        clear hb3
        go_wp2_with fail
        refine hK.out _ _ HLD3.out (fun hHeld => ?_)
        clear hK K
        try simp only [Act.put, List.setIfInBounds_toArray, List.set_cons_zero, List.set_cons_succ]
        refine wpAnyH_take (i := 15) (v := .bool true) rfl (by kernel_rfl) (by kernel_rfl) (by kernel_rfl) (fun _ _ _ h => h) (Or.inl ⟨by kernel_rfl, by intro w hSw; (try dsimp only at hSw); go_simp⟩) (by assumption) ?_
        simp only [Act.put, List.setIfInBounds_toArray, List.set_cons_zero, List.set_cons_succ]
        refine wpAnyH_done (by kernel_rfl) ?_ _
        clear hHeld
        go_wp2
        exact ⟨⟨j + 1, by simp, by omega, by omega, HX, HB3⟩, by simp [intOf]; omega⟩
      · have HX : Hid (en = j) := hid (by rw [HE.out, HUE.out hd]; rfl)
        rw [show decide (dk < dj) = false by simp [hd]] at HIB
        clear hd HUS HUE HE
        have q3 : (k : Int) ≤ (j : Int) := by omega
        have q4 : (j : Int) ≤ (cu : Int) := by omega
        have q5 : ¬ k = cu := by omega
        go_wp2
        refine wp_region_held_drew (S := fun wx => wx.cell? ⟨gu, k * 9, none⟩ = some (.int .i64 (k : Int)) ∧ wx.cell? ⟨gu, k * 9 + 1, none⟩ = some (.int .i64 (dk : Int)) ∧ wx.cell? ⟨gu, k * 9 + 2, none⟩ = some (.slice ak nk ck) ∧ wx.cell? ⟨gu, j * 9, none⟩ = some (.int .i64 (j : Int)) ∧ wx.cell? ⟨gu, j * 9 + 1, none⟩ = some (.int .i64 (dj : Int)) ∧ wx.cell? ⟨gu, j * 9 + 2, none⟩ = some (.slice aj nj cj)) (by kernel_rfl) HLD.out (fun hHeld => ?_)
        refine wpAnyH_take (i := 0) (v := .slice (some ⟨gu, 0, none⟩) ss.length cu) rfl (by kernel_rfl) (by kernel_rfl) (by kernel_rfl) (fun _ _ _ h => h) (Or.inl ⟨by kernel_rfl, by intro w hSw; (try dsimp only at hSw); go_simp⟩) (by assumption) ?_
        simp only [Act.put, List.setIfInBounds_toArray, List.set_cons_zero, List.set_cons_succ]
        refine wpAnyH_take (i := 1) (v := .int .i64 (j : Int)) rfl (by kernel_rfl) (by kernel_rfl) (by kernel_rfl) (fun _ _ _ h => h) (Or.inl ⟨by kernel_rfl, by intro w hSw; (try dsimp only at hSw); go_simp⟩) (by assumption) ?_
        simp only [Act.put, List.setIfInBounds_toArray, List.set_cons_zero, List.set_cons_succ]
        refine wpAnyH_ready (rs := [2]) (by kernel_rfl) (by simp) ?_
        refine AllReadyH.cons rfl (fun K hK => ?_) AllReadyH.nil
        go_simp
        go_at_call 20
        refine (HHS.out _).mono ?_
        rintro e w2 ⟨rfl, hw2⟩
        replace hw2 := hw2.symm
        subst hw2
        go_wp2_with fail
        refine hK.out _ _ HLD.out (fun hHeld => ?_)
        clear hK K
        try simp only [Act.put, List.setIfInBounds_toArray, List.set_cons_zero, List.set_cons_succ]
        refine wpAnyH_take (i := 3) (v := .bool true) rfl (by kernel_rfl) (by kernel_rfl) (by kernel_rfl) (fun _ _ _ h => h) (Or.inl ⟨by kernel_rfl, by intro w hSw; (try dsimp only at hSw); go_simp⟩) (by assumption) ?_
        simp only [Act.put, List.setIfInBounds_toArray, List.set_cons_zero, List.set_cons_succ]
        refine wpAnyH_take (i := 4) (v := .slice (some ⟨gu, 0, none⟩) ss.length cu) rfl (by kernel_rfl) (by kernel_rfl) (by kernel_rfl) (fun _ _ _ h => h) (Or.inl ⟨by kernel_rfl, by intro w hSw; (try dsimp only at hSw); go_simp⟩) (by assumption) ?_
        simp only [Act.put, List.setIfInBounds_toArray, List.set_cons_zero, List.set_cons_succ]
        refine wpAnyH_take (i := 5) (v := .int .i64 (j : Int)) rfl (by kernel_rfl) (by kernel_rfl) (by kernel_rfl) (fun _ _ _ h => h) (Or.inl ⟨by kernel_rfl, by intro w hSw; (try dsimp only at hSw); go_simp⟩) (by assumption) ?_
        simp only [Act.put, List.setIfInBounds_toArray, List.set_cons_zero, List.set_cons_succ]
        refine wpAnyH_take (i := 6) (v := .pointer (some ⟨gu, j * 9, none⟩)) rfl (by kernel_rfl) (by kernel_rfl) (by kernel_rfl) (fun _ _ _ h => h) (Or.inl ⟨by kernel_rfl, by intro w hSw; (try dsimp only at hSw); go_simp⟩) (by assumption) ?_
        simp only [Act.put, List.setIfInBounds_toArray, List.set_cons_zero, List.set_cons_succ]
        refine wpAnyH_take (i := 7) (v := .pointer (some ⟨gu, j * 9, none⟩)) rfl (by kernel_rfl) (by kernel_rfl) (by kernel_rfl) (fun _ _ _ h => h) (Or.inl ⟨by kernel_rfl, by intro w hSw; (try dsimp only at hSw); go_simp⟩) (by assumption) ?_
        simp only [Act.put, List.setIfInBounds_toArray, List.set_cons_zero, List.set_cons_succ]
        refine wpAnyH_take (i := 8) (v := .agg #[.int .i64 (j : Int), .int .i64 (dj : Int), .slice aj nj cj]) rfl (by kernel_rfl) (by kernel_rfl) (by kernel_rfl) (fun _ _ _ h => h) (Or.inl ⟨by kernel_rfl, by intro w hSw; (try dsimp only at hSw); obtain ⟨s0, s1, s2, s3, s4, s5⟩ := hSw; go_simp⟩) (by assumption) ?_
        simp only [Act.put, List.setIfInBounds_toArray, List.set_cons_zero, List.set_cons_succ]
        refine wpAnyH_take (i := 9) (v := .slice (some ⟨gu, 0, none⟩) ss.length cu) rfl (by kernel_rfl) (by kernel_rfl) (by kernel_rfl) (fun _ _ _ h => h) (Or.inl ⟨by kernel_rfl, by intro w hSw; (try dsimp only at hSw); go_simp⟩) (by assumption) ?_
        simp only [Act.put, List.setIfInBounds_toArray, List.set_cons_zero, List.set_cons_succ]
        refine wpAnyH_take (i := 10) (v := .int .i64 (k : Int)) rfl (by kernel_rfl) (by kernel_rfl) (by kernel_rfl) (fun _ _ _ h => h) (Or.inl ⟨by kernel_rfl, by intro w hSw; (try dsimp only at hSw); go_simp⟩) (by assumption) ?_
        simp only [Act.put, List.setIfInBounds_toArray, List.set_cons_zero, List.set_cons_succ]
        refine wpAnyH_take (i := 11) (v := .pointer (some ⟨gu, k * 9, none⟩)) rfl (by kernel_rfl) (by kernel_rfl) (by kernel_rfl) (fun _ _ _ h => h) (Or.inl ⟨by kernel_rfl, by intro w hSw; (try dsimp only at hSw); go_simp⟩) (by assumption) ?_
        simp only [Act.put, List.setIfInBounds_toArray, List.set_cons_zero, List.set_cons_succ]
        refine wpAnyH_take (i := 12) (v := .pointer (some ⟨gu, k * 9, none⟩)) rfl (by kernel_rfl) (by kernel_rfl) (by kernel_rfl) (fun _ _ _ h => h) (Or.inl ⟨by kernel_rfl, by intro w hSw; (try dsimp only at hSw); go_simp⟩) (by assumption) ?_
        simp only [Act.put, List.setIfInBounds_toArray, List.set_cons_zero, List.set_cons_succ]
        refine wpAnyH_take (i := 13) (v := .agg #[.int .i64 (k : Int), .int .i64 (dk : Int), .slice ak nk ck]) rfl (by kernel_rfl) (by kernel_rfl) (by kernel_rfl) (fun _ _ _ h => h) (Or.inl ⟨by kernel_rfl, by intro w hSw; (try dsimp only at hSw); obtain ⟨s0, s1, s2, s3, s4, s5⟩ := hSw; go_simp⟩) (by assumption) ?_
        simp only [Act.put, List.setIfInBounds_toArray, List.set_cons_zero, List.set_cons_succ]
        refine wpAnyH_ready (rs := [14]) (by kernel_rfl) (by simp) ?_
        refine AllReadyH.cons rfl (fun K hK => ?_) AllReadyH.nil
        go_simp
        go_at_call 46
        refine (HIB.out _).mono ?_
        rintro e w3 ⟨rfl, hb3⟩
        have HB3 := hid (HBd.out.trans (hb3.mono HBd.out.size))
        have HLD3 := hid (HCL.out _ HB3.out)
        clear hb3
        go_wp2_with fail
        refine hK.out _ _ HLD3.out (fun hHeld => ?_)
        clear hK K
        try simp only [Act.put, List.setIfInBounds_toArray, List.set_cons_zero, List.set_cons_succ]
        refine wpAnyH_take (i := 15) (v := .bool false) rfl (by kernel_rfl) (by kernel_rfl) (by kernel_rfl) (fun _ _ _ h => h) (Or.inl ⟨by kernel_rfl, by intro w hSw; (try dsimp only at hSw); go_simp⟩) (by assumption) ?_
        simp only [Act.put, List.setIfInBounds_toArray, List.set_cons_zero, List.set_cons_succ]
        refine wpAnyH_done (by kernel_rfl) ?_ _
        clear hHeld
        go_wp2
        go_ret
        exact ⟨by rw [HX.out]; simp, HB3.out⟩
    · have HHS : Hid (∀ w', Calls Tryz.prog 20 #[.slice (some ⟨gu, 0, none⟩) ss.length cu, .int .i64 (j : Int)] w' fun e w'' => e = .returned (.bool false) ∧ w'' = w') := hid (fun w' => by
        have := hasStep (some ⟨gu, 0, none⟩) ss.length cu (j : Int) w' (by omega)
        rwa [show (decide ((0 : Int) ≤ (j : Int)) && decide ((j : Int) < (ss.length : Int))) = false by simp; omega] at this)
      have HX : Hid (en = j) := hid (by rw [HE.out, u_end (by omega)]; rfl)
      have q3 : (k : Int) ≤ (j : Int) := by omega
      have q4 : (j : Int) ≤ (cu : Int) := by omega
      have q5 : ¬ k = cu := by omega
      clear HE
      go_wp2
      try simp only [List.append_eq, List.cons_append, List.nil_append]
      go_quiet ((go_at_call 20; exact Calls.quiet_of_same (HHS.out _)))
      go_wp2
      go_ret
      exact ⟨by rw [HX.out]; simp, Ints.below_drewN HB.out nq⟩
end Ku
end Go.Proofs.YtnbmpofmieagfaaGreatDoor
/- StepsUnder, of the specification and of the program. Condition of the second: the table of rules lies as its initialiser lays it. -/
namespace Go.Proofs.YtnbmpofmieagfaaGreatDoor
open Go.RowKit
set_option linter.unusedVariables false
namespace Pf
open Ex (hid inR eFault specIn)
open Nd (NodeD)
open St (StepD)
open Tr (Chain cutTo onPath top nf ElemD)
open Pt (kidVals infoI64 info_parts)
open Ints (vals IntsAt)
set_option maxRecDepth 100000 in
set_option maxHeartbeats 8000000 in
theorem specStepsUnder (B : Nat) (ss : List StepD) (v : Value) (at' : Int) (w : World) (hsm : St.Small 1048576 ss) (ha : St.At w B v ss) :
    Calls Tryz.prog 7 #[v, .int .i64 at'] w (IPost (underC ss at') (underL ss at') w) := by
  obtain ⟨a, cap, rfl⟩ := ha.slice
  have hlen := hsm.1
  have hb0 : Below w.heap.size w (w.alloc (.cells #[.int .i64 0, .slice none 0 0] 29)) := (Below.refl _ w).alloc (Nat.le_refl _) _
  have HF := hid (specFault B ss _ _ hsm (ha.below hb0))
  have HI := hid (fun w' => specIn at' 0 ((ss.length : Int) - 1) w')
  have HA := hid ha
  clear ha hsm
  unfold IPost
  go_enter Tryz.func7, Tryz.ntmps7
  go_wp2_with fail
  refine HF.out.mono ?_
  rintro e w1 ⟨rfl, hb1⟩
  have B1 : Below w.heap.size w w1 := hb0.trans (hb1.mono (by simp))
  simp only [World.size_alloc] at hb1
  have l1 : w.heap.size < w1.heap.size := by have := hb1.size; simp at this; omega
  have r0 := kept_cell hb1 (b := w.heap.size) (o := 0) (v := .int .i64 0) (by omega) (by go_simp)
  have r1 := kept_cell hb1 (b := w.heap.size) (o := 1) (v := .slice none 0 0) (by omega) (by go_simp)
  have f0 := kept_free hb1 (b := w.heap.size) (o := 0) (by omega) (by go_simp)
  have f1 := kept_free hb1 (b := w.heap.size) (o := 1) (by omega) (by go_simp)
  clear HF
  by_cases hf : pFault ss = 0
  · have b1 : (pFault ss != 0) = false := by simp [hf]
    have HP := hid (of_p hf)
    have hl : ss.length ≤ 24 := by have := HP.out.1; omega
    by_cases hr : 0 ≤ at' ∧ at' < (ss.length : Int)
    · obtain ⟨k, rfl⟩ : ∃ k : Nat, at' = (k : Int) := ⟨at'.toNat, by omega⟩
      have hk : k < ss.length := by omega
      have e1 : inR (k : Int) 0 ((ss.length : Int) - 1) = true := Ex.inR_iff.2 (by omega)
      rw [e1] at HI
      have HV := hid (under_ok hf hk)
      have HKK := hid (specUnder B ss _ k w1 hl hk HP.out.2.1 (HA.out.below B1))
      clear e1 hr hf
      go_wp2_with (go_at_call 23; refine (HI.out _).mono ?_; rintro e w2 ⟨rfl, hw2⟩; replace hw2 := hw2.symm; subst hw2)
      refine HKK.out.mono ?_
      rintro e w2 ⟨⟨u, rfl, ho⟩, hb2⟩
      obtain ⟨x5, c5, rfl⟩ := Ints.owns_slice ho
      have HO := hid ho
      clear ho
      have B2 := B1.trans (hb2.mono B1.size)
      have l2 : w.heap.size < w2.heap.size := by have := hb2.size; omega
      have s0 := kept_cell hb2 (by omega) r0
      have s1 := kept_cell hb2 (by omega) r1
      have t0 := kept_free hb2 (by omega) f0
      have t1 := kept_free hb2 (by omega) f1
      go_wp2
      refine bodyPost_ret (v := .agg #[.int .i64 0, .slice x5 (underN ss k).length c5]) (by simp [results, Tryz.results7, go_sem, s0, s1]) rfl ⟨⟨_, retI HV.out.1.symm, ?_⟩, setB (setB B2 (Nat.le_refl _) _) (Nat.le_refl _) _⟩
      rw [HV.out.2, intsOf_len, ← kidVals_eq]
      exact own_set (own_set (own_mono HO.out (by omega)) (by omega)) (by omega)
    · have HV := hid (under_range hf hr)
      have e1 : inR at' 0 ((ss.length : Int) - 1) = false := Ex.inR_not.2 (by omega)
      rw [e1] at HI
      clear e1 hr hf
      go_wp2_with (go_at_call 23; refine (HI.out _).mono ?_; rintro e w2 ⟨rfl, hw2⟩; replace hw2 := hw2.symm; subst hw2)
      refine bodyPost_ret (v := .agg #[.int .i64 3, .slice none 0 0]) (by simp [results, Tryz.results7, go_sem, r0, r1]) rfl ⟨⟨_, retI HV.out.1.symm, ?_⟩, setB (setB B1 (Nat.le_refl _) _) (Nat.le_refl _) _⟩
      rw [HV.out.2]
      exact World.ownsRow_nil _ _ _ _
  · have HV := hid (under_fault (at' := at') hf)
    have b1 : (pFault ss != 0) = true := by simpa using hf
    clear hf HI
    go_wp2
    refine bodyPost_ret (v := .agg #[.int .i64 (pFault ss), .slice none 0 0]) (by simp [results, Tryz.results7, go_sem, r0, r1]) rfl ⟨⟨_, retI HV.out.1.symm, ?_⟩, setB (setB B1 (Nat.le_refl _) _) (Nat.le_refl _) _⟩
    rw [HV.out.2]
    exact World.ownsRow_nil _ _ _ _
theorem under_at (ss : List StepD) (k : Nat) : ∀ i (h : i < (underN ss k).length), (underN ss k)[i] = k + i := by
  obtain ⟨m, hm⟩ := under_range' ss k
  intro i hi
  simp only [hm, List.getElem_range']
  omega
theorem under_lt {ss : List StepD} {k : Nat} (hk : k < ss.length) {i : Nat} (h : i < (underN ss k).length) : k + i < ss.length := by
  have := (Kc.end_of hk).le
  unfold Kc.endOf at this
  omega
set_option maxRecDepth 100000 in
set_option maxHeartbeats 16000000 in
theorem implStepsUnder (ss : List StepD) (v : Value) (at' : Int) (w : World) (hsm : St.Small 1048576 ss) (ha : St.At w 0 v ss) (hr : Rul w) :
    Calls Tryz.prog 6 #[v, .int .i64 at'] w (IPost (underC ss at') (underL ss at') w) := by
  obtain ⟨a, cap, rfl⟩ := ha.slice
  have hb0 : Below w.heap.size w (w.alloc (.cells #[.int .i64 0, .slice none 0 0] 29)) := (Below.refl _ w).alloc (Nat.le_refl _) _
  have HF := hid (procStepsC ss _ _ hsm (ha.below hb0) (hr.below hb0 hr.lt))
  have hln := hsm.1
  clear ha hsm hr
  obtain ⟨j0, hj, hy0, hy1, hy2⟩ := info_parts infoI64
  unfold IPost
  go_enter Tryz.func6, Tryz.ntmps6
  go_wp2_with fail
  refine HF.out.mono ?_
  rintro e w1 ⟨⟨u, rfl, hu1, hu2⟩, hb1⟩
  have B1 : Below w.heap.size w w1 := hb0.trans (hb1.mono (by simp))
  simp only [World.size_alloc] at hb1
  have l1 : w.heap.size < w1.heap.size := by have := hb1.size; simp at this; omega
  have r0 := kept_cell hb1 (b := w.heap.size) (o := 0) (v := .int .i64 0) (by omega) (by go_simp)
  have r1 := kept_cell hb1 (b := w.heap.size) (o := 1) (v := .slice none 0 0) (by omega) (by go_simp)
  have f0 := kept_free hb1 (b := w.heap.size) (o := 0) (by omega) (by go_simp)
  have f1 := kept_free hb1 (b := w.heap.size) (o := 1) (by omega) (by go_simp)
  clear HF
  by_cases hf : pFault ss = 0
  · have b1 : (pFault ss != 0) = false := by simp [hf]
    have HP := hid (of_p hf)
    have hl : ss.length ≤ 24 := by have := HP.out.1; omega
    have hPA := (hu2 hf).1
    obtain ⟨gu, cu, rfl, _⟩ := hPA
    have HPA := hid (hu2 hf).1
    have HCAP := hid (hu2 hf).2
    have HHS := hid (fun w' => Ku.hasStep (some ⟨gu, 0, none⟩) ss.length cu at' w' (by omega))
    by_cases hr : 0 ≤ at' ∧ at' < (ss.length : Int)
    · obtain ⟨k, rfl⟩ : ∃ k : Nat, at' = (k : Int) := ⟨at'.toNat, by omega⟩
      have hk : k < ss.length := by omega
      have HV := hid (under_ok hf hk)
      have HWB := hid (Ku.withAllBelow ss gu cu k w1 hl hk HPA.out HCAP.out)
      rw [show (decide ((0 : Int) ≤ (k : Int)) && decide ((k : Int) < (ss.length : Int))) = true by simp; omega] at HHS
      have HUL : Hid (Kc.endOf ss k - k = (underN ss k).length) := hid (by unfold Kc.endOf; omega)
      have HAT := hid (under_at ss k)
      have HLT := hid (fun i => under_lt hk (i := i))
      have hul : (underN ss k).length ≤ 24 := by have := (Kc.end_of hk).le; unfold Kc.endOf at this; omega
      rw [HUL.out] at HWB
      clear hf hu1 hu2 hr
      generalize hus : underN ss k = us at *
      have HUS := hid hus
      clear hus
      go_wp2_with (first | (go_at_call 20; refine (HHS.out _).mono ?_; rintro e w2 ⟨rfl, hw2⟩; replace hw2 := hw2.symm; subst hw2) | (go_at_call 21; refine HWB.out.mono ?_; rintro e w2 ⟨rfl, hb2⟩; have HB2 := hid hb2; clear hb2))
      go_loopw [7, 9, 28] (fun o _ x wr => ∃ j : Nat, x = .int .i64 j ∧ j ≤ us.length ∧ (∃ a5 c5, o = .slice a5 (us.take j).length c5) ∧ Hid (wr.ownsRow w1.heap.size 2 1 o (us.take j).length (kidVals (us.take j))) ∧ Hid (Below w1.heap.size w1 wr)) (fun _ _ x _ => us.length - (intOf x).toNat)
      case atStart => exact ⟨0, rfl, Nat.zero_le _, ⟨_, _, rfl⟩, hid (World.ownsRow_nil _ _ _ 1), HB2⟩
      case round =>
        obtain ⟨j, rfl, hjl, ⟨a5, c5, rfl⟩, HO, HBR⟩ := hrel
        have hz := HBR.out.size
        by_cases hlt : j < us.length
        · have hkj := HLT.out j hlt
          have hP := HPA.out.below HBR.out
          obtain ⟨g', cap', e', hg, hc⟩ := hP
          cases e'
          obtain ⟨kv, vc, ve, d0, d1, d2, d3, d4, d5, d6, d7, d8, hpc⟩ := hc (k + j) hkj
          obtain ⟨ak, ck, rfl⟩ := hpc.kids.slice
          obtain ⟨ac, cc, rfl⟩ := hpc.cond.slice
          obtain ⟨ae, ce, rfl⟩ := hpc.expr.slice
          have eo : (k + j) * 9 = k * 9 + j * 9 := by omega
          rw [eo] at d0 d1 d2 d3 d4 d5 d6 d7 d8
          have q1 : (j : Int) < (us.length : Int) := by omega
          have HN : Hid (us.take (j + 1) = us.take j ++ [k + j]) := hid (by rw [List.take_succ_eq_append_getElem hlt, HAT.out j hlt])
          have hle : (us.take j).length ≤ 24 := by rw [List.length_take]; omega
          clear hc hpc eo
          have hown := HO.out
          generalize us.take j = ks at *
          generalize k + j = kj at *
          generalize (path ss (kj + 1)).length = dp at *
          go_wp2_with (at_builtin; go_must (refine wpList_append_own _ rfl _ _ 27 rfl w1.heap.size 2 j0 (.int .i64 0) 1 8 Tryz.underlying27 hj hy0 hy1 hy2 rfl (by decide) _ _ _ rfl ((hown.alloc _).alloc _) ⟨wr.heap.size + 1, 0, none⟩ 1 1 [.int .i64 (kj : Int)] rfl rfl (Pt.cell_one _ _ (by simp) _ _) (by simp [Value.oneCell']) (by unfold maxLen; omega) (by omega) (by simp; omega) ?_); intro v' w2 hown' hgrow _; obtain ⟨g9, c9, rfl⟩ := ownsRow_succ hown')
          have hB2 : Below w1.heap.size w1 w2 := ((HBR.out.alloc hz _).alloc (by simp; omega) _).grown hgrow (by simp; omega) (fun b e => (Pt.own_lt hown e).1)
          refine ⟨⟨j + 1, by simp, by omega, ⟨some ⟨g9, 0, none⟩, c9, by rw [HN.out, List.length_append]; rfl⟩, hid ?_, hid hB2⟩, by simp [intOf]; omega⟩
          rw [HN.out]
          simpa [kidVals] using hown'
        · have hje : us.take j = us := List.take_of_length_le (by omega)
          rw [hje] at HO
          have s0 := kept_cell HBR.out l1 r0
          have s1 := kept_cell HBR.out l1 r1
          have t0 := kept_free HBR.out l1 f0
          have t1 := kept_free HBR.out l1 f1
          have l2 : w.heap.size < wr.heap.size := Nat.lt_of_lt_of_le l1 HBR.out.size
          have B2 := B1.trans (HBR.out.mono B1.size)
          have q1 : ¬ (j : Int) < (us.length : Int) := by omega
          have HJE := hid hje
          clear hje r0 r1 f0 f1
          go_wp2
          refine bodyPost_ret (v := .agg #[.int .i64 0, .slice a5 (us.take j).length c5]) (by simp [results, Tryz.results6, go_sem, s0, s1]; omega) rfl ⟨⟨_, retI HV.out.1.symm, ?_⟩, setB (setB B2 (Nat.le_refl _) _) (Nat.le_refl _) _⟩
          rw [HV.out.2, intsOf_len, ← kidVals_eq, HJE.out]
          exact own_set (own_set (own_mono HO.out (by omega)) (by omega)) (by omega)
    · have HV := hid (under_range hf hr)
      rw [show (decide (0 ≤ at') && decide (at' < (ss.length : Int))) = false by simp; omega] at HHS
      clear hf hu1 hu2 hr
      go_wp2_with (go_at_call 20; refine (HHS.out _).mono ?_; rintro e w2 ⟨rfl, hw2⟩; replace hw2 := hw2.symm; subst hw2)
      refine bodyPost_ret (v := .agg #[.int .i64 3, .slice none 0 0]) (by simp [results, Tryz.results6, go_sem, r0, r1]) rfl ⟨⟨_, retI HV.out.1.symm, ?_⟩, setB (setB B1 (Nat.le_refl _) _) (Nat.le_refl _) _⟩
      rw [HV.out.2]
      exact World.ownsRow_nil _ _ _ _
  · have HV := hid (under_fault (at' := at') hf)
    have b1 : (pFault ss != 0) = true := bne_iff_ne.2 hf
    obtain rfl := hu1 hf
    clear hf hu1 hu2
    go_wp2
    refine bodyPost_ret (v := .agg #[.int .i64 (pFault ss), .slice none 0 0]) (by simp [results, Tryz.results6, go_sem, r0, r1]) rfl ⟨⟨_, retI HV.out.1.symm, ?_⟩, setB (setB B1 (Nat.le_refl _) _) (Nat.le_refl _) _⟩
    rw [HV.out.2]
    exact World.ownsRow_nil _ _ _ _

end Pf
end Go.Proofs.YtnbmpofmieagfaaGreatDoor
