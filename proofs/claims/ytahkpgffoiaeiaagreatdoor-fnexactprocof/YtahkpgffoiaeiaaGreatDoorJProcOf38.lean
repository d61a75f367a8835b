/- What TreeOf tells of a process, as plain functions: the element of each step, and the code. -/
import Derived.Test.YtahkpgffoiaeiaaGreatDoorJProcOf11
import Derived.Test.YtahkpgffoiaeiaaGreatDoorJProcOf2
namespace Go.Proofs.YtahkpgffoiaeiaaGreatDoor
open Go.RowKit
open Go
set_option linter.unusedVariables false
namespace Tf
open Ex (hid inR eFault str str_size textOf text_ok top_of_e of_e top_nodes near_of_ok)
open Nd (NodeD)
open St (StepD)
open Tr (AttrD ElemD nf vcode acode acodeFrom hasName fault faultFrom plainB plainAll azByte azAll onPath cutTo)
open Pf
open Go.Lib (decDigits)
def aIf : ByteArray := ⟨#[105, 102]⟩
def aName : ByteArray := ⟨#[110, 97, 109, 101]⟩
def aMsg : ByteArray := ⟨#[109, 115, 103]⟩
def aTicks : ByteArray := ⟨#[116, 105, 99, 107, 115]⟩
def aVar : ByteArray := ⟨#[118, 97, 114]⟩
def aTo : ByteArray := ⟨#[116, 111]⟩
def digs (s : StepD) : ByteArray := str (decDigits s.arg.toNat)
def condA (s : StepD) : List AttrD := if s.cond.length = 0 then [] else [⟨aIf, str (textOf s.cond)⟩]
def kindA (s : StepD) : List AttrD := if s.kind = 2 then [⟨aName, s.name⟩] else if s.kind = 5 then [⟨aMsg, digs s⟩] else if s.kind = 6 ∨ s.kind = 8 then [⟨aTicks, digs s⟩] else if s.kind = 7 then [⟨aVar, digs s⟩, ⟨aTo, str (textOf s.expr)⟩] else []
def attrsOf (s : StepD) : List AttrD := condA s ++ kindA s
def elemD (s : StepD) : ElemD := ⟨str (wordL s.kind), s.parent, attrsOf s⟩
def treeL (ss : List StepD) : List ElemD := ss.map elemD
def longA (a : AttrD) : Bool := decide (40 < a.value.size)
def long (s : StepD) : Bool := (attrsOf s).any longA
theorem dig_plain {b : UInt8} (h : Ex.isD b = true) : plainB b = true := by
  unfold Ex.isD at h
  unfold plainB
  simp only [Bool.and_eq_true, decide_eq_true_eq] at h ⊢
  omega
theorem dec_plain (n : Nat) : plainAll (decDigits n) = true := by
  unfold plainAll
  rw [List.all_eq_true]
  exact fun b hb => dig_plain (Ex.dec_isD n b hb)
theorem sign_plain (k : Int) : plainB (Ex.signOf k) = true := by
  unfold Ex.signOf
  repeat' split
  all_goals decide
theorem plain_cons {b : UInt8} {l : List UInt8} (h : plainB b = true) (h2 : plainAll l = true) : plainAll (b :: l) = true := by
  unfold plainAll at *
  rw [List.all_cons, h, h2]; rfl
theorem plain_app {a l : List UInt8} (h : plainAll a = true) (h2 : plainAll l = true) : plainAll (a ++ l) = true := by
  unfold plainAll at *
  rw [List.all_append, h, h2]; rfl
theorem txt_plain : ∀ (t : Ex.Tm), t.near → plainAll t.txt = true
  | ⟨[], false, n⟩, h => by simp only [Ex.Tm.txt]; exact dec_plain _
  | ⟨[], true, n⟩, h => by simp only [Ex.Tm.txt]; exact plain_cons (by decide) (dec_plain _)
  | ⟨[t], _, _⟩, h => by
    obtain ⟨h, rfl, rfl⟩ := h
    simp only [Ex.Tm.txt]
    exact plain_cons (by decide) (txt_plain t h)
  | ⟨a :: c :: _, _, k⟩, h => by
    obtain ⟨h, rfl, rfl⟩ := h
    simp only [Ex.Tm.txt]
    exact plain_cons (by decide) (plain_app (txt_plain a h.2.2.1) (plain_cons (sign_plain k) (plain_app (txt_plain c h.2.2.2) (by decide))))
theorem text_plain {ns : List NodeD} (h : eFault ns = 0) : plainAll (textOf ns) = true := by
  obtain ⟨t, ht⟩ := top_of_e h
  rw [text_ok h ht]
  exact txt_plain t (near_of_ok (top_nodes h ht).2.1)
theorem az_plain {l : List UInt8} (h : nf l = 0) : plainAll l = true := by
  have ha : azAll l = true := by
    unfold nf at h
    by_cases c : azAll l = false
    · rw [if_pos c] at h; cases h
    · simpa using c
  unfold azAll at ha
  unfold plainAll
  rw [List.all_eq_true] at ha ⊢
  intro b hb
  have := ha b hb
  unfold azByte at this
  unfold plainB
  simp only [Bool.and_eq_true, decide_eq_true_eq] at this ⊢
  omega
theorem str_list (l : List UInt8) : (str l).data.toList = l := rfl
def Good (pre : List AttrD) : List AttrD → Prop
  | [] => True
  | a :: r => nf a.name.data.toList = 0 ∧ hasName pre a.name = false ∧ plainAll a.value.data.toList = true ∧ Good (pre ++ [a]) r
theorem acode_good : ∀ (l pre : List AttrD), Good pre l → acodeFrom pre l = if l.any longA = true then 2 else 0
  | [], _, _ => rfl
  | a :: r, pre, h => by
    obtain ⟨h1, h2, h3, h4⟩ := h
    unfold acodeFrom
    rw [if_neg (by simp [h1]), if_neg (by simp [h2])]
    have hv : vcode a.value.data.toList = if longA a = true then 2 else 0 := by
      unfold vcode longA
      rw [bsize]
      by_cases c : 40 < a.value.size
      · simp [c]
      · simp [c, h3]
    rw [hv, acode_good r _ h4, List.any_cons]
    cases e : longA a
    · simp
    · simp
theorem has_one {a b : ByteArray} {v : ByteArray} (h : (a.data.toList == b.data.toList) = false) : hasName [⟨a, v⟩] b = false := by
  unfold hasName
  simp only [List.any_cons, List.any_nil, Bool.or_false]
  rw [ByteArray.toList_eq, ByteArray.toList_eq]
  exact h
theorem has_two {a b c : ByteArray} {v u : ByteArray} (h : (a.data.toList == c.data.toList) = false) (h2 : (b.data.toList == c.data.toList) = false) : hasName [⟨a, v⟩, ⟨b, u⟩] c = false := by
  unfold hasName
  simp only [List.any_cons, List.any_nil, Bool.or_false]
  rw [ByteArray.toList_eq, ByteArray.toList_eq, ByteArray.toList_eq, h, h2]
  rfl
theorem nf_if : nf aIf.data.toList = 0 := by decide
theorem nf_name : nf aName.data.toList = 0 := by decide
theorem nf_msg : nf aMsg.data.toList = 0 := by decide
theorem nf_ticks : nf aTicks.data.toList = 0 := by decide
theorem nf_var : nf aVar.data.toList = 0 := by decide
theorem nf_to : nf aTo.data.toList = 0 := by decide
theorem sz_if : aIf.size ≤ 5 := by decide
theorem sz_name : aName.size ≤ 5 := by decide
theorem sz_msg : aMsg.size ≤ 5 := by decide
theorem sz_ticks : aTicks.size ≤ 5 := by decide
theorem sz_var : aVar.size ≤ 5 := by decide
theorem sz_to : aTo.size ≤ 5 := by decide
theorem good_kind {s : StepD} (h : Fine s) (hn : s.kind = 2 → nf s.name.data.toList = 0) : ∀ pre, (∀ nm, nm = aName ∨ nm = aMsg ∨ nm = aTicks ∨ nm = aVar ∨ nm = aTo → hasName pre nm = false) → (∀ v, hasName (pre ++ [⟨aVar, v⟩]) aTo = false) → Good pre (kindA s) := by
  intro pre hp hq
  unfold kindA
  by_cases k2 : s.kind = 2
  · rw [if_pos k2]
    exact ⟨nf_name, hp _ (by simp), az_plain (hn k2), trivial⟩
  · rw [if_neg k2]
    by_cases k5 : s.kind = 5
    · rw [if_pos k5]
      exact ⟨nf_msg, hp _ (by simp), dec_plain _, trivial⟩
    · rw [if_neg k5]
      by_cases k6 : s.kind = 6 ∨ s.kind = 8
      · rw [if_pos k6]
        exact ⟨nf_ticks, hp _ (by simp), dec_plain _, trivial⟩
      · rw [if_neg k6]
        by_cases k7 : s.kind = 7
        · rw [if_pos k7]
          exact ⟨nf_var, hp _ (by simp), dec_plain _, nf_to, hq _, text_plain (h.expr k7), trivial⟩
        · rw [if_neg k7]
          trivial
theorem good_all {s : StepD} (h : Fine s) (hn : s.kind = 2 → nf s.name.data.toList = 0) : Good [] (attrsOf s) := by
  unfold attrsOf condA
  by_cases hc : s.cond.length = 0
  · rw [if_pos hc, List.nil_append]
    exact good_kind h hn [] (fun nm _ => rfl) (fun v => has_one (by decide))
  · rw [if_neg hc]
    refine ⟨nf_if, rfl, text_plain (h.cond (by omega)), ?_⟩
    refine good_kind h hn _ (fun nm e => ?_) (fun v => has_two (by decide) (by decide))
    rcases e with rfl | rfl | rfl | rfl | rfl
    all_goals exact has_one (by decide)
theorem acode_of {s : StepD} (h : Fine s) (hn : s.kind = 2 → nf s.name.data.toList = 0) : acode (attrsOf s) = if long s = true then 2 else 0 := acode_good _ _ (good_all h hn)
theorem attrs_len (s : StepD) : (attrsOf s).length ≤ 3 := by
  unfold attrsOf condA kindA
  rw [List.length_append]
  repeat' split
  all_goals simp
theorem word_nf {k : Int} (h : inR k 1 8 = true) : nf (wordL k) = 0 := by
  have h' := Ex.inR_iff.1 h
  obtain rfl | rfl | rfl | rfl | rfl | rfl | rfl | rfl : k = 1 ∨ k = 2 ∨ k = 3 ∨ k = 4 ∨ k = 5 ∨ k = 6 ∨ k = 7 ∨ k = 8 := by omega
  all_goals decide
theorem name_nf {ss : List StepD} {i : Nat} (hi : i < ss.length) (h : pFault ss = 0) : ss[i].kind = 2 → nf ss[i].name.data.toList = 0 := by
  intro hk
  obtain ⟨_, h1, _, _⟩ := of_p h
  have e := (of_one (first_all h1 hi)).2.2.2.2
  rw [PJ_eq hi] at e
  by_cases hn : nf ss[i].name.data.toList = 0
  · exact hn
  · rw [part_name hk hn] at e; exact absurd e hn
theorem drop_tree {ss : List StepD} {i : Nat} (h : i < ss.length) : (treeL ss).drop i = elemD ss[i] :: (treeL ss).drop (i + 1) := by
  unfold treeL
  rw [← List.map_drop, ← List.map_drop, List.drop_eq_getElem_cons h, List.map_cons]
theorem drop_step {ss : List StepD} {i : Nat} (h : i < ss.length) : ss.drop i = ss[i] :: ss.drop (i + 1) := List.drop_eq_getElem_cons h
theorem fault_from {ss : List StepD} (h : pFault ss = 0) : ∀ (k i : Nat), i + k = ss.length → faultFrom i (path ss i) ((treeL ss).drop i) = if (ss.drop i).any long = true then 2 else 0
  | 0, i, hi => by
    rw [List.drop_eq_nil_of_le (by unfold treeL; rw [List.length_map]; omega), List.drop_eq_nil_of_le (by omega)]
    rfl
  | k + 1, i, hi => by
    have hlt : i < ss.length := by omega
    obtain ⟨hm, h1, h2, h3⟩ := of_p h
    obtain ⟨e1, e2, e3, e4, e5⟩ := of_one (first_all h1 hlt)
    rw [PJ_eq hlt] at e1 e2 e3 e5
    have hp : path ss (i + 1) = i :: cutTo ss[i].parent (path ss i) := by rw [path, PJ_eq hlt]
    have hF := fine hlt h
    have ih := fault_from h k (i + 1) (by omega)
    rw [drop_tree hlt, drop_step hlt, faultFrom]
    rw [hp] at e4 ih
    simp only [List.length_cons] at e4
    have ha := attrs_len ss[i]
    have hc := acode_of hF (name_nf hlt h)
    have hw : nf (elemD ss[i]).tag.data.toList = 0 := word_nf hF.kind
    have hpar : ¬ ((i = 0 ∧ (elemD ss[i]).parent ≠ -1) ∨ (0 < i ∧ ¬ (0 ≤ (elemD ss[i]).parent ∧ (elemD ss[i]).parent < i))) := fun e => by
      have := par_not.2 e
      rw [show (elemD ss[i]).parent = ss[i].parent from rfl, e2] at this
      cases this
    have hon : ¬ (0 < i ∧ onPath (elemD ss[i]).parent (path ss i) = false) := e3
    have hma : ¬ (8 < (cutTo (elemD ss[i]).parent (path ss i)).length + 1 ∨ 6 < (elemD ss[i]).attrs.length) := by
      rw [show (elemD ss[i]).parent = ss[i].parent from rfl, show (elemD ss[i]).attrs = attrsOf ss[i] from rfl]
      omega
    rw [if_neg (by simp [hw]), if_neg hpar, if_neg hon, if_neg hma, show (elemD ss[i]).attrs = attrsOf ss[i] from rfl, hc, show (elemD ss[i]).parent = ss[i].parent from rfl, ih, List.any_cons]
    cases e : long ss[i]
    · simp
    · simp
theorem fault_tree {ss : List StepD} (h : pFault ss = 0) : fault (treeL ss) = if ss.any long = true then 2 else 0 := by
  obtain ⟨hm, _⟩ := of_p h
  have hl : (treeL ss).length = ss.length := by unfold treeL; rw [List.length_map]
  unfold fault
  rw [hl, if_neg (by omega)]
  have := fault_from h ss.length 0 (by omega)
  simpa [path] using this
/-- The code that TreeOf tells. -/
def treeC (ss : List StepD) : Int := if pFault ss = 0 then fault (treeL ss) else pFault ss
def treeE (ss : List StepD) : List ElemD := if treeC ss = 0 then treeL ss else []
theorem treeC_p {ss : List StepD} (h : pFault ss ≠ 0) : treeC ss = pFault ss := if_neg h
theorem treeC_f {ss : List StepD} (h : pFault ss = 0) : treeC ss = fault (treeL ss) := if_pos h
theorem treeC_long {ss : List StepD} (h : pFault ss = 0) {i : Nat} (hi : i < ss.length) (hl : long ss[i] = true) : treeC ss = 2 := by
  rw [treeC_f h, fault_tree h, if_pos]
  rw [List.any_eq_true]
  exact ⟨ss[i], List.getElem_mem hi, hl⟩
theorem val_size {s : StepD} (h : Fine s) (hn : s.kind = 2 → nf s.name.data.toList = 0) : ∀ a ∈ attrsOf s, a.name.size ≤ 5 ∧ a.value.size ≤ 64 := by
  intro a ha
  unfold attrsOf condA kindA at ha
  have t1 := fun (h0 : s.cond.length ≠ 0) => text_len (h.cond (by omega))
  have t2 := fun (h0 : s.kind = 7) => text_len (h.expr h0)
  have t3 := dig_len h.arg
  have t4 := h.name
  rcases List.mem_append.1 ha with ha | ha
  · by_cases hc : s.cond.length = 0
    · rw [if_pos hc] at ha; simp at ha
    · rw [if_neg hc] at ha
      simp only [List.mem_singleton] at ha
      subst ha
      exact ⟨sz_if, by rw [str_size]; exact t1 hc⟩
  · by_cases k2 : s.kind = 2
    · rw [if_pos k2] at ha
      simp only [List.mem_singleton] at ha
      subst ha
      have := t4 k2
      exact ⟨sz_name, by show s.name.size ≤ 64; omega⟩
    · rw [if_neg k2] at ha
      have hd : (digs s).size ≤ 64 := by unfold digs; rw [str_size]; omega
      by_cases k5 : s.kind = 5
      · rw [if_pos k5] at ha
        simp only [List.mem_singleton] at ha
        subst ha
        exact ⟨sz_msg, hd⟩
      · rw [if_neg k5] at ha
        by_cases k6 : s.kind = 6 ∨ s.kind = 8
        · rw [if_pos k6] at ha
          simp only [List.mem_singleton] at ha
          subst ha
          exact ⟨sz_ticks, hd⟩
        · rw [if_neg k6] at ha
          by_cases k7 : s.kind = 7
          · rw [if_pos k7] at ha
            simp only [List.mem_cons, List.not_mem_nil, or_false] at ha
            rcases ha with rfl | rfl
            · exact ⟨sz_var, hd⟩
            · exact ⟨sz_to, by rw [str_size]; exact t2 k7⟩
          · rw [if_neg k7] at ha; simp at ha
end Tf
end Go.Proofs.YtahkpgffoiaeiaaGreatDoor
