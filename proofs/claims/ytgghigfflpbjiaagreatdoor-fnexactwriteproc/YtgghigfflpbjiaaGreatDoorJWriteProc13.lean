/- Laid together: TfM, Nst. -/
import Derived.Test.YtgghigfflpbjiaaGreatDoorJWriteProc12
import Derived.Test.YtgghigfflpbjiaaGreatDoorJWriteProc2
import Derived.Test.YtgghigfflpbjiaaGreatDoorProg
import Derived.WalkKit
import Derived.Below
import Derived.Laws.AppendOwn
import Derived.Laws.OwnMore
/- What TreeOf tells of a process, as plain functions: the element of each step, and the code. -/
namespace Go.Proofs.YtgghigfflpbjiaaGreatDoor
open Go.RowKit
open Go
set_option linter.unusedVariables false
namespace Tf
open Ex (hid inR eFault str str_size textOf text_ok top_of_e of_e top_nodes near_of_ok)
open Nd (NodeD)
open St (StepD)
open Tr (AttrD ElemD nf vcode acode acodeFrom hasName fault faultFrom plainB plainAll azByte azAll onPath cutTo)
open Pf
open Go.Lib (decDigits)
def aIf : ByteArray := ⟨#[105, 102]⟩
def aName : ByteArray := ⟨#[110, 97, 109, 101]⟩
def aMsg : ByteArray := ⟨#[109, 115, 103]⟩
def aTicks : ByteArray := ⟨#[116, 105, 99, 107, 115]⟩
def aVar : ByteArray := ⟨#[118, 97, 114]⟩
def aTo : ByteArray := ⟨#[116, 111]⟩
def digs (s : StepD) : ByteArray := str (decDigits s.arg.toNat)
def condA (s : StepD) : List AttrD := if s.cond.length = 0 then [] else [⟨aIf, str (textOf s.cond)⟩]
def kindA (s : StepD) : List AttrD := if s.kind = 2 then [⟨aName, s.name⟩] else if s.kind = 5 then [⟨aMsg, digs s⟩] else if s.kind = 6 ∨ s.kind = 8 then [⟨aTicks, digs s⟩] else if s.kind = 7 then [⟨aVar, digs s⟩, ⟨aTo, str (textOf s.expr)⟩] else []
def attrsOf (s : StepD) : List AttrD := condA s ++ kindA s
def elemD (s : StepD) : ElemD := ⟨str (wordL s.kind), s.parent, attrsOf s⟩
def treeL (ss : List StepD) : List ElemD := ss.map elemD
def longA (a : AttrD) : Bool := decide (40 < a.value.size)
def long (s : StepD) : Bool := (attrsOf s).any longA
theorem dig_plain {b : UInt8} (h : Ex.isD b = true) : plainB b = true := by
  unfold Ex.isD at h
  unfold plainB
  simp only [Bool.and_eq_true, decide_eq_true_eq] at h ⊢
  omega
theorem dec_plain (n : Nat) : plainAll (decDigits n) = true := by
  unfold plainAll
  rw [List.all_eq_true]
  exact fun b hb => dig_plain (Ex.dec_isD n b hb)
theorem sign_plain (k : Int) : plainB (Ex.signOf k) = true := by
  unfold Ex.signOf
  repeat' split
  all_goals decide
theorem plain_cons {b : UInt8} {l : List UInt8} (h : plainB b = true) (h2 : plainAll l = true) : plainAll (b :: l) = true := by
  unfold plainAll at *
  rw [List.all_cons, h, h2]; rfl
theorem plain_app {a l : List UInt8} (h : plainAll a = true) (h2 : plainAll l = true) : plainAll (a ++ l) = true := by
  unfold plainAll at *
  rw [List.all_append, h, h2]; rfl
theorem txt_plain : ∀ (t : Ex.Tm), t.near → plainAll t.txt = true
  | ⟨[], false, n⟩, h => by simp only [Ex.Tm.txt]; exact dec_plain _
  | ⟨[], true, n⟩, h => by simp only [Ex.Tm.txt]; exact plain_cons (by decide) (dec_plain _)
  | ⟨[t], _, _⟩, h => by
    obtain ⟨h, rfl, rfl⟩ := h
    simp only [Ex.Tm.txt]
    exact plain_cons (by decide) (txt_plain t h)
  | ⟨a :: c :: _, _, k⟩, h => by
    obtain ⟨h, rfl, rfl⟩ := h
    simp only [Ex.Tm.txt]
    exact plain_cons (by decide) (plain_app (txt_plain a h.2.2.1) (plain_cons (sign_plain k) (plain_app (txt_plain c h.2.2.2) (by decide))))
theorem text_plain {ns : List NodeD} (h : eFault ns = 0) : plainAll (textOf ns) = true := by
  obtain ⟨t, ht⟩ := top_of_e h
  rw [text_ok h ht]
  exact txt_plain t (near_of_ok (top_nodes h ht).2.1)
theorem az_plain {l : List UInt8} (h : nf l = 0) : plainAll l = true := by
  have ha : azAll l = true := by
    unfold nf at h
    by_cases c : azAll l = false
    · rw [if_pos c] at h; cases h
    · simpa using c
  unfold azAll at ha
  unfold plainAll
  rw [List.all_eq_true] at ha ⊢
  intro b hb
  have := ha b hb
  unfold azByte at this
  unfold plainB
  simp only [Bool.and_eq_true, decide_eq_true_eq] at this ⊢
  omega
theorem str_list (l : List UInt8) : (str l).data.toList = l := rfl
def Good (pre : List AttrD) : List AttrD → Prop
  | [] => True
  | a :: r => nf a.name.data.toList = 0 ∧ hasName pre a.name = false ∧ plainAll a.value.data.toList = true ∧ Good (pre ++ [a]) r
theorem acode_good : ∀ (l pre : List AttrD), Good pre l → acodeFrom pre l = if l.any longA = true then 2 else 0
  | [], _, _ => rfl
  | a :: r, pre, h => by
    obtain ⟨h1, h2, h3, h4⟩ := h
    unfold acodeFrom
    rw [if_neg (by simp [h1]), if_neg (by simp [h2])]
    have hv : vcode a.value.data.toList = if longA a = true then 2 else 0 := by
      unfold vcode longA
      rw [bsize]
      by_cases c : 40 < a.value.size
      · simp [c]
      · simp [c, h3]
    rw [hv, acode_good r _ h4, List.any_cons]
    cases e : longA a
    · simp
    · simp
theorem has_one {a b : ByteArray} {v : ByteArray} (h : (a.data.toList == b.data.toList) = false) : hasName [⟨a, v⟩] b = false := by
  unfold hasName
  simp only [List.any_cons, List.any_nil, Bool.or_false]
  rw [ByteArray.toList_eq, ByteArray.toList_eq]
  exact h
theorem has_two {a b c : ByteArray} {v u : ByteArray} (h : (a.data.toList == c.data.toList) = false) (h2 : (b.data.toList == c.data.toList) = false) : hasName [⟨a, v⟩, ⟨b, u⟩] c = false := by
  unfold hasName
  simp only [List.any_cons, List.any_nil, Bool.or_false]
  rw [ByteArray.toList_eq, ByteArray.toList_eq, ByteArray.toList_eq, h, h2]
  rfl
theorem nf_if : nf aIf.data.toList = 0 := by decide
theorem nf_name : nf aName.data.toList = 0 := by decide
theorem nf_msg : nf aMsg.data.toList = 0 := by decide
theorem nf_ticks : nf aTicks.data.toList = 0 := by decide
theorem nf_var : nf aVar.data.toList = 0 := by decide
theorem nf_to : nf aTo.data.toList = 0 := by decide
theorem sz_if : aIf.size ≤ 5 := by decide
theorem sz_name : aName.size ≤ 5 := by decide
theorem sz_msg : aMsg.size ≤ 5 := by decide
theorem sz_ticks : aTicks.size ≤ 5 := by decide
theorem sz_var : aVar.size ≤ 5 := by decide
theorem sz_to : aTo.size ≤ 5 := by decide
theorem good_kind {s : StepD} (h : Fine s) (hn : s.kind = 2 → nf s.name.data.toList = 0) : ∀ pre, (∀ nm, nm = aName ∨ nm = aMsg ∨ nm = aTicks ∨ nm = aVar ∨ nm = aTo → hasName pre nm = false) → (∀ v, hasName (pre ++ [⟨aVar, v⟩]) aTo = false) → Good pre (kindA s) := by
  intro pre hp hq
  unfold kindA
  by_cases k2 : s.kind = 2
  · rw [if_pos k2]
    exact ⟨nf_name, hp _ (by simp), az_plain (hn k2), trivial⟩
  · rw [if_neg k2]
    by_cases k5 : s.kind = 5
    · rw [if_pos k5]
      exact ⟨nf_msg, hp _ (by simp), dec_plain _, trivial⟩
    · rw [if_neg k5]
      by_cases k6 : s.kind = 6 ∨ s.kind = 8
      · rw [if_pos k6]
        exact ⟨nf_ticks, hp _ (by simp), dec_plain _, trivial⟩
      · rw [if_neg k6]
        by_cases k7 : s.kind = 7
        · rw [if_pos k7]
          exact ⟨nf_var, hp _ (by simp), dec_plain _, nf_to, hq _, text_plain (h.expr k7), trivial⟩
        · rw [if_neg k7]
          trivial
theorem good_all {s : StepD} (h : Fine s) (hn : s.kind = 2 → nf s.name.data.toList = 0) : Good [] (attrsOf s) := by
  unfold attrsOf condA
  by_cases hc : s.cond.length = 0
  · rw [if_pos hc, List.nil_append]
    exact good_kind h hn [] (fun nm _ => rfl) (fun v => has_one (by decide))
  · rw [if_neg hc]
    refine ⟨nf_if, rfl, text_plain (h.cond (by omega)), ?_⟩
    refine good_kind h hn _ (fun nm e => ?_) (fun v => has_two (by decide) (by decide))
    rcases e with rfl | rfl | rfl | rfl | rfl
    all_goals exact has_one (by decide)
theorem acode_of {s : StepD} (h : Fine s) (hn : s.kind = 2 → nf s.name.data.toList = 0) : acode (attrsOf s) = if long s = true then 2 else 0 := acode_good _ _ (good_all h hn)
theorem attrs_len (s : StepD) : (attrsOf s).length ≤ 3 := by
  unfold attrsOf condA kindA
  rw [List.length_append]
  repeat' split
  all_goals simp
theorem word_nf {k : Int} (h : inR k 1 8 = true) : nf (wordL k) = 0 := by
  have h' := Ex.inR_iff.1 h
  obtain rfl | rfl | rfl | rfl | rfl | rfl | rfl | rfl : k = 1 ∨ k = 2 ∨ k = 3 ∨ k = 4 ∨ k = 5 ∨ k = 6 ∨ k = 7 ∨ k = 8 := by omega
  all_goals decide
theorem name_nf {ss : List StepD} {i : Nat} (hi : i < ss.length) (h : pFault ss = 0) : ss[i].kind = 2 → nf ss[i].name.data.toList = 0 := by
  intro hk
  obtain ⟨_, h1, _, _⟩ := of_p h
  have e := (of_one (first_all h1 hi)).2.2.2.2
  rw [PJ_eq hi] at e
  by_cases hn : nf ss[i].name.data.toList = 0
  · exact hn
  · rw [part_name hk hn] at e; exact absurd e hn
theorem drop_tree {ss : List StepD} {i : Nat} (h : i < ss.length) : (treeL ss).drop i = elemD ss[i] :: (treeL ss).drop (i + 1) := by
  unfold treeL
  rw [← List.map_drop, ← List.map_drop, List.drop_eq_getElem_cons h, List.map_cons]
theorem drop_step {ss : List StepD} {i : Nat} (h : i < ss.length) : ss.drop i = ss[i] :: ss.drop (i + 1) := List.drop_eq_getElem_cons h
theorem fault_from {ss : List StepD} (h : pFault ss = 0) : ∀ (k i : Nat), i + k = ss.length → faultFrom i (path ss i) ((treeL ss).drop i) = if (ss.drop i).any long = true then 2 else 0
  | 0, i, hi => by
    rw [List.drop_eq_nil_of_le (by unfold treeL; rw [List.length_map]; omega), List.drop_eq_nil_of_le (by omega)]
    rfl
  | k + 1, i, hi => by
    have hlt : i < ss.length := by omega
    obtain ⟨hm, h1, h2, h3⟩ := of_p h
    obtain ⟨e1, e2, e3, e4, e5⟩ := of_one (first_all h1 hlt)
    rw [PJ_eq hlt] at e1 e2 e3 e5
    have hp : path ss (i + 1) = i :: cutTo ss[i].parent (path ss i) := by rw [path, PJ_eq hlt]
    have hF := fine hlt h
    have ih := fault_from h k (i + 1) (by omega)
    rw [drop_tree hlt, drop_step hlt, faultFrom]
    rw [hp] at e4 ih
    simp only [List.length_cons] at e4
    have ha := attrs_len ss[i]
    have hc := acode_of hF (name_nf hlt h)
    have hw : nf (elemD ss[i]).tag.data.toList = 0 := word_nf hF.kind
    have hpar : ¬ ((i = 0 ∧ (elemD ss[i]).parent ≠ -1) ∨ (0 < i ∧ ¬ (0 ≤ (elemD ss[i]).parent ∧ (elemD ss[i]).parent < i))) := fun e => by
      have := par_not.2 e
      rw [show (elemD ss[i]).parent = ss[i].parent from rfl, e2] at this
      cases this
    have hon : ¬ (0 < i ∧ onPath (elemD ss[i]).parent (path ss i) = false) := e3
    have hma : ¬ (8 < (cutTo (elemD ss[i]).parent (path ss i)).length + 1 ∨ 6 < (elemD ss[i]).attrs.length) := by
      rw [show (elemD ss[i]).parent = ss[i].parent from rfl, show (elemD ss[i]).attrs = attrsOf ss[i] from rfl]
      omega
    rw [if_neg (by simp [hw]), if_neg hpar, if_neg hon, if_neg hma, show (elemD ss[i]).attrs = attrsOf ss[i] from rfl, hc, show (elemD ss[i]).parent = ss[i].parent from rfl, ih, List.any_cons]
    cases e : long ss[i]
    · simp
    · simp
theorem fault_tree {ss : List StepD} (h : pFault ss = 0) : fault (treeL ss) = if ss.any long = true then 2 else 0 := by
  obtain ⟨hm, _⟩ := of_p h
  have hl : (treeL ss).length = ss.length := by unfold treeL; rw [List.length_map]
  unfold fault
  rw [hl, if_neg (by omega)]
  have := fault_from h ss.length 0 (by omega)
  simpa [path] using this
/-- The code that TreeOf tells. -/
def treeC (ss : List StepD) : Int := if pFault ss = 0 then fault (treeL ss) else pFault ss
def treeE (ss : List StepD) : List ElemD := if treeC ss = 0 then treeL ss else []
theorem treeC_p {ss : List StepD} (h : pFault ss ≠ 0) : treeC ss = pFault ss := if_neg h
theorem treeC_f {ss : List StepD} (h : pFault ss = 0) : treeC ss = fault (treeL ss) := if_pos h
theorem treeC_long {ss : List StepD} (h : pFault ss = 0) {i : Nat} (hi : i < ss.length) (hl : long ss[i] = true) : treeC ss = 2 := by
  rw [treeC_f h, fault_tree h, if_pos]
  rw [List.any_eq_true]
  exact ⟨ss[i], List.getElem_mem hi, hl⟩
theorem val_size {s : StepD} (h : Fine s) (hn : s.kind = 2 → nf s.name.data.toList = 0) : ∀ a ∈ attrsOf s, a.name.size ≤ 5 ∧ a.value.size ≤ 64 := by
  intro a ha
  unfold attrsOf condA kindA at ha
  have t1 := fun (h0 : s.cond.length ≠ 0) => text_len (h.cond (by omega))
  have t2 := fun (h0 : s.kind = 7) => text_len (h.expr h0)
  have t3 := dig_len h.arg
  have t4 := h.name
  rcases List.mem_append.1 ha with ha | ha
  · by_cases hc : s.cond.length = 0
    · rw [if_pos hc] at ha; simp at ha
    · rw [if_neg hc] at ha
      simp only [List.mem_singleton] at ha
      subst ha
      exact ⟨sz_if, by rw [str_size]; exact t1 hc⟩
  · by_cases k2 : s.kind = 2
    · rw [if_pos k2] at ha
      simp only [List.mem_singleton] at ha
      subst ha
      have := t4 k2
      exact ⟨sz_name, by show s.name.size ≤ 64; omega⟩
    · rw [if_neg k2] at ha
      have hd : (digs s).size ≤ 64 := by unfold digs; rw [str_size]; omega
      by_cases k5 : s.kind = 5
      · rw [if_pos k5] at ha
        simp only [List.mem_singleton] at ha
        subst ha
        exact ⟨sz_msg, hd⟩
      · rw [if_neg k5] at ha
        by_cases k6 : s.kind = 6 ∨ s.kind = 8
        · rw [if_pos k6] at ha
          simp only [List.mem_singleton] at ha
          subst ha
          exact ⟨sz_ticks, hd⟩
        · rw [if_neg k6] at ha
          by_cases k7 : s.kind = 7
          · rw [if_pos k7] at ha
            simp only [List.mem_cons, List.not_mem_nil, or_false] at ha
            rcases ha with rfl | rfl
            · exact ⟨sz_var, hd⟩
            · exact ⟨sz_to, by rw [str_size]; exact t2 k7⟩
          · rw [if_neg k7] at ha; simp at ha
end Tf
end Go.Proofs.YtgghigfflpbjiaaGreatDoor
/- Rows of records that hold rows of their own, as a function makes them itself: each row lies in a block of its own. -/
namespace Go.Proofs.YtgghigfflpbjiaaGreatDoor
open Go.RowKit
set_option linter.unusedVariables false
namespace Nst
def own (v : Value) (b : Nat) : Prop := v.ownBlock = some b
def flat (f : Nat → List Value) (n : Nat) : List Value := (List.range n).flatMap f
theorem flat_succ (f : Nat → List Value) (n : Nat) : flat f (n + 1) = flat f n ++ f n := by simp [flat, List.range_succ]
theorem flat_len {f : Nat → List Value} {z : Nat} : ∀ n, (∀ j, j < n → (f j).length = z) → (flat f n).length = n * z
  | 0, _ => by simp [flat]
  | n + 1, h => by rw [flat_succ, List.length_append, flat_len n (fun j hj => h j (by omega)), h n (by omega), Nat.succ_mul]
theorem mul_lt {j n c z : Nat} (hj : j < n) (hc : c < z) : j * z + c < n * z := by
  have h1 : (j + 1) * z ≤ n * z := Nat.mul_le_mul_right z hj
  rw [Nat.succ_mul] at h1
  omega
theorem flat_get {f : Nat → List Value} {z : Nat} : ∀ {n j c : Nat}, (∀ j, j < n → (f j).length = z) → j < n → c < z → (flat f n)[j * z + c]? = (f j)[c]?
  | 0, j, c, h, hj, _ => by omega
  | n + 1, j, c, h, hj, hc => by
    rw [flat_succ]
    have hl := flat_len (f := f) n (fun j hj => h j (by omega))
    by_cases e : j = n
    · subst e
      rw [List.getElem?_append_right (by rw [hl]; omega), hl, Nat.add_sub_cancel_left]
    · have := mul_lt (j := j) (n := n) (by omega) hc
      rw [List.getElem?_append_left (by rw [hl]; exact this)]
      exact flat_get (fun j hj => h j (by omega)) (by omega) hc
theorem flat_congr {f g : Nat → List Value} : ∀ {n : Nat}, (∀ j, j < n → f j = g j) → flat f n = flat g n
  | 0, _ => rfl
  | n + 1, h => by rw [flat_succ, flat_succ, h n (by omega), flat_congr (fun j hj => h j (by omega))]
theorem flat_set {f : Nat → List Value} {z : Nat} : ∀ {n j c : Nat}, (∀ j, j < n → (f j).length = z) → j < n → c < z → ∀ (u : Value), (flat f n).set (j * z + c) u = flat (fun i => if i = j then (f j).set c u else f i) n
  | 0, j, c, h, hj, hc, u => by omega
  | n + 1, j, c, h, hj, hc, u => by
    rw [flat_succ, flat_succ]
    have hl := flat_len (f := f) n (fun j hj => h j (by omega))
    by_cases e : j = n
    · subst e
      rw [List.set_append_right _ _ (by rw [hl]; omega), hl, Nat.add_sub_cancel_left, if_pos rfl]
      congr 1
      exact flat_congr (fun i hi => by rw [if_neg (by omega)])
    · have := mul_lt (j := j) (n := n) (by omega) hc
      rw [List.set_append_left _ _ (by rw [hl]; exact this), flat_set (fun j hj => h j (by omega)) (by omega) hc, if_neg (fun e2 => e e2.symm)]
theorem own_lt {w : World} {B : Nat} {e : TypeId} {size n b : Nat} {v : Value} {xs : List Value} (h : w.ownsRow B e size v n xs) (hb : own v b) : B ≤ b ∧ b < w.heap.size := h.lt b hb
theorem own_kept {w w' : World} {B : Nat} {e : TypeId} {size n : Nat} {v : Value} {xs : List Value} (h : w.ownsRow B e size v n xs) (hb : ∀ b, own v b → w'.heap[b]? = w.heap[b]?) : w'.ownsRow B e size v n xs := by
  refine ⟨h.1, ?_⟩
  rcases h.2 with hn | ⟨g, cap, cur, rfl, hbg, hg, rest⟩
  · exact .inl hn
  · exact .inr ⟨g, cap, cur, rfl, hbg, by rw [hb g rfl]; exact hg, rest⟩
theorem own_mono {w : World} {B B' : Nat} {e : TypeId} {size n : Nat} {v : Value} {xs : List Value} (h : w.ownsRow B e size v n xs) (hb : B' ≤ B) : w.ownsRow B' e size v n xs := by
  refine ⟨h.1, ?_⟩
  rcases h.2 with hn | ⟨g, cap, cur, rfl, hbg, rest⟩
  · exact .inl hn
  · exact .inr ⟨g, cap, cur, rfl, Nat.le_trans hb hbg, rest⟩
theorem own_slice {w : World} {B : Nat} {e : TypeId} {size n : Nat} {v : Value} {xs : List Value} (h : w.ownsRow B e size v n xs) : ∃ a cap, v = .slice a n cap := by
  rcases h.2 with ⟨rfl, rfl⟩ | ⟨g, cap, cur, rfl, _⟩
  · exact ⟨_, _, rfl⟩
  · exact ⟨_, _, rfl⟩
theorem own_some {w : World} {B : Nat} {e : TypeId} {size n : Nat} {v : Value} {xs : List Value} (h : w.ownsRow B e size v n xs) (h0 : 0 < n) : ∃ g cap, v = .slice (some ⟨g, 0, none⟩) n cap ∧ B ≤ g ∧ g < w.heap.size ∧ n ≤ cap ∧ cap ≤ maxLen := by
  rcases h.2 with ⟨rfl, rfl⟩ | ⟨g, cap, cur, rfl, hb, hh, h1, h2, _⟩
  · omega
  · exact ⟨g, cap, rfl, hb, (Array.getElem?_eq_some_iff.1 hh).1, h1, h2⟩
/-- A row inside a record. -/
structure Sub where
  ty : TypeId
  sz : Nat
  v : Value
  n : Nat
  xs : List Value
def Sub.At (w : World) (B : Nat) (s : Sub) : Prop := w.ownsRow B s.ty s.sz s.v s.n s.xs
/-- n records of z cells each (record j is c j), and m rows inside them. -/
structure At (w : World) (B : Nat) (e : TypeId) (z : Nat) (v : Value) (n : Nat) (c : Nat → List Value) (m : Nat) (s : Nat → Sub) : Prop where
  row : w.ownsRow B e z v n (flat c n)
  sub : ∀ i, i < m → (s i).At w B
  sep : ∀ i j, i < m → j < m → i ≠ j → ∀ b, own (s i).v b → ¬ own (s j).v b
  sepv : ∀ i, i < m → ∀ b, own (s i).v b → ¬ own v b
section
variable {w w' : World} {B : Nat} {e : TypeId} {z : Nat} {v : Value} {n : Nat} {c : Nat → List Value} {m : Nat} {s : Nat → Sub}
theorem At.kept (h : At w B e z v n c m s) (hv : ∀ b, own v b → w'.heap[b]? = w.heap[b]?) (hs : ∀ i, i < m → ∀ b, own (s i).v b → w'.heap[b]? = w.heap[b]?) : At w' B e z v n c m s :=
  ⟨own_kept h.row hv, fun i hi => own_kept (h.sub i hi) (hs i hi), h.sep, h.sepv⟩
theorem At.keep (h : At w B e z v n c m s) (hb : ∀ b, B ≤ b → b < w.heap.size → w'.heap[b]? = w.heap[b]?) : At w' B e z v n c m s :=
  h.kept (fun b hv => hb b (own_lt h.row hv).1 (own_lt h.row hv).2) (fun i hi b hs => hb b (own_lt (h.sub i hi) hs).1 (own_lt (h.sub i hi) hs).2)
theorem At.below (h : At w B e z v n c m s) (hb : Below w.heap.size w w') : At w' B e z v n c m s := h.keep (fun b _ hl => hb.block b hl)
theorem At.mono {B' : Nat} (h : At w B e z v n c m s) (hb : B' ≤ B) : At w B' e z v n c m s := ⟨own_mono h.row hb, fun i hi => own_mono (h.sub i hi) hb, h.sep, h.sepv⟩
theorem At.nil (w : World) (B : Nat) (e : TypeId) (z : Nat) (c : Nat → List Value) (s : Nat → Sub) : At w B e z (.slice none 0 0) 0 c 0 s :=
  ⟨World.ownsRow_nil w B e z, fun i h => by omega, fun i j h => by omega, fun i h => by omega⟩
theorem At.congr {c' : Nat → List Value} {s' : Nat → Sub} (h : At w B e z v n c m s) (hc : ∀ j, j < n → c' j = c j) (hs : ∀ i, i < m → s' i = s i) : At w B e z v n c' m s' :=
  ⟨by rw [flat_congr hc]; exact h.row, fun i hi => by rw [hs i hi]; exact h.sub i hi, fun i j hi hj hij b => by rw [hs i hi, hs j hj]; exact h.sep i j hi hj hij b, fun i hi b => by rw [hs i hi]; exact h.sepv i hi b⟩
/-- The cells of a record. -/
theorem At.cell {g cap : Nat} (h : At w B e z (.slice (some ⟨g, 0, none⟩) n cap) n c m s) (hc : ∀ j, j < n → (c j).length = z) {j i : Nat} (hj : j < n) (hi : i < z) : w.cell? ⟨g, j * z + i, none⟩ = (c j)[i]? := by
  rw [h.row.cellAt (j * z + i) (mul_lt hj hi)]
  exact flat_get hc hj hi
theorem At.free {g cap : Nat} (h : At w B e z (.slice (some ⟨g, 0, none⟩) n cap) n c m s) (i : Nat) : w.frozen? ⟨g, i, none⟩ = false := h.row.frozenAt i
/-- A cell of a record is set. -/
theorem At.setRow {g cap : Nat} (h : At w B e z (.slice (some ⟨g, 0, none⟩) n cap) n c m s) (hc : ∀ j, j < n → (c j).length = z) {j i : Nat} (hj : j < n) (hi : i < z) (u : Value) :
    At (w.setCell ⟨g, j * z + i, none⟩ u) B e z (.slice (some ⟨g, 0, none⟩) n cap) n (fun x => if x = j then (c j).set i u else c x) m s := by
  have hst := h.row.stored (j * z + i) u
  rw [flat_set hc hj hi] at hst
  refine ⟨hst.1, fun q hq => ?_, h.sep, h.sepv⟩
  refine World.ownsRow.kept (h.sub q hq) hst.2 ?_
  cases hb : (s q).v.ownBlock with
  | none => exact .inl rfl
  | some b => exact .inr (fun e2 => h.sepv q hq b hb e2.symm)
/-- A row inside a record has turned, and nothing else. -/
theorem At.setSub (h : At w B e z v n c m s) {q : Nat} (hq : q < m) {xs : List Value} (hx : w'.ownsRow B (s q).ty (s q).sz (s q).v (s q).n xs) (hg : w.grownBy w' (s q).v.ownBlock) :
    At w' B e z v n c m (fun i => if i = q then { s q with xs := xs } else s i) := by
  refine ⟨h.row.kept hg ?_, fun i hi => ?_, fun i j hi hj hij b => ?_, fun i hi b => ?_⟩
  · cases hb : v.ownBlock with
    | none => exact .inl rfl
    | some b => exact .inr (fun e2 => h.sepv q hq b e2.symm hb)
  · by_cases ei : i = q
    · subst ei
      simp only [if_true]
      exact hx
    · simp only [ei, if_false]
      refine World.ownsRow.kept (h.sub i hi) hg ?_
      cases hb : (s i).v.ownBlock with
      | none => exact .inl rfl
      | some b => exact .inr (fun e2 => h.sep i q hi hq ei b hb e2.symm)
  · have e1 : (if i = q then { s q with xs := xs } else s i).v = (s i).v := by split <;> simp_all
    have e2 : (if j = q then { s q with xs := xs } else s j).v = (s j).v := by split <;> simp_all
    rw [e1, e2]
    exact h.sep i j hi hj hij b
  · have e1 : (if i = q then { s q with xs := xs } else s i).v = (s i).v := by split <;> simp_all
    rw [e1]
    exact h.sepv i hi b
/-- A record behind all others, with p rows of its own. -/
theorem At.push {w2 : World} {v' : Value} {cs : List Value} {p : Nat} {t : Nat → Sub} (h : At w B e z v n c m s) (ht : ∀ i, i < p → (t i).At w B) (htt : ∀ i j, i < p → j < p → i ≠ j → ∀ b, own (t i).v b → ¬ own (t j).v b)
    (hts : ∀ i j, i < m → j < p → ∀ b, own (s i).v b → ¬ own (t j).v b) (htv : ∀ i, i < p → ∀ b, own (t i).v b → ¬ own v b)
    (hown : w2.ownsRow B e z v' (n + 1) (flat c n ++ cs)) (hg : w.grownBy w2 v.ownBlock) (hat : v'.ownBlock = v.ownBlock ∨ v'.ownBlock = some w.heap.size) :
    At w2 B e z v' (n + 1) (fun j => if j = n then cs else c j) (m + p) (fun i => if i < m then s i else t (i - m)) := by
  have hv' : ∀ b, own v' b → own v b ∨ b = w.heap.size := fun b hb => by
    rcases hat with e | e
    · exact .inl (by unfold own; rw [← e]; exact hb)
    · right; unfold own at hb; rw [e] at hb; exact (Option.some.inj hb).symm
  have keep : ∀ {u : Sub}, u.At w B → (∀ b, own u.v b → ¬ own v b) → u.At w2 B := fun {u} hu hne => by
    refine World.ownsRow.kept hu hg ?_
    cases hb : u.v.ownBlock with
    | none => exact .inl rfl
    | some b => exact .inr (fun e2 => hne b hb e2.symm)
  have old : ∀ {u : Sub}, u.At w B → (∀ b, own u.v b → ¬ own v b) → ∀ b, own u.v b → ¬ own v' b := fun {u} hu hne b hb hv => by
    rcases hv' b hv with h3 | h3
    · exact hne b hb h3
    · have := (own_lt hu hb).2
      omega
  refine ⟨?_, fun i hi => ?_, fun i j hi hj hij b => ?_, fun i hi b => ?_⟩
  · rw [flat_succ, if_pos rfl, flat_congr (g := c) (fun j hj => by rw [if_neg (by omega)])]
    exact hown
  · by_cases e1 : i < m
    · simp only [e1, if_true]
      exact keep (h.sub i e1) (h.sepv i e1)
    · simp only [e1, if_false]
      exact keep (ht _ (by omega)) (htv _ (by omega))
  · by_cases e1 : i < m
    · by_cases e2 : j < m
      · simp only [e1, e2, if_true]
        exact h.sep i j e1 e2 hij b
      · simp only [e1, e2, if_true, if_false]
        exact hts i (j - m) e1 (by omega) b
    · by_cases e2 : j < m
      · simp only [e1, e2, if_true, if_false]
        exact fun a1 a2 => hts j (i - m) e2 (by omega) b a2 a1
      · simp only [e1, e2, if_false]
        exact htt (i - m) (j - m) (by omega) (by omega) (by omega) b
  · by_cases e1 : i < m
    · simp only [e1, if_true]
      exact old (h.sub i e1) (h.sepv i e1) b
    · simp only [e1, if_false]
      exact old (ht _ (by omega)) (htv _ (by omega)) b
end
end Nst
end Go.Proofs.YtgghigfflpbjiaaGreatDoor
