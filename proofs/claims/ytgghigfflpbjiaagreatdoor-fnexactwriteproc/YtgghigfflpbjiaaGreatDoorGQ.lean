/- Laid together: PrA, PrB, TfM. -/
import Derived.Test.YtgghigfflpbjiaaGreatDoorGF
import Derived.Test.YtgghigfflpbjiaaGreatDoorGP
import Derived.Test.YtgghigfflpbjiaaGreatDoorGJ
import Derived.Test.YtgghigfflpbjiaaGreatDoorGO
import Derived.Test.YtgghigfflpbjiaaGreatDoorGC
/- The text of a process, as a plain function. -/
namespace Go.Proofs.YtgghigfflpbjiaaGreatDoor
open Go.RowKit
set_option linter.unusedVariables false
namespace Pf
open Ex (hid inR eFault str str_app str_size textOf text_ok top_of_e of_e topF top_nodes txt_len near_of_ok dec_len)
open Nd (NodeD)
open St (StepD)
open Tr (nf)
open Go.Lib (decDigits)
theorem text_len {ns : List NodeD} (h : eFault ns = 0) : (textOf ns).length ≤ 64 := by
  obtain ⟨t, ht⟩ := top_of_e h
  rw [text_ok h ht]
  have hn := top_nodes h ht
  have h1 := txt_len t (near_of_ok hn.2.1)
  have h2 := (of_e h).2.1
  have h3 := hn.2.2
  omega
def wordL (k : Int) : List UInt8 := if k = 1 then [115, 101, 113] else if k = 2 then [116, 97, 115, 107] else if k = 3 then [120, 111, 114] else if k = 4 then [97, 110, 100] else if k = 5 then [119, 97, 105, 116] else if k = 6 then [116, 105, 109, 101, 114] else if k = 7 then [115, 101, 116] else if k = 8 then [103, 117, 97, 114, 100] else []
def condL (s : StepD) : List UInt8 := if s.cond.length = 0 then [] else [105, 102, 32] ++ textOf s.cond ++ [32]
def tailL (s : StepD) : List UInt8 := if s.kind = 2 then [32] ++ s.name.data.toList else if s.kind = 7 then [32, 118] ++ decDigits s.arg.toNat ++ [32] ++ textOf s.expr else if s.kind = 5 ∨ s.kind = 6 ∨ s.kind = 8 then [32] ++ decDigits s.arg.toNat else []
def lineL (s : StepD) : List UInt8 := condL s ++ wordL s.kind ++ tailL s
def padL : Nat → List UInt8
  | 0 => []
  | n + 1 => padL n ++ [32, 32]
theorem pad_len : ∀ n, (padL n).length = 2 * n
  | 0 => rfl
  | n + 1 => by rw [padL, List.length_append, pad_len n]; simp; omega
def procL (ss : List StepD) : Nat → List UInt8
  | 0 => []
  | i + 1 => procL ss i ++ padL ((path ss (i + 1)).length - 1) ++ lineL (PJ ss i) ++ [10]
def procT (ss : List StepD) : ByteArray := if pFault ss = 0 then str (procL ss ss.length) else str []
theorem procT_ok {ss : List StepD} (h : pFault ss = 0) : procT ss = str (procL ss ss.length) := by unfold procT; rw [if_pos h]
theorem procT_bad {ss : List StepD} (h : pFault ss ≠ 0) : procT ss = str [] := by unfold procT; rw [if_neg h]
/-- What a step's text wants of it. -/
structure Fine (s : StepD) : Prop where
  kind : inR s.kind 1 8 = true
  name : s.kind = 2 → s.name.size ≤ 8
  arg : 0 ≤ s.arg ∧ s.arg ≤ 99
  cond : 0 < s.cond.length → eFault s.cond = 0
  expr : s.kind = 7 → eFault s.expr = 0
theorem bsize (b : ByteArray) : b.data.toList.length = b.size := rfl
theorem nf_len {l : List UInt8} (h : nf l = 0) : l.length ≤ 8 := by
  unfold nf at h
  split at h
  · cases h
  split at h
  · cases h
  split at h
  · cases h
  omega
theorem fine {ss : List StepD} {i : Nat} (hi : i < ss.length) (h : pFault ss = 0) : Fine ss[i] := by
  obtain ⟨_, h1, h2, h3⟩ := of_p h
  have e := of_one (first_all h1 hi)
  have e2 := first_all h2 hi
  rw [PJ_eq hi] at e
  obtain ⟨f, _, _, _, p⟩ := e
  unfold formOk at f
  have fk : inR ss[i].kind 1 8 = true := (Bool.and_eq_true _ _ ▸ f).1
  unfold partC at p
  have fb : bare ss[i] = true := (Bool.and_eq_true _ _ ▸ f).2
  refine ⟨fk, fun hk => ?_, ?_, fun hc => ?_, fun hk => ?_⟩
  · by_cases hn : nf ss[i].name.data.toList = 0
    · have := nf_len hn
      rw [bsize] at this
      exact this
    · rw [if_pos ⟨hk, hn⟩] at p; exact absurd p hn
  · by_cases h5 : inR ss[i].kind 5 8 = true
    · have h5' := Ex.inR_iff.1 h5
      have hn : ¬ (ss[i].kind = 2 ∧ nf ss[i].name.data.toList ≠ 0) := by omega
      rw [if_neg hn] at p
      have hk : ss[i].kind = 5 ∨ ss[i].kind = 6 ∨ ss[i].kind = 7 ∨ ss[i].kind = 8 := by omega
      by_cases ha : argOk ss[i] = false
      · rw [if_pos ha] at p; cases p
      · unfold argOk at ha
        rcases hk with hk | hk | hk | hk
        · rw [hk] at ha; simp at ha; have := Ex.inR_iff.1 ha; omega
        · rw [hk] at ha; simp at ha; have := Ex.inR_iff.1 ha; omega
        · rw [hk] at ha; simp at ha; have := Ex.inR_iff.1 ha; omega
        · rw [hk] at ha; simp at ha; have := Ex.inR_iff.1 ha; omega
    · unfold bare at fb
      simp [h5] at fb
      omega
  · unfold linkC at e2
    rw [PJ_eq hi] at e2
    split at e2
    · cases e2
    split at e2
    · cases e2
    first | exact e2 | (rw [if_pos hc] at e2; exact e2)
  · have hn : ¬ (ss[i].kind = 2 ∧ nf ss[i].name.data.toList ≠ 0) := by omega
    rw [if_neg hn] at p
    by_cases ha : argOk ss[i] = false
    · rw [if_pos ha] at p; cases p
    · rw [if_neg ha, if_pos hk] at p; exact p
theorem cond_len {s : StepD} (h : Fine s) : (condL s).length ≤ 68 := by
  unfold condL
  split
  · simp
  · have := text_len (h.cond (by omega))
    simp; omega
theorem word_len (k : Int) : (wordL k).length ≤ 5 := by
  unfold wordL
  repeat' split
  all_goals decide
theorem dig_len {n : Int} (h : 0 ≤ n ∧ n ≤ 99) : (decDigits n.toNat).length ≤ 2 := dec_len 1 n.toNat (by omega)
theorem tail_len {s : StepD} (h : Fine s) : (tailL s).length ≤ 80 := by
  unfold tailL
  split
  · rename_i hk
    have := h.name hk
    rw [List.length_append, bsize]
    simp; omega
  split
  · rename_i hk
    have h1 := text_len (h.expr hk)
    have h2 := dig_len h.arg
    simp; omega
  split
  · rename_i hk
    have h2 := dig_len h.arg
    simp; omega
  · simp
theorem line_len {s : StepD} (h : Fine s) : (lineL s).length ≤ 200 := by
  have h1 := cond_len h
  have h2 := word_len s.kind
  have h3 := tail_len h
  unfold lineL
  simp; omega
theorem proc_len {ss : List StepD} (h : pFault ss = 0) : ∀ i, i ≤ ss.length → (procL ss i).length ≤ 300 * i
  | 0, _ => by simp [procL]
  | i + 1, hi => by
    have h0 := proc_len h i (by omega)
    have h1 := line_len (fine (i := i) (by omega) h)
    have h2 := (walked (ss := ss) (i := i + 1) hi (first_to (of_p h).2.1 hi)).deep
    rw [procL, List.length_append, List.length_append, List.length_append, pad_len, PJ_eq (by omega)]
    simp; omega
end Pf
end Go.Proofs.YtgghigfflpbjiaaGreatDoor
/- The specification's line of a step. -/
namespace Go.Proofs.YtgghigfflpbjiaaGreatDoor
open Go.RowKit
set_option linter.unusedVariables false
set_option linter.unusedSimpArgs false
namespace Pf
open Ex (hid inR eFault str str_app str_size textOf text_ok top_of_e of_e topF add_str specText specDigits)
open Nd (NodeD)
open St (StepD)
open Go.Lib (decDigits)
set_option maxRecDepth 100000 in
set_option maxHeartbeats 2000000 in
theorem specETxt (B : Nat) (ns : List NodeD) (v : Value) (w : World) (hf : eFault ns = 0) (ha : Nd.At w B v ns) :
    Calls Tryz.prog 37 #[v] w fun e w' => e = .returned (.string (str (textOf ns))) ∧ Below w.heap.size w w' := by
  obtain ⟨a, cap, rfl⟩ := ha.slice
  obtain ⟨t, ht⟩ := top_of_e hf
  obtain ⟨h0, h16, hok⟩ := of_e hf
  have HI := hid (specText ns _ B hok h16 ns.length (ns.length - 1) t 0 w (by omega) (by omega) ht ha)
  have hcast : (((ns.length - 1 : Nat) : Nat) : Int) = (ns.length : Int) - 1 := by omega
  rw [hcast] at HI
  rw [text_ok hf ht]
  clear hf ht hok hcast ha
  go_enter Tryz.func37, Tryz.ntmps37
  go_wp2_with fail
  refine HI.out.mono ?_
  rintro e w1 ⟨rfl, hb1⟩
  go_wp2
  go_ret
  exact ⟨rfl, hb1⟩
theorem b_str (l : List UInt8) : ByteArray.mk l.toArray = str l := rfl
theorem name_str (b : ByteArray) : str b.data.toList = b := by cases b; rfl
end Pf
end Go.Proofs.YtgghigfflpbjiaaGreatDoor
/- What TreeOf tells of a process, as plain functions: the element of each step, and the code. -/
namespace Go.Proofs.YtgghigfflpbjiaaGreatDoor
open Go.RowKit
open Go
set_option linter.unusedVariables false
namespace Tf
open Ex (hid inR eFault str str_size textOf text_ok top_of_e of_e top_nodes near_of_ok)
open Nd (NodeD)
open St (StepD)
open Tr (AttrD ElemD nf vcode acode acodeFrom hasName fault faultFrom plainB plainAll azByte azAll onPath cutTo)
open Pf
open Go.Lib (decDigits)
def aIf : ByteArray := ⟨#[105, 102]⟩
def aName : ByteArray := ⟨#[110, 97, 109, 101]⟩
def aMsg : ByteArray := ⟨#[109, 115, 103]⟩
def aTicks : ByteArray := ⟨#[116, 105, 99, 107, 115]⟩
def aVar : ByteArray := ⟨#[118, 97, 114]⟩
def aTo : ByteArray := ⟨#[116, 111]⟩
def digs (s : StepD) : ByteArray := str (decDigits s.arg.toNat)
def condA (s : StepD) : List AttrD := if s.cond.length = 0 then [] else [⟨aIf, str (textOf s.cond)⟩]
def kindA (s : StepD) : List AttrD := if s.kind = 2 then [⟨aName, s.name⟩] else if s.kind = 5 then [⟨aMsg, digs s⟩] else if s.kind = 6 ∨ s.kind = 8 then [⟨aTicks, digs s⟩] else if s.kind = 7 then [⟨aVar, digs s⟩, ⟨aTo, str (textOf s.expr)⟩] else []
def attrsOf (s : StepD) : List AttrD := condA s ++ kindA s
def elemD (s : StepD) : ElemD := ⟨str (wordL s.kind), s.parent, attrsOf s⟩
def treeL (ss : List StepD) : List ElemD := ss.map elemD
def longA (a : AttrD) : Bool := decide (40 < a.value.size)
def long (s : StepD) : Bool := (attrsOf s).any longA
theorem dig_plain {b : UInt8} (h : Ex.isD b = true) : plainB b = true := by
  unfold Ex.isD at h
  unfold plainB
  simp only [Bool.and_eq_true, decide_eq_true_eq] at h ⊢
  omega
theorem dec_plain (n : Nat) : plainAll (decDigits n) = true := by
  unfold plainAll
  rw [List.all_eq_true]
  exact fun b hb => dig_plain (Ex.dec_isD n b hb)
theorem sign_plain (k : Int) : plainB (Ex.signOf k) = true := by
  unfold Ex.signOf
  repeat' split
  all_goals decide
theorem plain_cons {b : UInt8} {l : List UInt8} (h : plainB b = true) (h2 : plainAll l = true) : plainAll (b :: l) = true := by
  unfold plainAll at *
  rw [List.all_cons, h, h2]; rfl
theorem plain_app {a l : List UInt8} (h : plainAll a = true) (h2 : plainAll l = true) : plainAll (a ++ l) = true := by
  unfold plainAll at *
  rw [List.all_append, h, h2]; rfl
theorem txt_plain : ∀ (t : Ex.Tm), t.near → plainAll t.txt = true
  | ⟨[], false, n⟩, h => by simp only [Ex.Tm.txt]; exact dec_plain _
  | ⟨[], true, n⟩, h => by simp only [Ex.Tm.txt]; exact plain_cons (by decide) (dec_plain _)
  | ⟨[t], _, _⟩, h => by
    obtain ⟨h, rfl, rfl⟩ := h
    simp only [Ex.Tm.txt]
    exact plain_cons (by decide) (txt_plain t h)
  | ⟨a :: c :: _, _, k⟩, h => by
    obtain ⟨h, rfl, rfl⟩ := h
    simp only [Ex.Tm.txt]
    exact plain_cons (by decide) (plain_app (txt_plain a h.2.2.1) (plain_cons (sign_plain k) (plain_app (txt_plain c h.2.2.2) (by decide))))
theorem text_plain {ns : List NodeD} (h : eFault ns = 0) : plainAll (textOf ns) = true := by
  obtain ⟨t, ht⟩ := top_of_e h
  rw [text_ok h ht]
  exact txt_plain t (near_of_ok (top_nodes h ht).2.1)
theorem az_plain {l : List UInt8} (h : nf l = 0) : plainAll l = true := by
  have ha : azAll l = true := by
    unfold nf at h
    by_cases c : azAll l = false
    · rw [if_pos c] at h; cases h
    · simpa using c
  unfold azAll at ha
  unfold plainAll
  rw [List.all_eq_true] at ha ⊢
  intro b hb
  have := ha b hb
  unfold azByte at this
  unfold plainB
  simp only [Bool.and_eq_true, decide_eq_true_eq] at this ⊢
  omega
theorem str_list (l : List UInt8) : (str l).data.toList = l := rfl
def Good (pre : List AttrD) : List AttrD → Prop
  | [] => True
  | a :: r => nf a.name.data.toList = 0 ∧ hasName pre a.name = false ∧ plainAll a.value.data.toList = true ∧ Good (pre ++ [a]) r
theorem acode_good : ∀ (l pre : List AttrD), Good pre l → acodeFrom pre l = if l.any longA = true then 2 else 0
  | [], _, _ => rfl
  | a :: r, pre, h => by
    obtain ⟨h1, h2, h3, h4⟩ := h
    unfold acodeFrom
    rw [if_neg (by simp [h1]), if_neg (by simp [h2])]
    have hv : vcode a.value.data.toList = if longA a = true then 2 else 0 := by
      unfold vcode longA
      rw [bsize]
      by_cases c : 40 < a.value.size
      · simp [c]
      · simp [c, h3]
    rw [hv, acode_good r _ h4, List.any_cons]
    cases e : longA a
    · simp
    · simp
theorem has_one {a b : ByteArray} {v : ByteArray} (h : (a.data.toList == b.data.toList) = false) : hasName [⟨a, v⟩] b = false := by
  unfold hasName
  simp only [List.any_cons, List.any_nil, Bool.or_false]
  rw [ByteArray.toList_eq, ByteArray.toList_eq]
  exact h
theorem has_two {a b c : ByteArray} {v u : ByteArray} (h : (a.data.toList == c.data.toList) = false) (h2 : (b.data.toList == c.data.toList) = false) : hasName [⟨a, v⟩, ⟨b, u⟩] c = false := by
  unfold hasName
  simp only [List.any_cons, List.any_nil, Bool.or_false]
  rw [ByteArray.toList_eq, ByteArray.toList_eq, ByteArray.toList_eq, h, h2]
  rfl
theorem nf_if : nf aIf.data.toList = 0 := by decide
theorem nf_name : nf aName.data.toList = 0 := by decide
theorem nf_msg : nf aMsg.data.toList = 0 := by decide
theorem nf_ticks : nf aTicks.data.toList = 0 := by decide
theorem nf_var : nf aVar.data.toList = 0 := by decide
theorem nf_to : nf aTo.data.toList = 0 := by decide
theorem sz_if : aIf.size ≤ 5 := by decide
theorem sz_name : aName.size ≤ 5 := by decide
theorem sz_msg : aMsg.size ≤ 5 := by decide
theorem sz_ticks : aTicks.size ≤ 5 := by decide
theorem sz_var : aVar.size ≤ 5 := by decide
theorem sz_to : aTo.size ≤ 5 := by decide
theorem good_kind {s : StepD} (h : Fine s) (hn : s.kind = 2 → nf s.name.data.toList = 0) : ∀ pre, (∀ nm, nm = aName ∨ nm = aMsg ∨ nm = aTicks ∨ nm = aVar ∨ nm = aTo → hasName pre nm = false) → (∀ v, hasName (pre ++ [⟨aVar, v⟩]) aTo = false) → Good pre (kindA s) := by
  intro pre hp hq
  unfold kindA
  by_cases k2 : s.kind = 2
  · rw [if_pos k2]
    exact ⟨nf_name, hp _ (by simp), az_plain (hn k2), trivial⟩
  · rw [if_neg k2]
    by_cases k5 : s.kind = 5
    · rw [if_pos k5]
      exact ⟨nf_msg, hp _ (by simp), dec_plain _, trivial⟩
    · rw [if_neg k5]
      by_cases k6 : s.kind = 6 ∨ s.kind = 8
      · rw [if_pos k6]
        exact ⟨nf_ticks, hp _ (by simp), dec_plain _, trivial⟩
      · rw [if_neg k6]
        by_cases k7 : s.kind = 7
        · rw [if_pos k7]
          exact ⟨nf_var, hp _ (by simp), dec_plain _, nf_to, hq _, text_plain (h.expr k7), trivial⟩
        · rw [if_neg k7]
          trivial
theorem good_all {s : StepD} (h : Fine s) (hn : s.kind = 2 → nf s.name.data.toList = 0) : Good [] (attrsOf s) := by
  unfold attrsOf condA
  by_cases hc : s.cond.length = 0
  · rw [if_pos hc, List.nil_append]
    exact good_kind h hn [] (fun nm _ => rfl) (fun v => has_one (by decide))
  · rw [if_neg hc]
    refine ⟨nf_if, rfl, text_plain (h.cond (by omega)), ?_⟩
    refine good_kind h hn _ (fun nm e => ?_) (fun v => has_two (by decide) (by decide))
    rcases e with rfl | rfl | rfl | rfl | rfl
    all_goals exact has_one (by decide)
theorem acode_of {s : StepD} (h : Fine s) (hn : s.kind = 2 → nf s.name.data.toList = 0) : acode (attrsOf s) = if long s = true then 2 else 0 := acode_good _ _ (good_all h hn)
theorem attrs_len (s : StepD) : (attrsOf s).length ≤ 3 := by
  unfold attrsOf condA kindA
  rw [List.length_append]
  repeat' split
  all_goals simp
theorem word_nf {k : Int} (h : inR k 1 8 = true) : nf (wordL k) = 0 := by
  have h' := Ex.inR_iff.1 h
  obtain rfl | rfl | rfl | rfl | rfl | rfl | rfl | rfl : k = 1 ∨ k = 2 ∨ k = 3 ∨ k = 4 ∨ k = 5 ∨ k = 6 ∨ k = 7 ∨ k = 8 := by omega
  all_goals decide
theorem name_nf {ss : List StepD} {i : Nat} (hi : i < ss.length) (h : pFault ss = 0) : ss[i].kind = 2 → nf ss[i].name.data.toList = 0 := by
  intro hk
  obtain ⟨_, h1, _, _⟩ := of_p h
  have e := (of_one (first_all h1 hi)).2.2.2.2
  rw [PJ_eq hi] at e
  by_cases hn : nf ss[i].name.data.toList = 0
  · exact hn
  · rw [part_name hk hn] at e; exact absurd e hn
theorem drop_tree {ss : List StepD} {i : Nat} (h : i < ss.length) : (treeL ss).drop i = elemD ss[i] :: (treeL ss).drop (i + 1) := by
  unfold treeL
  rw [← List.map_drop, ← List.map_drop, List.drop_eq_getElem_cons h, List.map_cons]
theorem drop_step {ss : List StepD} {i : Nat} (h : i < ss.length) : ss.drop i = ss[i] :: ss.drop (i + 1) := List.drop_eq_getElem_cons h
theorem fault_from {ss : List StepD} (h : pFault ss = 0) : ∀ (k i : Nat), i + k = ss.length → faultFrom i (path ss i) ((treeL ss).drop i) = if (ss.drop i).any long = true then 2 else 0
  | 0, i, hi => by
    rw [List.drop_eq_nil_of_le (by unfold treeL; rw [List.length_map]; omega), List.drop_eq_nil_of_le (by omega)]
    rfl
  | k + 1, i, hi => by
    have hlt : i < ss.length := by omega
    obtain ⟨hm, h1, h2, h3⟩ := of_p h
    obtain ⟨e1, e2, e3, e4, e5⟩ := of_one (first_all h1 hlt)
    rw [PJ_eq hlt] at e1 e2 e3 e5
    have hp : path ss (i + 1) = i :: cutTo ss[i].parent (path ss i) := by rw [path, PJ_eq hlt]
    have hF := fine hlt h
    have ih := fault_from h k (i + 1) (by omega)
    rw [drop_tree hlt, drop_step hlt, faultFrom]
    rw [hp] at e4 ih
    simp only [List.length_cons] at e4
    have ha := attrs_len ss[i]
    have hc := acode_of hF (name_nf hlt h)
    have hw : nf (elemD ss[i]).tag.data.toList = 0 := word_nf hF.kind
    have hpar : ¬ ((i = 0 ∧ (elemD ss[i]).parent ≠ -1) ∨ (0 < i ∧ ¬ (0 ≤ (elemD ss[i]).parent ∧ (elemD ss[i]).parent < i))) := fun e => by
      have := par_not.2 e
      rw [show (elemD ss[i]).parent = ss[i].parent from rfl, e2] at this
      cases this
    have hon : ¬ (0 < i ∧ onPath (elemD ss[i]).parent (path ss i) = false) := e3
    have hma : ¬ (8 < (cutTo (elemD ss[i]).parent (path ss i)).length + 1 ∨ 6 < (elemD ss[i]).attrs.length) := by
      rw [show (elemD ss[i]).parent = ss[i].parent from rfl, show (elemD ss[i]).attrs = attrsOf ss[i] from rfl]
      omega
    rw [if_neg (by simp [hw]), if_neg hpar, if_neg hon, if_neg hma, show (elemD ss[i]).attrs = attrsOf ss[i] from rfl, hc, show (elemD ss[i]).parent = ss[i].parent from rfl, ih, List.any_cons]
    cases e : long ss[i]
    · simp
    · simp
theorem fault_tree {ss : List StepD} (h : pFault ss = 0) : fault (treeL ss) = if ss.any long = true then 2 else 0 := by
  obtain ⟨hm, _⟩ := of_p h
  have hl : (treeL ss).length = ss.length := by unfold treeL; rw [List.length_map]
  unfold fault
  rw [hl, if_neg (by omega)]
  have := fault_from h ss.length 0 (by omega)
  simpa [path] using this
/-- The code that TreeOf tells. -/
def treeC (ss : List StepD) : Int := if pFault ss = 0 then fault (treeL ss) else pFault ss
def treeE (ss : List StepD) : List ElemD := if treeC ss = 0 then treeL ss else []
theorem treeC_p {ss : List StepD} (h : pFault ss ≠ 0) : treeC ss = pFault ss := if_neg h
theorem treeC_f {ss : List StepD} (h : pFault ss = 0) : treeC ss = fault (treeL ss) := if_pos h
theorem treeC_long {ss : List StepD} (h : pFault ss = 0) {i : Nat} (hi : i < ss.length) (hl : long ss[i] = true) : treeC ss = 2 := by
  rw [treeC_f h, fault_tree h, if_pos]
  rw [List.any_eq_true]
  exact ⟨ss[i], List.getElem_mem hi, hl⟩
theorem val_size {s : StepD} (h : Fine s) (hn : s.kind = 2 → nf s.name.data.toList = 0) : ∀ a ∈ attrsOf s, a.name.size ≤ 5 ∧ a.value.size ≤ 64 := by
  intro a ha
  unfold attrsOf condA kindA at ha
  have t1 := fun (h0 : s.cond.length ≠ 0) => text_len (h.cond (by omega))
  have t2 := fun (h0 : s.kind = 7) => text_len (h.expr h0)
  have t3 := dig_len h.arg
  have t4 := h.name
  rcases List.mem_append.1 ha with ha | ha
  · by_cases hc : s.cond.length = 0
    · rw [if_pos hc] at ha; simp at ha
    · rw [if_neg hc] at ha
      simp only [List.mem_singleton] at ha
      subst ha
      exact ⟨sz_if, by rw [str_size]; exact t1 hc⟩
  · by_cases k2 : s.kind = 2
    · rw [if_pos k2] at ha
      simp only [List.mem_singleton] at ha
      subst ha
      have := t4 k2
      exact ⟨sz_name, by show s.name.size ≤ 64; omega⟩
    · rw [if_neg k2] at ha
      have hd : (digs s).size ≤ 64 := by unfold digs; rw [str_size]; omega
      by_cases k5 : s.kind = 5
      · rw [if_pos k5] at ha
        simp only [List.mem_singleton] at ha
        subst ha
        exact ⟨sz_msg, hd⟩
      · rw [if_neg k5] at ha
        by_cases k6 : s.kind = 6 ∨ s.kind = 8
        · rw [if_pos k6] at ha
          simp only [List.mem_singleton] at ha
          subst ha
          exact ⟨sz_ticks, hd⟩
        · rw [if_neg k6] at ha
          by_cases k7 : s.kind = 7
          · rw [if_pos k7] at ha
            simp only [List.mem_cons, List.not_mem_nil, or_false] at ha
            rcases ha with rfl | rfl
            · exact ⟨sz_var, hd⟩
            · exact ⟨sz_to, by rw [str_size]; exact t2 k7⟩
          · rw [if_neg k7] at ha; simp at ha
end Tf
end Go.Proofs.YtgghigfflpbjiaaGreatDoor
