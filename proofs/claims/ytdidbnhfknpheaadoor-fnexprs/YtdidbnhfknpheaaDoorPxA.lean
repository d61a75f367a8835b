/- What ParseExpr answers, as a plain function; the program's reading: takeByte, takeSign. -/
import Derived.Test.YtdidbnhfknpheaaDoorTxA
import Derived.Test.YtdidbnhfknpheaaDoorShelf
namespace Go.Proofs.YtdidbnhfknpheaaDoor
open Go.RowKit
set_option linter.unusedVariables false
namespace Ex
open Nd (NodeD)
def Tm.okB : Tm → Bool
  | ⟨[], false, n⟩ => inR n 0 9999
  | ⟨[], true, n⟩ => inR n 0 3
  | ⟨[t], v, n⟩ => t.okB && ((v == false) && (n == 0))
  | ⟨l :: r :: s, v, k⟩ => (inR k 3 9 && (l.okB && r.okB)) && ((v == false) && s.isEmpty)
theorem okB_iff : ∀ (t : Tm), t.okB = true ↔ t.ok
  | ⟨[], false, n⟩ => by simp only [Tm.okB, Tm.ok]; exact inR_iff
  | ⟨[], true, n⟩ => by simp only [Tm.okB, Tm.ok]; exact inR_iff
  | ⟨[t], v, n⟩ => by simp only [Tm.okB, Tm.ok, Bool.and_eq_true, okB_iff t, beq_iff_eq]
  | ⟨l :: r :: s, v, k⟩ => by
    simp only [Tm.okB, Tm.ok, Bool.and_eq_true, okB_iff l, okB_iff r, beq_iff_eq, inR_iff, List.isEmpty_iff]
    constructor
    · rintro ⟨⟨⟨h1, h2⟩, h3, h4⟩, h5⟩; exact ⟨⟨h1, h2, h3, h4⟩, h5⟩
    · rintro ⟨⟨h1, h2, h3, h4⟩, h5⟩; exact ⟨⟨⟨h1, h2⟩, h3, h4⟩, h5⟩
def Tm.fine (t : Tm) : Bool := t.okB && decide (t.size ≤ 16)
theorem fine_iff {t : Tm} : t.fine = true ↔ t.ok ∧ t.size ≤ 16 := by unfold Tm.fine; rw [Bool.and_eq_true, okB_iff, decide_eq_true_eq]
def parseF (l : List UInt8) : Option Tm := match gp (l.length + 1) l with
  | some (t, []) => if t.fine = true then some t else none
  | _ => none
def pCode (l : List UInt8) : Int := if 200 < l.length then 2 else match parseF l with
  | some _ => 0
  | none => 5
def pNodes (l : List UInt8) : List NodeD := if 200 < l.length then [] else match parseF l with
  | some t => t.nodes 0
  | none => []
theorem p_many {l : List UInt8} (h : 200 < l.length) : pCode l = 2 ∧ pNodes l = [] := by unfold pCode pNodes; rw [if_pos h, if_pos h]; exact ⟨rfl, rfl⟩
theorem p_none {l : List UInt8} (h : ¬ 200 < l.length) (h2 : parseF l = none) : pCode l = 5 ∧ pNodes l = [] := by unfold pCode pNodes; rw [if_neg h, if_neg h, h2]; exact ⟨rfl, rfl⟩
theorem p_some {l : List UInt8} {t : Tm} (h : ¬ 200 < l.length) (h2 : parseF l = some t) : pCode l = 0 ∧ pNodes l = t.nodes 0 := by unfold pCode pNodes; rw [if_neg h, if_neg h, h2]; exact ⟨rfl, rfl⟩
theorem parse_some {l : List UInt8} {t : Tm} (h : gp (l.length + 1) l = some (t, [])) (h2 : t.ok ∧ t.size ≤ 16) : parseF l = some t := by unfold parseF; rw [h]; simp only; rw [if_pos (fine_iff.2 h2)]
theorem parse_none {l : List UInt8} (h : ∀ t, gp (l.length + 1) l = some (t, []) → ¬ (t.ok ∧ t.size ≤ 16)) : parseF l = none := by
  unfold parseF
  split
  · rename_i t h1
    rw [if_neg (fun h2 => h t h1 (fine_iff.1 h2))]
  · rfl
theorem pNodes_len (l : List UInt8) : (pNodes l).length ≤ 16 := by
  unfold pNodes
  split
  · simp
  · unfold parseF
    split
    · rename_i t h
      split at h
      · rename_i t' h2
        by_cases h3 : t'.fine = true
        · rw [if_pos h3] at h; cases h; rw [nodes_len]; exact (fine_iff.1 h3).2
        · rw [if_neg h3] at h; cases h
      · cases h
    · simp
def nval (n : NodeD) : List Value := [.int .i64 n.kind, .int .i64 n.value, .int .i64 n.left, .int .i64 n.right]
def nvals (l : List NodeD) : List Value := l.flatMap nval
theorem nvals_len (l : List NodeD) : (nvals l).length = l.length * 4 := by
  induction l with
  | nil => rfl
  | cons a l ih => simp only [nvals, List.flatMap_cons, List.length_append, List.length_cons] at ih ⊢; rw [ih]; simp [nval]; omega
theorem nvals_snoc (l : List NodeD) (n : NodeD) : nvals (l ++ [n]) = nvals l ++ nval n := by simp [nvals]
theorem str_inj {a b : List UInt8} (h : str a = str b) : a = b := by
  have := congrArg (fun x : ByteArray => x.data.toList) h
  simpa [str] using this
theorem str_toList (l : List UInt8) : (str l).toList = l := by simp [ByteArray.toList_eq, str]
/-- What is read, and what is not read yet. -/
def Rd (w : World) (R : Nat) (rest : List UInt8) (ns : List NodeD) : Prop :=
  ∃ v, w.heap[R]? = some (.cells #[.string (str rest), v] 43 (0, 0)) ∧ w.ownsRow (R + 1) 35 4 v ns.length (nvals ns)
theorem Rd.lt {w : World} {R : Nat} {rest : List UInt8} {ns : List NodeD} (h : Rd w R rest ns) : R < w.heap.size := by
  obtain ⟨v, h, _⟩ := h
  exact (Array.getElem?_eq_some_iff.1 h).1
theorem own4_slice {w : World} {base n : Nat} {e : TypeId} {v : Value} {xs : List Value} (h : w.ownsRow base e 4 v n xs) : ∃ a cap, v = .slice a n cap := by
  obtain ⟨hl, ⟨rfl, rfl⟩ | ⟨g', cap', cur, hv, _⟩⟩ := h
  · exact ⟨_, _, rfl⟩
  · exact ⟨_, _, hv⟩
theorem owns_keep {w w' : World} {base : Nat} {e : TypeId} {size n : Nat} {v : Value} {xs : List Value} (h : w.ownsRow base e size v n xs) (hb : Below w.heap.size w w') : w'.ownsRow base e size v n xs :=
  h.kept (row := none) ⟨hb.os, hb.tape, hb.output, hb.size, fun k hk _ => hb.block k hk⟩ (by cases v.ownBlock <;> simp)
theorem Rd.below {w w' : World} {R : Nat} {rest : List UInt8} {ns : List NodeD} (h : Rd w R rest ns) (hb : Below w.heap.size w w') : Rd w' R rest ns := by
  have hl := h.lt
  obtain ⟨v, h1, h2⟩ := h
  exact ⟨v, (hb.block R hl).trans h1, owns_keep h2 hb⟩
theorem Rd.setRest {w : World} {R : Nat} {rest : List UInt8} {ns : List NodeD} (h : Rd w R rest ns) (r : List UInt8) : Rd (w.setCell ⟨R, 0, none⟩ (.string (str r))) R r ns := by
  obtain ⟨v, h1, h2⟩ := h
  refine ⟨v, ?_, ownsRow_setCell_below h2 (a := ⟨R, 0, none⟩) (Nat.lt_succ_self R) _⟩
  simp [World.setCell, Array.getElem?_modify, h1]
theorem extract_str (b : UInt8) (r : List UInt8) : (str (b :: r)).extract 1 (str (b :: r)).size = str r := by
  apply ByteArray.ext
  simp [str, ByteArray.size]
end Ex
end Go.Proofs.YtdidbnhfknpheaaDoor
