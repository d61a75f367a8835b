/- Rows of nodes that a function has made itself: their cells, kept over what grows; as a list of nodes. -/
import Derived.Test.YtpegbiggmjepgaaNd
import Derived.Test.YtpegbiggmjepgaaExM
import Derived.WalkKit
import Derived.ProofKit
import Derived.Deep.SlicePairs
import Derived.Laws.AppendOwn
import Derived.Laws.OwnMore
namespace Go.Proofs.Ytpegbiggmjepgaa
open Go.RowKit
set_option linter.unusedVariables false
namespace Ex
open Nd (NodeD)
def nval (n : NodeD) : List Value := [.int .i64 n.kind, .int .i64 n.value, .int .i64 n.left, .int .i64 n.right]
def nvals (l : List NodeD) : List Value := l.flatMap nval
theorem nvals_len (l : List NodeD) : (nvals l).length = l.length * 4 := by
  induction l with
  | nil => rfl
  | cons a l ih => simp only [nvals, List.flatMap_cons, List.length_append, List.length_cons] at ih ⊢; rw [ih]; simp [nval]; omega
theorem nvals_snoc (l : List NodeD) (n : NodeD) : nvals (l ++ [n]) = nvals l ++ nval n := by simp [nvals]
theorem own4_slice {w : World} {base n : Nat} {e : TypeId} {v : Value} {xs : List Value} (h : w.ownsRow base e 4 v n xs) : ∃ a cap, v = .slice a n cap := by
  obtain ⟨hl, ⟨rfl, rfl⟩ | ⟨g', cap', cur, hv, _⟩⟩ := h
  · exact ⟨_, _, rfl⟩
  · exact ⟨_, _, hv⟩
theorem owns_keep {w w' : World} {base : Nat} {e : TypeId} {size n : Nat} {v : Value} {xs : List Value} (h : w.ownsRow base e size v n xs) (hb : Below w.heap.size w w') : w'.ownsRow base e size v n xs :=
  h.kept (row := none) ⟨hb.os, hb.tape, hb.output, hb.size, fun k hk _ => hb.block k hk⟩ (by cases v.ownBlock <;> simp)
theorem grown_cell2 {w w' : World} {row : Option Nat} {b o : Nat} {v : Value} (h : w.grownBy w' row) (hc : w.cell? ⟨b, o, none⟩ = some v) (hr : row ≠ some b) : w'.cell? ⟨b, o, none⟩ = some v := by
  have hb : b < w.heap.size := by
    rcases Nat.lt_or_ge b w.heap.size with h1 | h1
    · exact h1
    · simp [World.cell?, Array.getElem?_eq_none h1] at hc
  simp only [World.cell?] at hc ⊢
  rw [h.block b hb (fun e => hr e.symm)]
  exact hc
theorem grown_free2 {w w' : World} {row : Option Nat} {b o : Nat} (h : w.grownBy w' row) (hb : b < w.heap.size) (hc : w.frozen? ⟨b, o, none⟩ = false) (hr : row ≠ some b) : w'.frozen? ⟨b, o, none⟩ = false := by
  simp only [World.frozen?] at hc ⊢
  rw [h.block b hb (fun e => hr e.symm)]
  exact hc
theorem infoNode : (Try.prog.info? 54).map (fun i => (i.zero, i.size, i.bytes)) = some (some (.agg #[.int .i64 0, .int .i64 0, .int .i64 0, .int .i64 0]), 4, 32) := by kernel_rfl
theorem nvals_get : ∀ (l : List NodeD) (i : Nat) (h : i < l.length), (nvals l)[i * 4]? = some (.int .i64 l[i].kind) ∧ (nvals l)[i * 4 + 1]? = some (.int .i64 l[i].value) ∧ (nvals l)[i * 4 + 2]? = some (.int .i64 l[i].left) ∧ (nvals l)[i * 4 + 3]? = some (.int .i64 l[i].right)
  | [], i, h => by simp at h
  | n :: l, 0, h => by simp [nvals, nval]
  | n :: l, i + 1, h => by
    have ih := nvals_get l i (by simpa using h)
    have e : nvals (n :: l) = nval n ++ nvals l := by simp [nvals]
    have e4 : (nval n).length = 4 := rfl
    simp only [List.getElem_cons_succ]
    rw [e]
    refine ⟨?_, ?_, ?_, ?_⟩
    · rw [List.getElem?_append_right (by omega), e4, show (i + 1) * 4 - 4 = i * 4 by omega]; exact ih.1
    · rw [List.getElem?_append_right (by omega), e4, show (i + 1) * 4 + 1 - 4 = i * 4 + 1 by omega]; exact ih.2.1
    · rw [List.getElem?_append_right (by omega), e4, show (i + 1) * 4 + 2 - 4 = i * 4 + 2 by omega]; exact ih.2.2.1
    · rw [List.getElem?_append_right (by omega), e4, show (i + 1) * 4 + 3 - 4 = i * 4 + 3 by omega]; exact ih.2.2.2
theorem at_of_owns {w : World} {B : Nat} {v : Value} {ns : List NodeD} (h : w.ownsRow B 54 4 v ns.length (nvals ns)) : Nd.At w B v ns := by
  obtain ⟨hl, ⟨rfl, h0⟩ | ⟨g, cap, cur, rfl, hbg, hg, hle, hm, hs, ht⟩⟩ := h
  · exact ⟨none, 0, by rw [h0], by omega, by unfold maxLen; omega, .inl (List.length_eq_zero_iff.1 h0)⟩
  · refine ⟨some ⟨g, 0, none⟩, cap, rfl, hle, hm, .inr ⟨g, 0, rfl, hbg, (Array.getElem?_eq_some_iff.1 hg).1, fun i hi => ?_⟩⟩
    have hc : ∀ j v, j < ns.length * 4 → (nvals ns)[j]? = some v → w.cell? ⟨g, 0 + j, none⟩ = some v := fun j v hj hv => by
      have h2 := congrArg (·[j]?) ht
      simp only [List.getElem?_take, hj, if_true, hv] at h2
      have h3 : cur[j]? = some v := by simpa using h2
      simp [World.cell?, hg, h3]
    obtain ⟨g1, g2, g3, g4⟩ := nvals_get ns i hi
    exact ⟨hc _ _ (by omega) g1, hc _ _ (by omega) g2, hc _ _ (by omega) g3, hc _ _ (by omega) g4⟩
end Ex
end Go.Proofs.Ytpegbiggmjepgaa
