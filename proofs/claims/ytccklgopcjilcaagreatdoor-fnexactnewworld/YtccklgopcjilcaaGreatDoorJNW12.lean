/- Laid together: Nst, NdX, SoA. -/
import Derived.Test.YtccklgopcjilcaaGreatDoorProg
import Derived.WalkKit
import Derived.Below
import Derived.Laws.AppendOwn
import Derived.Laws.OwnMore
import Derived.Test.YtccklgopcjilcaaGreatDoorJNW1
import Derived.ProofKit
import Derived.Deep.SlicePairs
import Derived.Test.YtccklgopcjilcaaGreatDoorJNW2
import Derived.RangeFuncBox
import Derived.Maps.AppendAt
/- Rows of records that hold rows of their own, as a function makes them itself: each row lies in a block of its own. -/
namespace Go.Proofs.YtccklgopcjilcaaGreatDoor
open Go.RowKit
set_option linter.unusedVariables false
namespace Nst
def own (v : Value) (b : Nat) : Prop := v.ownBlock = some b
def flat (f : Nat → List Value) (n : Nat) : List Value := (List.range n).flatMap f
theorem flat_succ (f : Nat → List Value) (n : Nat) : flat f (n + 1) = flat f n ++ f n := by simp [flat, List.range_succ]
theorem flat_len {f : Nat → List Value} {z : Nat} : ∀ n, (∀ j, j < n → (f j).length = z) → (flat f n).length = n * z
  | 0, _ => by simp [flat]
  | n + 1, h => by rw [flat_succ, List.length_append, flat_len n (fun j hj => h j (by omega)), h n (by omega), Nat.succ_mul]
theorem mul_lt {j n c z : Nat} (hj : j < n) (hc : c < z) : j * z + c < n * z := by
  have h1 : (j + 1) * z ≤ n * z := Nat.mul_le_mul_right z hj
  rw [Nat.succ_mul] at h1
  omega
theorem flat_get {f : Nat → List Value} {z : Nat} : ∀ {n j c : Nat}, (∀ j, j < n → (f j).length = z) → j < n → c < z → (flat f n)[j * z + c]? = (f j)[c]?
  | 0, j, c, h, hj, _ => by omega
  | n + 1, j, c, h, hj, hc => by
    rw [flat_succ]
    have hl := flat_len (f := f) n (fun j hj => h j (by omega))
    by_cases e : j = n
    · subst e
      rw [List.getElem?_append_right (by rw [hl]; omega), hl, Nat.add_sub_cancel_left]
    · have := mul_lt (j := j) (n := n) (by omega) hc
      rw [List.getElem?_append_left (by rw [hl]; exact this)]
      exact flat_get (fun j hj => h j (by omega)) (by omega) hc
theorem flat_congr {f g : Nat → List Value} : ∀ {n : Nat}, (∀ j, j < n → f j = g j) → flat f n = flat g n
  | 0, _ => rfl
  | n + 1, h => by rw [flat_succ, flat_succ, h n (by omega), flat_congr (fun j hj => h j (by omega))]
theorem flat_set {f : Nat → List Value} {z : Nat} : ∀ {n j c : Nat}, (∀ j, j < n → (f j).length = z) → j < n → c < z → ∀ (u : Value), (flat f n).set (j * z + c) u = flat (fun i => if i = j then (f j).set c u else f i) n
  | 0, j, c, h, hj, hc, u => by omega
  | n + 1, j, c, h, hj, hc, u => by
    rw [flat_succ, flat_succ]
    have hl := flat_len (f := f) n (fun j hj => h j (by omega))
    by_cases e : j = n
    · subst e
      rw [List.set_append_right _ _ (by rw [hl]; omega), hl, Nat.add_sub_cancel_left, if_pos rfl]
      congr 1
      exact flat_congr (fun i hi => by rw [if_neg (by omega)])
    · have := mul_lt (j := j) (n := n) (by omega) hc
      rw [List.set_append_left _ _ (by rw [hl]; exact this), flat_set (fun j hj => h j (by omega)) (by omega) hc, if_neg (fun e2 => e e2.symm)]
theorem own_lt {w : World} {B : Nat} {e : TypeId} {size n b : Nat} {v : Value} {xs : List Value} (h : w.ownsRow B e size v n xs) (hb : own v b) : B ≤ b ∧ b < w.heap.size := h.lt b hb
theorem own_kept {w w' : World} {B : Nat} {e : TypeId} {size n : Nat} {v : Value} {xs : List Value} (h : w.ownsRow B e size v n xs) (hb : ∀ b, own v b → w'.heap[b]? = w.heap[b]?) : w'.ownsRow B e size v n xs := by
  refine ⟨h.1, ?_⟩
  rcases h.2 with hn | ⟨g, cap, cur, rfl, hbg, hg, rest⟩
  · exact .inl hn
  · exact .inr ⟨g, cap, cur, rfl, hbg, by rw [hb g rfl]; exact hg, rest⟩
theorem own_mono {w : World} {B B' : Nat} {e : TypeId} {size n : Nat} {v : Value} {xs : List Value} (h : w.ownsRow B e size v n xs) (hb : B' ≤ B) : w.ownsRow B' e size v n xs := by
  refine ⟨h.1, ?_⟩
  rcases h.2 with hn | ⟨g, cap, cur, rfl, hbg, rest⟩
  · exact .inl hn
  · exact .inr ⟨g, cap, cur, rfl, Nat.le_trans hb hbg, rest⟩
theorem own_slice {w : World} {B : Nat} {e : TypeId} {size n : Nat} {v : Value} {xs : List Value} (h : w.ownsRow B e size v n xs) : ∃ a cap, v = .slice a n cap := by
  rcases h.2 with ⟨rfl, rfl⟩ | ⟨g, cap, cur, rfl, _⟩
  · exact ⟨_, _, rfl⟩
  · exact ⟨_, _, rfl⟩
theorem own_some {w : World} {B : Nat} {e : TypeId} {size n : Nat} {v : Value} {xs : List Value} (h : w.ownsRow B e size v n xs) (h0 : 0 < n) : ∃ g cap, v = .slice (some ⟨g, 0, none⟩) n cap ∧ B ≤ g ∧ g < w.heap.size ∧ n ≤ cap ∧ cap ≤ maxLen := by
  rcases h.2 with ⟨rfl, rfl⟩ | ⟨g, cap, cur, rfl, hb, hh, h1, h2, _⟩
  · omega
  · exact ⟨g, cap, rfl, hb, (Array.getElem?_eq_some_iff.1 hh).1, h1, h2⟩
/-- A row inside a record. -/
structure Sub where
  ty : TypeId
  sz : Nat
  v : Value
  n : Nat
  xs : List Value
def Sub.At (w : World) (B : Nat) (s : Sub) : Prop := w.ownsRow B s.ty s.sz s.v s.n s.xs
/-- n records of z cells each (record j is c j), and m rows inside them. -/
structure At (w : World) (B : Nat) (e : TypeId) (z : Nat) (v : Value) (n : Nat) (c : Nat → List Value) (m : Nat) (s : Nat → Sub) : Prop where
  row : w.ownsRow B e z v n (flat c n)
  sub : ∀ i, i < m → (s i).At w B
  sep : ∀ i j, i < m → j < m → i ≠ j → ∀ b, own (s i).v b → ¬ own (s j).v b
  sepv : ∀ i, i < m → ∀ b, own (s i).v b → ¬ own v b
section
variable {w w' : World} {B : Nat} {e : TypeId} {z : Nat} {v : Value} {n : Nat} {c : Nat → List Value} {m : Nat} {s : Nat → Sub}
theorem At.kept (h : At w B e z v n c m s) (hv : ∀ b, own v b → w'.heap[b]? = w.heap[b]?) (hs : ∀ i, i < m → ∀ b, own (s i).v b → w'.heap[b]? = w.heap[b]?) : At w' B e z v n c m s :=
  ⟨own_kept h.row hv, fun i hi => own_kept (h.sub i hi) (hs i hi), h.sep, h.sepv⟩
theorem At.keep (h : At w B e z v n c m s) (hb : ∀ b, B ≤ b → b < w.heap.size → w'.heap[b]? = w.heap[b]?) : At w' B e z v n c m s :=
  h.kept (fun b hv => hb b (own_lt h.row hv).1 (own_lt h.row hv).2) (fun i hi b hs => hb b (own_lt (h.sub i hi) hs).1 (own_lt (h.sub i hi) hs).2)
theorem At.below (h : At w B e z v n c m s) (hb : Below w.heap.size w w') : At w' B e z v n c m s := h.keep (fun b _ hl => hb.block b hl)
theorem At.mono {B' : Nat} (h : At w B e z v n c m s) (hb : B' ≤ B) : At w B' e z v n c m s := ⟨own_mono h.row hb, fun i hi => own_mono (h.sub i hi) hb, h.sep, h.sepv⟩
theorem At.nil (w : World) (B : Nat) (e : TypeId) (z : Nat) (c : Nat → List Value) (s : Nat → Sub) : At w B e z (.slice none 0 0) 0 c 0 s :=
  ⟨World.ownsRow_nil w B e z, fun i h => by omega, fun i j h => by omega, fun i h => by omega⟩
theorem At.congr {c' : Nat → List Value} {s' : Nat → Sub} (h : At w B e z v n c m s) (hc : ∀ j, j < n → c' j = c j) (hs : ∀ i, i < m → s' i = s i) : At w B e z v n c' m s' :=
  ⟨by rw [flat_congr hc]; exact h.row, fun i hi => by rw [hs i hi]; exact h.sub i hi, fun i j hi hj hij b => by rw [hs i hi, hs j hj]; exact h.sep i j hi hj hij b, fun i hi b => by rw [hs i hi]; exact h.sepv i hi b⟩
/-- The cells of a record. -/
theorem At.cell {g cap : Nat} (h : At w B e z (.slice (some ⟨g, 0, none⟩) n cap) n c m s) (hc : ∀ j, j < n → (c j).length = z) {j i : Nat} (hj : j < n) (hi : i < z) : w.cell? ⟨g, j * z + i, none⟩ = (c j)[i]? := by
  rw [h.row.cellAt (j * z + i) (mul_lt hj hi)]
  exact flat_get hc hj hi
theorem At.free {g cap : Nat} (h : At w B e z (.slice (some ⟨g, 0, none⟩) n cap) n c m s) (i : Nat) : w.frozen? ⟨g, i, none⟩ = false := h.row.frozenAt i
/-- A cell of a record is set. -/
theorem At.setRow {g cap : Nat} (h : At w B e z (.slice (some ⟨g, 0, none⟩) n cap) n c m s) (hc : ∀ j, j < n → (c j).length = z) {j i : Nat} (hj : j < n) (hi : i < z) (u : Value) :
    At (w.setCell ⟨g, j * z + i, none⟩ u) B e z (.slice (some ⟨g, 0, none⟩) n cap) n (fun x => if x = j then (c j).set i u else c x) m s := by
  have hst := h.row.stored (j * z + i) u
  rw [flat_set hc hj hi] at hst
  refine ⟨hst.1, fun q hq => ?_, h.sep, h.sepv⟩
  refine World.ownsRow.kept (h.sub q hq) hst.2 ?_
  cases hb : (s q).v.ownBlock with
  | none => exact .inl rfl
  | some b => exact .inr (fun e2 => h.sepv q hq b hb e2.symm)
/-- A row inside a record has turned, and nothing else. -/
theorem At.setSub (h : At w B e z v n c m s) {q : Nat} (hq : q < m) {xs : List Value} (hx : w'.ownsRow B (s q).ty (s q).sz (s q).v (s q).n xs) (hg : w.grownBy w' (s q).v.ownBlock) :
    At w' B e z v n c m (fun i => if i = q then { s q with xs := xs } else s i) := by
  refine ⟨h.row.kept hg ?_, fun i hi => ?_, fun i j hi hj hij b => ?_, fun i hi b => ?_⟩
  · cases hb : v.ownBlock with
    | none => exact .inl rfl
    | some b => exact .inr (fun e2 => h.sepv q hq b e2.symm hb)
  · by_cases ei : i = q
    · subst ei
      simp only [if_true]
      exact hx
    · simp only [ei, if_false]
      refine World.ownsRow.kept (h.sub i hi) hg ?_
      cases hb : (s i).v.ownBlock with
      | none => exact .inl rfl
      | some b => exact .inr (fun e2 => h.sep i q hi hq ei b hb e2.symm)
  · have e1 : (if i = q then { s q with xs := xs } else s i).v = (s i).v := by split <;> simp_all
    have e2 : (if j = q then { s q with xs := xs } else s j).v = (s j).v := by split <;> simp_all
    rw [e1, e2]
    exact h.sep i j hi hj hij b
  · have e1 : (if i = q then { s q with xs := xs } else s i).v = (s i).v := by split <;> simp_all
    rw [e1]
    exact h.sepv i hi b
/-- A record behind all others, with p rows of its own. -/
theorem At.push {w2 : World} {v' : Value} {cs : List Value} {p : Nat} {t : Nat → Sub} (h : At w B e z v n c m s) (ht : ∀ i, i < p → (t i).At w B) (htt : ∀ i j, i < p → j < p → i ≠ j → ∀ b, own (t i).v b → ¬ own (t j).v b)
    (hts : ∀ i j, i < m → j < p → ∀ b, own (s i).v b → ¬ own (t j).v b) (htv : ∀ i, i < p → ∀ b, own (t i).v b → ¬ own v b)
    (hown : w2.ownsRow B e z v' (n + 1) (flat c n ++ cs)) (hg : w.grownBy w2 v.ownBlock) (hat : v'.ownBlock = v.ownBlock ∨ v'.ownBlock = some w.heap.size) :
    At w2 B e z v' (n + 1) (fun j => if j = n then cs else c j) (m + p) (fun i => if i < m then s i else t (i - m)) := by
  have hv' : ∀ b, own v' b → own v b ∨ b = w.heap.size := fun b hb => by
    rcases hat with e | e
    · exact .inl (by unfold own; rw [← e]; exact hb)
    · right; unfold own at hb; rw [e] at hb; exact (Option.some.inj hb).symm
  have keep : ∀ {u : Sub}, u.At w B → (∀ b, own u.v b → ¬ own v b) → u.At w2 B := fun {u} hu hne => by
    refine World.ownsRow.kept hu hg ?_
    cases hb : u.v.ownBlock with
    | none => exact .inl rfl
    | some b => exact .inr (fun e2 => hne b hb e2.symm)
  have old : ∀ {u : Sub}, u.At w B → (∀ b, own u.v b → ¬ own v b) → ∀ b, own u.v b → ¬ own v' b := fun {u} hu hne b hb hv => by
    rcases hv' b hv with h3 | h3
    · exact hne b hb h3
    · have := (own_lt hu hb).2
      omega
  refine ⟨?_, fun i hi => ?_, fun i j hi hj hij b => ?_, fun i hi b => ?_⟩
  · rw [flat_succ, if_pos rfl, flat_congr (g := c) (fun j hj => by rw [if_neg (by omega)])]
    exact hown
  · by_cases e1 : i < m
    · simp only [e1, if_true]
      exact keep (h.sub i e1) (h.sepv i e1)
    · simp only [e1, if_false]
      exact keep (ht _ (by omega)) (htv _ (by omega))
  · by_cases e1 : i < m
    · by_cases e2 : j < m
      · simp only [e1, e2, if_true]
        exact h.sep i j e1 e2 hij b
      · simp only [e1, e2, if_true, if_false]
        exact hts i (j - m) e1 (by omega) b
    · by_cases e2 : j < m
      · simp only [e1, e2, if_true, if_false]
        exact fun a1 a2 => hts j (i - m) e2 (by omega) b a2 a1
      · simp only [e1, e2, if_false]
        exact htt (i - m) (j - m) (by omega) (by omega) (by omega) b
  · by_cases e1 : i < m
    · simp only [e1, if_true]
      exact old (h.sub i e1) (h.sepv i e1) b
    · simp only [e1, if_false]
      exact old (ht _ (by omega)) (htv _ (by omega)) b
end
end Nst
end Go.Proofs.YtccklgopcjilcaaGreatDoor
/- Rows of nodes that a function has made itself: their cells, kept over what grows; as a list of nodes. -/
namespace Go.Proofs.YtccklgopcjilcaaGreatDoor
open Go.RowKit
set_option linter.unusedVariables false
namespace Ex
open Nd (NodeD)
def nval (n : NodeD) : List Value := [.int .i64 n.kind, .int .i64 n.value, .int .i64 n.left, .int .i64 n.right]
def nvals (l : List NodeD) : List Value := l.flatMap nval
theorem nvals_len (l : List NodeD) : (nvals l).length = l.length * 4 := by
  induction l with
  | nil => rfl
  | cons a l ih => simp only [nvals, List.flatMap_cons, List.length_append, List.length_cons] at ih ⊢; rw [ih]; simp [nval]; omega
theorem nvals_snoc (l : List NodeD) (n : NodeD) : nvals (l ++ [n]) = nvals l ++ nval n := by simp [nvals]
theorem own4_slice {w : World} {base n : Nat} {e : TypeId} {v : Value} {xs : List Value} (h : w.ownsRow base e 4 v n xs) : ∃ a cap, v = .slice a n cap := by
  obtain ⟨hl, ⟨rfl, rfl⟩ | ⟨g', cap', cur, hv, _⟩⟩ := h
  · exact ⟨_, _, rfl⟩
  · exact ⟨_, _, hv⟩
theorem owns_keep {w w' : World} {base : Nat} {e : TypeId} {size n : Nat} {v : Value} {xs : List Value} (h : w.ownsRow base e size v n xs) (hb : Below w.heap.size w w') : w'.ownsRow base e size v n xs :=
  h.kept (row := none) ⟨hb.os, hb.tape, hb.output, hb.size, fun k hk _ => hb.block k hk⟩ (by cases v.ownBlock <;> simp)
theorem grown_cell2 {w w' : World} {row : Option Nat} {b o : Nat} {v : Value} (h : w.grownBy w' row) (hc : w.cell? ⟨b, o, none⟩ = some v) (hr : row ≠ some b) : w'.cell? ⟨b, o, none⟩ = some v := by
  have hb : b < w.heap.size := by
    rcases Nat.lt_or_ge b w.heap.size with h1 | h1
    · exact h1
    · simp [World.cell?, Array.getElem?_eq_none h1] at hc
  simp only [World.cell?] at hc ⊢
  rw [h.block b hb (fun e => hr e.symm)]
  exact hc
theorem grown_free2 {w w' : World} {row : Option Nat} {b o : Nat} (h : w.grownBy w' row) (hb : b < w.heap.size) (hc : w.frozen? ⟨b, o, none⟩ = false) (hr : row ≠ some b) : w'.frozen? ⟨b, o, none⟩ = false := by
  simp only [World.frozen?] at hc ⊢
  rw [h.block b hb (fun e => hr e.symm)]
  exact hc
theorem infoNode : (Tryz.prog.info? 210).map (fun i => (i.zero, i.size, i.bytes)) = some (some (.agg #[.int .i64 0, .int .i64 0, .int .i64 0, .int .i64 0]), 4, 32) := by kernel_rfl
theorem nvals_get : ∀ (l : List NodeD) (i : Nat) (h : i < l.length), (nvals l)[i * 4]? = some (.int .i64 l[i].kind) ∧ (nvals l)[i * 4 + 1]? = some (.int .i64 l[i].value) ∧ (nvals l)[i * 4 + 2]? = some (.int .i64 l[i].left) ∧ (nvals l)[i * 4 + 3]? = some (.int .i64 l[i].right)
  | [], i, h => by simp at h
  | n :: l, 0, h => by simp [nvals, nval]
  | n :: l, i + 1, h => by
    have ih := nvals_get l i (by simpa using h)
    have e : nvals (n :: l) = nval n ++ nvals l := by simp [nvals]
    have e4 : (nval n).length = 4 := rfl
    simp only [List.getElem_cons_succ]
    rw [e]
    refine ⟨?_, ?_, ?_, ?_⟩
    · rw [List.getElem?_append_right (by omega), e4, show (i + 1) * 4 - 4 = i * 4 by omega]; exact ih.1
    · rw [List.getElem?_append_right (by omega), e4, show (i + 1) * 4 + 1 - 4 = i * 4 + 1 by omega]; exact ih.2.1
    · rw [List.getElem?_append_right (by omega), e4, show (i + 1) * 4 + 2 - 4 = i * 4 + 2 by omega]; exact ih.2.2.1
    · rw [List.getElem?_append_right (by omega), e4, show (i + 1) * 4 + 3 - 4 = i * 4 + 3 by omega]; exact ih.2.2.2
theorem at_of_owns {w : World} {B : Nat} {v : Value} {ns : List NodeD} (h : w.ownsRow B 210 4 v ns.length (nvals ns)) : Nd.At w B v ns := by
  obtain ⟨hl, ⟨rfl, h0⟩ | ⟨g, cap, cur, rfl, hbg, hg, hle, hm, hs, ht⟩⟩ := h
  · exact ⟨none, 0, by rw [h0], by omega, by unfold maxLen; omega, .inl (List.length_eq_zero_iff.1 h0)⟩
  · refine ⟨some ⟨g, 0, none⟩, cap, rfl, hle, hm, .inr ⟨g, 0, rfl, hbg, (Array.getElem?_eq_some_iff.1 hg).1, fun i hi => ?_⟩⟩
    have hc : ∀ j v, j < ns.length * 4 → (nvals ns)[j]? = some v → w.cell? ⟨g, 0 + j, none⟩ = some v := fun j v hj hv => by
      have h2 := congrArg (·[j]?) ht
      simp only [List.getElem?_take, hj, if_true, hv] at h2
      have h3 : cur[j]? = some v := by simpa using h2
      simp [World.cell?, hg, h3]
    obtain ⟨g1, g2, g3, g4⟩ := nvals_get ns i hi
    exact ⟨hc _ _ (by omega) g1, hc _ _ (by omega) g2, hc _ _ (by omega) g3, hc _ _ (by omega) g4⟩
end Ex
end Go.Proofs.YtccklgopcjilcaaGreatDoor
/- Steps that a function has made itself: a row of them, and two rows of nodes for each, in blocks of their own. -/
namespace Go.Proofs.YtccklgopcjilcaaGreatDoor
open Go.RowKit
set_option linter.unusedVariables false
namespace So
open Ex (nval nvals nvals_len nvals_snoc nvals_get)
open Nd (NodeD)
open St (StepD)
open Nst (own)
def SJ (ss : List StepD) (i : Nat) : StepD := ss[i]?.getD ⟨0, 0, ByteArray.empty, 0, [], []⟩
theorem SJ_eq {ss : List StepD} {i : Nat} (h : i < ss.length) : SJ ss i = ss[i] := by unfold SJ; rw [List.getElem?_eq_getElem h, Option.getD_some]
theorem SJ_left {ss : List StepD} {x : StepD} {i : Nat} (h : i < ss.length) : SJ (ss ++ [x]) i = SJ ss i := by unfold SJ; rw [List.getElem?_append_left h]
theorem SJ_last (ss : List StepD) (x : StepD) : SJ (ss ++ [x]) ss.length = x := by unfold SJ; simp
def scell (s : StepD) (vc ve : Value) : List Value := [.int .i64 s.kind, .int .i64 s.parent, .string s.name, .int .i64 s.arg, vc, ve]
def nsub (v : Value) (l : List NodeD) : Nst.Sub := ⟨210, 4, v, l.length, nvals l⟩
abbrev subs (ss : List StepD) (C E : Nat → Value) : Nat → Nst.Sub := fun i => if i % 2 = 0 then nsub (C (i / 2)) (SJ ss (i / 2)).cond else nsub (E (i / 2)) (SJ ss (i / 2)).expr
abbrev SAt (w : World) (B : Nat) (v : Value) (ss : List StepD) (C E : Nat → Value) : Prop := Nst.At w B 164 6 v ss.length (fun j => scell (SJ ss j) (C j) (E j)) (2 * ss.length) (subs ss C E)
def SOwn (w : World) (B : Nat) (v : Value) (ss : List StepD) : Prop := ∃ C E, SAt w B v ss C E
theorem SOwn.below {w w' : World} {B : Nat} {v : Value} {ss : List StepD} (h : SOwn w B v ss) (hb : Below w.heap.size w w') : SOwn w' B v ss := by
  obtain ⟨C, E, h⟩ := h; exact ⟨C, E, h.below hb⟩
theorem SOwn.keep {w w' : World} {B : Nat} {v : Value} {ss : List StepD} (h : SOwn w B v ss) (hb : ∀ b, B ≤ b → b < w.heap.size → w'.heap[b]? = w.heap[b]?) : SOwn w' B v ss := by
  obtain ⟨C, E, h⟩ := h; exact ⟨C, E, h.keep hb⟩
theorem SOwn.mono {w : World} {B B' : Nat} {v : Value} {ss : List StepD} (h : SOwn w B v ss) (hb : B' ≤ B) : SOwn w B' v ss := by
  obtain ⟨C, E, h⟩ := h; exact ⟨C, E, h.mono hb⟩
theorem SOwn.nil (w : World) (B : Nat) : SOwn w B (.slice none 0 0) [] := ⟨fun _ => .slice none 0 0, fun _ => .slice none 0 0, Nst.At.nil _ _ _ _ _ _⟩
theorem SOwn.slice {w : World} {B : Nat} {v : Value} {ss : List StepD} (h : SOwn w B v ss) : ∃ a cap, v = .slice a ss.length cap := by
  obtain ⟨C, E, h⟩ := h; exact Nst.own_slice h.row
theorem nodes_own {w : World} {B : Nat} {v : Value} {l : List NodeD} (h : w.ownsRow B 210 4 v l.length (nvals l)) : Nd.At w B v l := by
  rcases Nat.eq_zero_or_pos l.length with h0 | h0
  · have e : l = [] := List.eq_nil_of_length_eq_zero h0
    subst e
    rcases h.2 with ⟨rfl, _⟩ | ⟨g, cap, cur, rfl, _, _, _, hm, _⟩
    · exact ⟨_, _, rfl, Nat.le_refl _, Nat.zero_le _, .inl rfl⟩
    · exact ⟨_, _, rfl, Nat.zero_le _, hm, .inl rfl⟩
  · obtain ⟨g, cap, rfl, hB, hg, hc, hm⟩ := Nst.own_some h h0
    refine ⟨_, _, rfl, hc, hm, .inr ⟨g, 0, rfl, hB, hg, fun i hi => ?_⟩⟩
    have h0 := h.cellAt (i * 4) (by omega)
    have h1 := h.cellAt (i * 4 + 1) (by omega)
    have h2 := h.cellAt (i * 4 + 2) (by omega)
    have h3 := h.cellAt (i * 4 + 3) (by omega)
    have h4 := nvals_get l i hi
    rw [Nat.zero_add]
    exact ⟨h0.trans h4.1, h1.trans h4.2.1, h2.trans h4.2.2.1, h3.trans h4.2.2.2⟩
theorem sub_even (ss : List StepD) (C E : Nat → Value) (j : Nat) : subs ss C E (2 * j) = nsub (C j) (SJ ss j).cond := by
  have h1 : 2 * j % 2 = 0 := by omega
  have h2 : 2 * j / 2 = j := by omega
  simp only [subs, h1, h2, if_true]
theorem sub_odd (ss : List StepD) (C E : Nat → Value) (j : Nat) : subs ss C E (2 * j + 1) = nsub (E j) (SJ ss j).expr := by
  have h1 : ¬ (2 * j + 1) % 2 = 0 := by omega
  have h2 : (2 * j + 1) / 2 = j := by omega
  simp only [subs, h1, h2, if_false]
theorem SAt.cond {w : World} {B : Nat} {v : Value} {ss : List StepD} {C E : Nat → Value} (h : SAt w B v ss C E) {j : Nat} (hj : j < ss.length) : w.ownsRow B 210 4 (C j) ss[j].cond.length (nvals ss[j].cond) := by
  have h1 := h.sub (2 * j) (by omega)
  rw [sub_even, SJ_eq hj] at h1
  exact h1
theorem SAt.expr {w : World} {B : Nat} {v : Value} {ss : List StepD} {C E : Nat → Value} (h : SAt w B v ss C E) {j : Nat} (hj : j < ss.length) : w.ownsRow B 210 4 (E j) ss[j].expr.length (nvals ss[j].expr) := by
  have h1 := h.sub (2 * j + 1) (by omega)
  rw [sub_odd, SJ_eq hj] at h1
  exact h1
theorem scell_len (s : StepD) (vc ve : Value) : (scell s vc ve).length = 6 := rfl
theorem SOwn.steps {w : World} {B : Nat} {v : Value} {ss : List StepD} (h : SOwn w B v ss) : St.At w B v ss := by
  obtain ⟨C, E, h⟩ := h
  rcases Nat.eq_zero_or_pos ss.length with h0 | h0
  · have e : ss = [] := List.eq_nil_of_length_eq_zero h0
    subst e
    rcases h.row.2 with ⟨rfl, _⟩ | ⟨g, cap, cur, rfl, _, _, _, hm, _⟩
    · exact ⟨_, _, rfl, Nat.le_refl _, Nat.zero_le _, .inl rfl⟩
    · exact ⟨_, _, rfl, Nat.zero_le _, hm, .inl rfl⟩
  · obtain ⟨g, cap, rfl, hB, hg, hc, hm⟩ := Nst.own_some h.row h0
    refine ⟨_, _, rfl, hc, hm, .inr ⟨g, 0, rfl, hB, hg, fun i hi => ?_⟩⟩
    have hl : ∀ j, j < ss.length → (scell (SJ ss j) (C j) (E j)).length = 6 := fun j _ => rfl
    have c0 := h.cell hl hi (i := 0) (by omega)
    have c1 := h.cell hl hi (i := 1) (by omega)
    have c2 := h.cell hl hi (i := 2) (by omega)
    have c3 := h.cell hl hi (i := 3) (by omega)
    have c4 := h.cell hl hi (i := 4) (by omega)
    have c5 := h.cell hl hi (i := 5) (by omega)
    rw [SJ_eq hi] at c0 c1 c2 c3 c4 c5
    rw [Nat.zero_add]
    exact ⟨c0, c1, c2, c3, C i, E i, c4, c5, nodes_own (SAt.cond h hi), nodes_own (SAt.expr h hi)⟩
/-- A step behind all others: its rows of nodes are newer than all that is there. -/
theorem push_at {w0 w w2 : World} {B : Nat} {v v' vc ve : Value} {ss : List StepD} {x : StepD} {C E : Nat → Value} (h : SAt w0 B v ss C E) (hB : B ≤ w0.heap.size) (hb : ∀ b, B ≤ b → b < w0.heap.size → w.heap[b]? = w0.heap[b]?) (hsz : w0.heap.size ≤ w.heap.size)
    (hc : w.ownsRow w0.heap.size 210 4 vc x.cond.length (nvals x.cond)) (he : w.ownsRow w0.heap.size 210 4 ve x.expr.length (nvals x.expr)) (hce : ∀ b, own vc b → ¬ own ve b)
    (hown : w2.ownsRow B 164 6 v' (ss.length + 1) (Nst.flat (fun j => scell (SJ ss j) (C j) (E j)) ss.length ++ scell x vc ve))
    (hg : w.grownBy w2 v.ownBlock) (hat : v'.ownBlock = v.ownBlock ∨ v'.ownBlock = some w.heap.size) : SOwn w2 B v' (ss ++ [x]) := by
  have h1 := h.keep hb
  have hvc : ∀ b, own vc b → w0.heap.size ≤ b := fun b hb => (Nst.own_lt hc hb).1
  have hve : ∀ b, own ve b → w0.heap.size ≤ b := fun b hb => (Nst.own_lt he hb).1
  let t : Nat → Nst.Sub := fun i => if i = 0 then nsub vc x.cond else nsub ve x.expr
  have ht : ∀ i, ∀ b, own (t i).v b → w0.heap.size ≤ b := fun i b hb => by
    by_cases e : i = 0
    · simp only [t, e, if_true] at hb; exact hvc b hb
    · simp only [t, e, if_false] at hb; exact hve b hb
  have hp := h1.push (p := 2) (t := t) (fun i _ => by
      by_cases e : i = 0
      · simp only [t, e, if_true]; exact Nst.own_mono hc hB
      · simp only [t, e, if_false]; exact Nst.own_mono he hB)
    (fun i j hi hj hij b hb1 hb2 => by
      have : (i = 0 ∧ j = 1) ∨ (i = 1 ∧ j = 0) := by omega
      rcases this with ⟨rfl, rfl⟩ | ⟨rfl, rfl⟩
      · exact hce b hb1 hb2
      · exact hce b hb2 hb1)
    (fun i j hi _ b e1 e2 => by have := (Nst.own_lt (h.sub i hi) e1).2; have := ht j b e2; omega)
    (fun i _ b e1 e2 => by have := (Nst.own_lt h.row e2).2; have := ht i b e1; omega) hown hg hat
  refine ⟨fun j => if j = ss.length then vc else C j, fun j => if j = ss.length then ve else E j, ?_⟩
  unfold SAt
  rw [List.length_append]
  have hl : 2 * (ss.length + [x].length) = 2 * ss.length + 2 := by simp; omega
  rw [hl]
  refine hp.congr (fun j hj => ?_) (fun i hi => ?_)
  · by_cases e : j = ss.length
    · subst e
      simp only [if_true, SJ_last]
    · have hl : j < ss.length := Nat.lt_of_le_of_ne (Nat.le_of_lt_succ hj) e
      simp only [e, if_false, SJ_left hl]
  · by_cases e : i < 2 * ss.length
    · have e2 : i / 2 < ss.length := by omega
      have e3 : ¬ i / 2 = ss.length := by omega
      simp only [subs, e, if_true, e3, if_false, SJ_left e2]
    · have e2 : i / 2 = ss.length := by omega
      have e4 : i = 2 * ss.length ∨ i = 2 * ss.length + 1 := by omega
      rcases e4 with rfl | rfl
      · have e5 : 2 * ss.length % 2 = 0 := by omega
        have e6 : 2 * ss.length - 2 * ss.length = 0 := by omega
        simp only [subs, e, if_false, e2, if_true, SJ_last, e5, t, e6]
      · have e5 : ¬ (2 * ss.length + 1) % 2 = 0 := by omega
        have e6 : ¬ (2 * ss.length + 1 - 2 * ss.length = 0) := by omega
        simp only [subs, e, if_false, e2, if_true, SJ_last, e5, t, e6]
/-- The step with another condition. -/
def withCond (ss : List StepD) (j : Nat) (l : List NodeD) : List StepD := ss.set j { SJ ss j with cond := l }
theorem withCond_len (ss : List StepD) (j : Nat) (l : List NodeD) : (withCond ss j l).length = ss.length := by simp [withCond]
theorem withCond_J {ss : List StepD} {j : Nat} (hj : j < ss.length) (l : List NodeD) (i : Nat) : SJ (withCond ss j l) i = if i = j then { SJ ss j with cond := l } else SJ ss i := by
  unfold withCond
  by_cases e : i = j
  · subst e
    rw [if_pos rfl]
    unfold SJ
    rw [List.getElem?_set_self hj, Option.getD_some]
  · rw [if_neg e]
    unfold SJ
    rw [List.getElem?_set_ne (fun e2 => e e2.symm)]
/-- A condition is put into a step: a row of nodes that is newer than all that is there. -/
theorem cond_at {w0 w : World} {B g cap j : Nat} {vc : Value} {ss : List StepD} {l : List NodeD} {C E : Nat → Value} (h : SAt w0 B (.slice (some ⟨g, 0, none⟩) ss.length cap) ss C E) (hB : B ≤ w0.heap.size) (hj : j < ss.length) (hb : ∀ b, B ≤ b → b < w0.heap.size → w.heap[b]? = w0.heap[b]?)
    (hc : w.ownsRow w0.heap.size 210 4 vc l.length (nvals l)) : SOwn (w.setCell ⟨g, j * 6 + 4, none⟩ vc) B (.slice (some ⟨g, 0, none⟩) ss.length cap) (withCond ss j l) := by
  have h1 := h.keep hb
  have hvc : ∀ b, own vc b → w0.heap.size ≤ b := fun b hb => (Nst.own_lt hc hb).1
  have hgl := (Nst.own_lt h.row (b := g) rfl).2
  have h2 := h1.setRow (fun j _ => scell_len _ _ _) hj (i := 4) (by omega) vc
  have hc2 : (w.setCell ⟨g, j * 6 + 4, none⟩ vc).ownsRow w0.heap.size 210 4 vc l.length (nvals l) := ownsRow_setCell_below hc (a := ⟨g, j * 6 + 4, none⟩) hgl _
  refine ⟨fun i => if i = j then vc else C i, E, ?_⟩
  unfold SAt
  rw [withCond_len]
  refine ⟨?_, fun i hi => ?_, fun i k hi hk hik b => ?_, fun i hi b => ?_⟩
  · have h3 := h2.row
    rw [Nst.flat_congr (g := fun i => scell (SJ (withCond ss j l) i) (if i = j then vc else C i) (E i)) (fun i hi => by
      rw [withCond_J hj]
      by_cases e : i = j
      · subst e; simp [scell]
      · simp [e, scell])] at h3
    exact h3
  · by_cases e : i = 2 * j
    · subst e
      have e1 : 2 * j % 2 = 0 := by omega
      have e2 : 2 * j / 2 = j := by omega
      simp only [subs, e1, e2, if_true, withCond_J hj]
      exact Nst.own_mono hc2 hB
    · have h3 := h2.sub i hi
      have e3 : subs (withCond ss j l) (fun i => if i = j then vc else C i) E i = subs ss C E i := by
        by_cases p : i % 2 = 0
        · have e4 : ¬ i / 2 = j := by omega
          simp only [subs, p, if_true, e4, if_false, withCond_J hj]
        · simp only [subs, p, if_false, withCond_J hj]
          by_cases e4 : i / 2 = j
          · simp only [e4, if_true]
          · simp only [e4, if_false]
      rw [e3]
      exact h3
  · have hv : ∀ i, i < 2 * ss.length → (subs (withCond ss j l) (fun i => if i = j then vc else C i) E i).v = if i = 2 * j then vc else (subs ss C E i).v := fun i hi => by
      by_cases e : i = 2 * j
      · subst e
        have e1 : 2 * j % 2 = 0 := by omega
        have e2 : 2 * j / 2 = j := by omega
        simp only [subs, e1, e2, if_true, nsub]
      · simp only [e, if_false]
        by_cases p : i % 2 = 0
        · have e4 : ¬ i / 2 = j := by omega
          simp only [subs, p, if_true, e4, if_false, nsub]
        · simp only [subs, p, if_false, nsub]
    rw [hv i hi, hv k hk]
    by_cases e1 : i = 2 * j
    · have e2 : ¬ k = 2 * j := by omega
      simp only [e1, e2, if_true, if_false]
      intro a1 a2
      have := (Nst.own_lt (h.sub k hk) a2).2
      have := hvc b a1
      omega
    · by_cases e2 : k = 2 * j
      · simp only [e1, e2, if_true, if_false]
        intro a1 a2
        have := (Nst.own_lt (h.sub i hi) a1).2
        have := hvc b a2
        omega
      · simp only [e1, e2, if_false]
        exact h.sep i k hi hk hik b
  · by_cases e : i = 2 * j
    · subst e
      have e1 : 2 * j % 2 = 0 := by omega
      have e2 : 2 * j / 2 = j := by omega
      simp only [subs, e1, e2, if_true, nsub]
      intro a1 a2
      have := (Nst.own_lt h.row a2).2
      have := hvc b a1
      omega
    · have hv : (subs (withCond ss j l) (fun i => if i = j then vc else C i) E i).v = (subs ss C E i).v := by
        by_cases p : i % 2 = 0
        · have e4 : ¬ i / 2 = j := by omega
          simp only [subs, p, if_true, e4, if_false, nsub]
        · simp only [subs, p, if_false, nsub]
      rw [hv]
      exact h.sepv i hi b
theorem infoStep : (Tryz.prog.info? 164).map (fun i => (i.zero, i.size, i.bytes)) = some (some (Value.agg #[.int .i64 0, .int .i64 0, .string { data := #[] }, .int .i64 0, .slice none 0 0, .slice none 0 0]), 6, 88) := by kernel_rfl
theorem news {w : World} (cs : Array Value) (t : TypeId) (b : Nat) (hb : b = w.heap.size) : ∀ j u, cs.toList[j]? = some u → (w.alloc (.cells cs t)).cell? ((⟨b, 0, none⟩ : Addr).add j) = some u := by
  subst hb
  intro j u hj
  rw [Go.WideShapes.add_plain]
  simp only [Nat.zero_add, World.cell?_alloc_new]
  simpa using hj
end So
end Go.Proofs.YtccklgopcjilcaaGreatDoor
