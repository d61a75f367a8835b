/- Laid together: PoM, Nst. -/
import Derived.Test.YtahkpgffoiaeiaaGreatDoorJProcOf38
import Derived.Test.YtahkpgffoiaeiaaGreatDoorJProcOf12
import Derived.Test.YtahkpgffoiaeiaaGreatDoorJProcOf39
import Derived.Test.YtahkpgffoiaeiaaGreatDoorJProcOf14
import Derived.Test.YtahkpgffoiaeiaaGreatDoorProg
import Derived.WalkKit
import Derived.Below
import Derived.Laws.AppendOwn
import Derived.Laws.OwnMore
/- What ProcOf reads, as a plain function. -/
namespace Go.Proofs.YtahkpgffoiaeiaaGreatDoor
set_option linter.unusedVariables false
namespace Po
open Ex (hid str str_size parseF)
open Pf (kindN)
open Nd (NodeD)
open St (StepD)
open Tr (AttrD ElemD fault faultFrom acode acodeFrom hasName attrIdx vcode)
open Tf (aIf aName aMsg aTicks aVar aTo)
abbrev eqN (a b : ByteArray) : Bool := a.toList == b.toList
theorem str_of (v : ByteArray) : str v.data.toList = v := by unfold str; simp
def namesK (k : Int) : List ByteArray := if k = 2 then [aName] else if k = 5 then [aMsg] else if k = 6 ∨ k = 8 then [aTicks] else if k = 7 then [aVar, aTo] else []
theorem names_len (k : Int) : (namesK k).length ≤ 2 := by unfold namesK; split <;> (try split) <;> (try split) <;> (try split) <;> simp
def exprF (v : ByteArray) : Option (List NodeD) := (parseF v.data.toList).map fun t => t.nodes 0
def putA (s : StepD) (a : AttrD) : Option StepD :=
  if eqN a.name aName = true then some { s with name := a.value }
  else if eqN a.name aIf = true then (exprF a.value).map fun l => { s with cond := l }
  else if eqN a.name aTo = true then (exprF a.value).map fun l => { s with expr := l }
  else (numF a.value.data.toList).map fun n => { s with arg := n }
def putAll (s : StepD) : List AttrD → Option StepD
  | [] => some s
  | a :: r => (putA s a).bind fun t => putAll t r
theorem putAll_app (r : List AttrD) : ∀ (l : List AttrD) (s : StepD), putAll s (l ++ r) = (putAll s l).bind fun t => putAll t r
  | [], s => rfl
  | a :: l, s => by
    rw [List.cons_append, putAll, putAll]
    cases putA s a with
    | none => rfl
    | some t => exact putAll_app r l t
theorem put_step {l : List AttrD} {s t : StepD} {k : Nat} (hk : k < l.length) (h : putAll s (l.take k) = some t) : putAll s (l.take (k + 1)) = putA t l[k] := by
  rw [List.take_add_one, List.getElem?_eq_getElem hk]
  show putAll s (l.take k ++ [l[k]]) = _
  rw [putAll_app, h]
  show (putA t l[k]).bind _ = _
  cases putA t l[k] <;> rfl
theorem put_none {l : List AttrD} {s t : StepD} {k : Nat} (hk : k < l.length) (h : putAll s (l.take k) = some t) (h2 : putA t l[k] = none) : putAll s l = none := by
  have h3 := put_step hk h
  rw [h2] at h3
  have e := List.take_append_drop (k + 1) l
  rw [← e, putAll_app, h3]
  rfl
def hasA (k : Int) (l : List AttrD) : Bool := (l.all fun a => eqN a.name aIf || (namesK k).any fun n => eqN n a.name) && (namesK k).all fun n => hasName l n
def step0 (e : ElemD) : StepD := ⟨kindN e.tag, e.parent, ByteArray.empty, 0, [], []⟩
def stepC (e : ElemD) : Int := if kindN e.tag = 0 then 4 else if hasA (kindN e.tag) e.attrs = false then 5 else match putAll (step0 e) e.attrs with
  | none => 5
  | some _ => 0
def stepS (e : ElemD) : StepD := (putAll (step0 e) e.attrs).getD (step0 e)
theorem step_ok {e : ElemD} {s : StepD} (h0 : kindN e.tag ≠ 0) (h1 : hasA (kindN e.tag) e.attrs = true) (h2 : putAll (step0 e) e.attrs = some s) : stepC e = 0 ∧ stepS e = s := by
  unfold stepC stepS
  rw [if_neg h0, if_neg (by simp [h1]), h2]
  exact ⟨rfl, rfl⟩
theorem step_bad {e : ElemD} (h0 : kindN e.tag ≠ 0) (h : hasA (kindN e.tag) e.attrs = false ∨ putAll (step0 e) e.attrs = none) : stepC e = 5 := by
  unfold stepC
  rw [if_neg h0]
  rcases h with h | h
  · rw [if_pos h]
  · rw [h]; split <;> rfl
theorem step_none {e : ElemD} (h0 : kindN e.tag = 0) : stepC e = 4 := by unfold stepC; rw [if_pos h0]
def procC (es : List ElemD) : Int := if fault es ≠ 0 then fault es else match es.find? (fun e => decide (stepC e ≠ 0)) with
  | some e => stepC e
  | none => Pf.pFault (es.map stepS)
def procS (es : List ElemD) : List StepD := if procC es = 0 then es.map stepS else []
theorem proc_fault {es : List ElemD} (h : fault es ≠ 0) : procC es = fault es ∧ procS es = [] := by
  have e : procC es = fault es := by unfold procC; rw [if_pos h]
  exact ⟨e, by unfold procS; rw [e, if_neg h]⟩
theorem proc_step {es : List ElemD} {k : Nat} (h : fault es = 0) (hk : k < es.length) (hc : stepC es[k] ≠ 0) (hn : ∀ j (hj : j < es.length), j < k → stepC es[j] = 0) : procC es = stepC es[k] ∧ procS es = [] := by
  have e : procC es = stepC es[k] := by
    unfold procC
    rw [if_neg (by simp [h])]
    have : es.find? (fun e => decide (stepC e ≠ 0)) = some es[k] := by
      rw [List.find?_eq_some_iff_getElem]
      exact ⟨by simp [hc], k, hk, rfl, fun j hj => by simp [hn j (by omega) hj]⟩
    rw [this]
  exact ⟨e, by unfold procS; rw [e, if_neg hc]⟩
theorem proc_all {es : List ElemD} (h : fault es = 0) (hn : ∀ j (hj : j < es.length), stepC es[j] = 0) : procC es = Pf.pFault (es.map stepS) := by
  unfold procC
  rw [if_neg (by simp [h])]
  have : es.find? (fun e => decide (stepC e ≠ 0)) = none := by
    rw [List.find?_eq_none]
    intro x hx
    obtain ⟨j, hj, rfl⟩ := List.getElem_of_mem hx
    simp [hn j hj]
  rw [this]
/-! ### what a tree with no fault gives -/
theorem acode_pre : ∀ (l pre : List AttrD), acodeFrom pre l = 0 → ∀ b ∈ l, hasName pre b.name = false ∧ b.value.size ≤ 40
  | [], _, _, b, hb => by simp at hb
  | a :: r, pre, h, b, hb => by
    rw [acodeFrom] at h
    split at h
    · rename_i hx; exact absurd h hx
    · split at h
      · simp at h
      · rename_i h2
        split at h
        · rename_i hx; exact absurd h hx
        · rename_i h3
          rcases List.mem_cons.1 hb with rfl | hb
          · refine ⟨by simpa using h2, ?_⟩
            have h3 : vcode b.value.data.toList = 0 := by simpa using h3
            unfold vcode at h3
            split at h3
            · simp at h3
            · rename_i h4; simp at h4; exact h4
          · have := acode_pre r (pre ++ [a]) h b hb
            refine ⟨?_, this.2⟩
            have h5 := this.1
            unfold hasName at h5 ⊢
            rw [List.any_append, Bool.or_eq_false_iff] at h5
            exact h5.1
theorem acode_tail {a : AttrD} {r pre : List AttrD} (h : acodeFrom pre (a :: r) = 0) : acodeFrom (pre ++ [a]) r = 0 := by
  rw [acodeFrom] at h
  split at h
  · rename_i hx; exact absurd h hx
  · split at h
    · simp at h
    · split at h
      · rename_i hx; exact absurd h hx
      · exact h
theorem acode_one (nm : ByteArray) : ∀ (l pre : List AttrD), acodeFrom pre l = 0 → (l.countP fun a => eqN nm a.name) ≤ 1
  | [], _, _ => by simp
  | a :: r, pre, h => by
    have ht := acode_tail h
    rw [List.countP_cons]
    by_cases e : eqN nm a.name = true
    · have hz : (r.countP fun a => eqN nm a.name) = 0 := by
        rw [List.countP_eq_zero]
        intro b hb hc
        have := (acode_pre r _ ht b hb).1
        unfold hasName at this
        rw [List.any_append, Bool.or_eq_false_iff] at this
        have h2 := this.2
        simp at h2
        have e1 : nm.toList = a.name.toList := by simpa [eqN] using e
        have e2 : nm.toList = b.name.toList := by simpa [eqN] using hc
        exact h2 (e1.symm.trans e2)
      rw [hz, if_pos e]
      omega
    · rw [if_neg e]
      exact acode_one nm r _ ht
theorem fault_mem : ∀ (es : List ElemD) (i : Nat) (S : List Nat), faultFrom i S es = 0 → ∀ e ∈ es, acode e.attrs = 0 ∧ e.attrs.length ≤ 6
  | [], _, _, _, e, he => by simp at he
  | x :: r, i, S, h, e, he => by
    rw [faultFrom] at h
    split at h
    · rename_i hx; exact absurd h hx
    · split at h
      · simp at h
      · split at h
        · simp at h
        · split at h
          · simp at h
          · rename_i h4
            split at h
            · rename_i hx; exact absurd h hx
            · rename_i h5
              rcases List.mem_cons.1 he with rfl | he
              · exact ⟨by simpa using h5, by omega⟩
              · exact fault_mem r _ _ h e he
theorem fault_at {es : List ElemD} (h : fault es = 0) {e : ElemD} (he : e ∈ es) : acode e.attrs = 0 ∧ e.attrs.length ≤ 6 := by
  unfold fault at h
  split at h
  · simp at h
  · exact fault_mem es _ _ h e he
theorem fault_len {es : List ElemD} (h : fault es = 0) : 1 ≤ es.length ∧ es.length ≤ 40 := by
  unfold fault at h
  split at h
  · simp at h
  · omega
/-! ### the specification counts -/
def cnt (k : Int) (l : List AttrD) : Nat := (l.map fun a => (namesK k).countP fun n => eqN n a.name).sum
theorem any_one {l : List AttrD} {nm : ByteArray} (h : (l.countP fun a => eqN nm a.name) ≤ 1) : (l.countP fun a => eqN nm a.name) = if hasName l nm = true then 1 else 0 := by
  have e : (hasName l nm = true) ↔ 0 < l.countP fun a => eqN nm a.name := by
    rw [List.countP_pos_iff]
    unfold hasName
    rw [List.any_eq_true]
    constructor
    · rintro ⟨a, ha, hb⟩; exact ⟨a, ha, by rw [beq_iff_eq] at hb ⊢; exact hb.symm⟩
    · rintro ⟨a, ha, hb⟩; exact ⟨a, ha, by rw [beq_iff_eq] at hb ⊢; exact hb.symm⟩
  split
  · rename_i hh; have := e.1 hh; omega
  · rename_i hh; have : ¬ 0 < l.countP fun a => eqN nm a.name := fun hc => hh (e.2 hc); omega
theorem sum_countP (p : AttrD → Bool) (l : List AttrD) : (l.map fun a => if p a = true then 1 else 0).sum = l.countP p := by
  induction l with
  | nil => rfl
  | cons a r ih => simp only [List.map_cons, List.sum_cons, List.countP_cons, ih]; omega
theorem sum_add (f g : AttrD → Nat) (l : List AttrD) : (l.map fun a => f a + g a).sum = (l.map f).sum + (l.map g).sum := by
  induction l with
  | nil => rfl
  | cons a r ih => simp only [List.map_cons, List.sum_cons, ih]; omega
theorem sum_zero : ∀ (l : List AttrD), (l.map fun a => ([] : List ByteArray).countP fun n => eqN n a.name).sum = 0
  | [] => rfl
  | a :: r => by rw [List.map_cons, List.sum_cons, sum_zero r]; rfl
theorem cnt_has {k : Int} {l : List AttrD} (h : acode l = 0) : (cnt k l = (namesK k).length) ↔ ((namesK k).all fun n => hasName l n) = true := by
  have h1 : ∀ nm, (l.countP fun a => eqN nm a.name) = if hasName l nm = true then 1 else 0 := fun nm => any_one (acode_one nm l [] h)
  have one : ∀ nm, (l.map fun a => [nm].countP fun n => eqN n a.name).sum = if hasName l nm = true then 1 else 0 := fun nm => by
    rw [← h1 nm, ← sum_countP]
    congr 1
    refine List.map_congr_left fun a _ => ?_
    simp [List.countP_cons]
  have two : ∀ x y, (l.map fun a => [x, y].countP fun n => eqN n a.name).sum = (if hasName l x = true then 1 else 0) + (if hasName l y = true then 1 else 0) := fun x y => by
    rw [← one x, ← one y, ← sum_add]
    congr 1
    refine List.map_congr_left fun a _ => ?_
    simp only [List.countP_cons, List.countP_nil]
    omega
  have nil : (l.map fun a => ([] : List ByteArray).countP fun n => eqN n a.name).sum = 0 := sum_zero l
  unfold cnt namesK
  split
  · rw [one]; simp
  · split
    · rw [one]; simp
    · split
      · rw [one]; simp
      · split
        · rw [two]
          simp only [List.all_cons, List.all_nil, Bool.and_true, Bool.and_eq_true, List.length_cons, List.length_nil]
          split <;> split <;> simp_all
        · rw [nil]; simp
end Po
end Go.Proofs.YtahkpgffoiaeiaaGreatDoor
/- Rows of records that hold rows of their own, as a function makes them itself: each row lies in a block of its own. -/
namespace Go.Proofs.YtahkpgffoiaeiaaGreatDoor
open Go.RowKit
set_option linter.unusedVariables false
namespace Nst
def own (v : Value) (b : Nat) : Prop := v.ownBlock = some b
def flat (f : Nat → List Value) (n : Nat) : List Value := (List.range n).flatMap f
theorem flat_succ (f : Nat → List Value) (n : Nat) : flat f (n + 1) = flat f n ++ f n := by simp [flat, List.range_succ]
theorem flat_len {f : Nat → List Value} {z : Nat} : ∀ n, (∀ j, j < n → (f j).length = z) → (flat f n).length = n * z
  | 0, _ => by simp [flat]
  | n + 1, h => by rw [flat_succ, List.length_append, flat_len n (fun j hj => h j (by omega)), h n (by omega), Nat.succ_mul]
theorem mul_lt {j n c z : Nat} (hj : j < n) (hc : c < z) : j * z + c < n * z := by
  have h1 : (j + 1) * z ≤ n * z := Nat.mul_le_mul_right z hj
  rw [Nat.succ_mul] at h1
  omega
theorem flat_get {f : Nat → List Value} {z : Nat} : ∀ {n j c : Nat}, (∀ j, j < n → (f j).length = z) → j < n → c < z → (flat f n)[j * z + c]? = (f j)[c]?
  | 0, j, c, h, hj, _ => by omega
  | n + 1, j, c, h, hj, hc => by
    rw [flat_succ]
    have hl := flat_len (f := f) n (fun j hj => h j (by omega))
    by_cases e : j = n
    · subst e
      rw [List.getElem?_append_right (by rw [hl]; omega), hl, Nat.add_sub_cancel_left]
    · have := mul_lt (j := j) (n := n) (by omega) hc
      rw [List.getElem?_append_left (by rw [hl]; exact this)]
      exact flat_get (fun j hj => h j (by omega)) (by omega) hc
theorem flat_congr {f g : Nat → List Value} : ∀ {n : Nat}, (∀ j, j < n → f j = g j) → flat f n = flat g n
  | 0, _ => rfl
  | n + 1, h => by rw [flat_succ, flat_succ, h n (by omega), flat_congr (fun j hj => h j (by omega))]
theorem flat_set {f : Nat → List Value} {z : Nat} : ∀ {n j c : Nat}, (∀ j, j < n → (f j).length = z) → j < n → c < z → ∀ (u : Value), (flat f n).set (j * z + c) u = flat (fun i => if i = j then (f j).set c u else f i) n
  | 0, j, c, h, hj, hc, u => by omega
  | n + 1, j, c, h, hj, hc, u => by
    rw [flat_succ, flat_succ]
    have hl := flat_len (f := f) n (fun j hj => h j (by omega))
    by_cases e : j = n
    · subst e
      rw [List.set_append_right _ _ (by rw [hl]; omega), hl, Nat.add_sub_cancel_left, if_pos rfl]
      congr 1
      exact flat_congr (fun i hi => by rw [if_neg (by omega)])
    · have := mul_lt (j := j) (n := n) (by omega) hc
      rw [List.set_append_left _ _ (by rw [hl]; exact this), flat_set (fun j hj => h j (by omega)) (by omega) hc, if_neg (fun e2 => e e2.symm)]
theorem own_lt {w : World} {B : Nat} {e : TypeId} {size n b : Nat} {v : Value} {xs : List Value} (h : w.ownsRow B e size v n xs) (hb : own v b) : B ≤ b ∧ b < w.heap.size := h.lt b hb
theorem own_kept {w w' : World} {B : Nat} {e : TypeId} {size n : Nat} {v : Value} {xs : List Value} (h : w.ownsRow B e size v n xs) (hb : ∀ b, own v b → w'.heap[b]? = w.heap[b]?) : w'.ownsRow B e size v n xs := by
  refine ⟨h.1, ?_⟩
  rcases h.2 with hn | ⟨g, cap, cur, rfl, hbg, hg, rest⟩
  · exact .inl hn
  · exact .inr ⟨g, cap, cur, rfl, hbg, by rw [hb g rfl]; exact hg, rest⟩
theorem own_mono {w : World} {B B' : Nat} {e : TypeId} {size n : Nat} {v : Value} {xs : List Value} (h : w.ownsRow B e size v n xs) (hb : B' ≤ B) : w.ownsRow B' e size v n xs := by
  refine ⟨h.1, ?_⟩
  rcases h.2 with hn | ⟨g, cap, cur, rfl, hbg, rest⟩
  · exact .inl hn
  · exact .inr ⟨g, cap, cur, rfl, Nat.le_trans hb hbg, rest⟩
theorem own_slice {w : World} {B : Nat} {e : TypeId} {size n : Nat} {v : Value} {xs : List Value} (h : w.ownsRow B e size v n xs) : ∃ a cap, v = .slice a n cap := by
  rcases h.2 with ⟨rfl, rfl⟩ | ⟨g, cap, cur, rfl, _⟩
  · exact ⟨_, _, rfl⟩
  · exact ⟨_, _, rfl⟩
theorem own_some {w : World} {B : Nat} {e : TypeId} {size n : Nat} {v : Value} {xs : List Value} (h : w.ownsRow B e size v n xs) (h0 : 0 < n) : ∃ g cap, v = .slice (some ⟨g, 0, none⟩) n cap ∧ B ≤ g ∧ g < w.heap.size ∧ n ≤ cap ∧ cap ≤ maxLen := by
  rcases h.2 with ⟨rfl, rfl⟩ | ⟨g, cap, cur, rfl, hb, hh, h1, h2, _⟩
  · omega
  · exact ⟨g, cap, rfl, hb, (Array.getElem?_eq_some_iff.1 hh).1, h1, h2⟩
/-- A row inside a record. -/
structure Sub where
  ty : TypeId
  sz : Nat
  v : Value
  n : Nat
  xs : List Value
def Sub.At (w : World) (B : Nat) (s : Sub) : Prop := w.ownsRow B s.ty s.sz s.v s.n s.xs
/-- n records of z cells each (record j is c j), and m rows inside them. -/
structure At (w : World) (B : Nat) (e : TypeId) (z : Nat) (v : Value) (n : Nat) (c : Nat → List Value) (m : Nat) (s : Nat → Sub) : Prop where
  row : w.ownsRow B e z v n (flat c n)
  sub : ∀ i, i < m → (s i).At w B
  sep : ∀ i j, i < m → j < m → i ≠ j → ∀ b, own (s i).v b → ¬ own (s j).v b
  sepv : ∀ i, i < m → ∀ b, own (s i).v b → ¬ own v b
section
variable {w w' : World} {B : Nat} {e : TypeId} {z : Nat} {v : Value} {n : Nat} {c : Nat → List Value} {m : Nat} {s : Nat → Sub}
theorem At.kept (h : At w B e z v n c m s) (hv : ∀ b, own v b → w'.heap[b]? = w.heap[b]?) (hs : ∀ i, i < m → ∀ b, own (s i).v b → w'.heap[b]? = w.heap[b]?) : At w' B e z v n c m s :=
  ⟨own_kept h.row hv, fun i hi => own_kept (h.sub i hi) (hs i hi), h.sep, h.sepv⟩
theorem At.keep (h : At w B e z v n c m s) (hb : ∀ b, B ≤ b → b < w.heap.size → w'.heap[b]? = w.heap[b]?) : At w' B e z v n c m s :=
  h.kept (fun b hv => hb b (own_lt h.row hv).1 (own_lt h.row hv).2) (fun i hi b hs => hb b (own_lt (h.sub i hi) hs).1 (own_lt (h.sub i hi) hs).2)
theorem At.below (h : At w B e z v n c m s) (hb : Below w.heap.size w w') : At w' B e z v n c m s := h.keep (fun b _ hl => hb.block b hl)
theorem At.mono {B' : Nat} (h : At w B e z v n c m s) (hb : B' ≤ B) : At w B' e z v n c m s := ⟨own_mono h.row hb, fun i hi => own_mono (h.sub i hi) hb, h.sep, h.sepv⟩
theorem At.nil (w : World) (B : Nat) (e : TypeId) (z : Nat) (c : Nat → List Value) (s : Nat → Sub) : At w B e z (.slice none 0 0) 0 c 0 s :=
  ⟨World.ownsRow_nil w B e z, fun i h => by omega, fun i j h => by omega, fun i h => by omega⟩
theorem At.congr {c' : Nat → List Value} {s' : Nat → Sub} (h : At w B e z v n c m s) (hc : ∀ j, j < n → c' j = c j) (hs : ∀ i, i < m → s' i = s i) : At w B e z v n c' m s' :=
  ⟨by rw [flat_congr hc]; exact h.row, fun i hi => by rw [hs i hi]; exact h.sub i hi, fun i j hi hj hij b => by rw [hs i hi, hs j hj]; exact h.sep i j hi hj hij b, fun i hi b => by rw [hs i hi]; exact h.sepv i hi b⟩
/-- The cells of a record. -/
theorem At.cell {g cap : Nat} (h : At w B e z (.slice (some ⟨g, 0, none⟩) n cap) n c m s) (hc : ∀ j, j < n → (c j).length = z) {j i : Nat} (hj : j < n) (hi : i < z) : w.cell? ⟨g, j * z + i, none⟩ = (c j)[i]? := by
  rw [h.row.cellAt (j * z + i) (mul_lt hj hi)]
  exact flat_get hc hj hi
theorem At.free {g cap : Nat} (h : At w B e z (.slice (some ⟨g, 0, none⟩) n cap) n c m s) (i : Nat) : w.frozen? ⟨g, i, none⟩ = false := h.row.frozenAt i
/-- A cell of a record is set. -/
theorem At.setRow {g cap : Nat} (h : At w B e z (.slice (some ⟨g, 0, none⟩) n cap) n c m s) (hc : ∀ j, j < n → (c j).length = z) {j i : Nat} (hj : j < n) (hi : i < z) (u : Value) :
    At (w.setCell ⟨g, j * z + i, none⟩ u) B e z (.slice (some ⟨g, 0, none⟩) n cap) n (fun x => if x = j then (c j).set i u else c x) m s := by
  have hst := h.row.stored (j * z + i) u
  rw [flat_set hc hj hi] at hst
  refine ⟨hst.1, fun q hq => ?_, h.sep, h.sepv⟩
  refine World.ownsRow.kept (h.sub q hq) hst.2 ?_
  cases hb : (s q).v.ownBlock with
  | none => exact .inl rfl
  | some b => exact .inr (fun e2 => h.sepv q hq b hb e2.symm)
/-- A row inside a record has turned, and nothing else. -/
theorem At.setSub (h : At w B e z v n c m s) {q : Nat} (hq : q < m) {xs : List Value} (hx : w'.ownsRow B (s q).ty (s q).sz (s q).v (s q).n xs) (hg : w.grownBy w' (s q).v.ownBlock) :
    At w' B e z v n c m (fun i => if i = q then { s q with xs := xs } else s i) := by
  refine ⟨h.row.kept hg ?_, fun i hi => ?_, fun i j hi hj hij b => ?_, fun i hi b => ?_⟩
  · cases hb : v.ownBlock with
    | none => exact .inl rfl
    | some b => exact .inr (fun e2 => h.sepv q hq b e2.symm hb)
  · by_cases ei : i = q
    · subst ei
      simp only [if_true]
      exact hx
    · simp only [ei, if_false]
      refine World.ownsRow.kept (h.sub i hi) hg ?_
      cases hb : (s i).v.ownBlock with
      | none => exact .inl rfl
      | some b => exact .inr (fun e2 => h.sep i q hi hq ei b hb e2.symm)
  · have e1 : (if i = q then { s q with xs := xs } else s i).v = (s i).v := by split <;> simp_all
    have e2 : (if j = q then { s q with xs := xs } else s j).v = (s j).v := by split <;> simp_all
    rw [e1, e2]
    exact h.sep i j hi hj hij b
  · have e1 : (if i = q then { s q with xs := xs } else s i).v = (s i).v := by split <;> simp_all
    rw [e1]
    exact h.sepv i hi b
/-- A record behind all others, with p rows of its own. -/
theorem At.push {w2 : World} {v' : Value} {cs : List Value} {p : Nat} {t : Nat → Sub} (h : At w B e z v n c m s) (ht : ∀ i, i < p → (t i).At w B) (htt : ∀ i j, i < p → j < p → i ≠ j → ∀ b, own (t i).v b → ¬ own (t j).v b)
    (hts : ∀ i j, i < m → j < p → ∀ b, own (s i).v b → ¬ own (t j).v b) (htv : ∀ i, i < p → ∀ b, own (t i).v b → ¬ own v b)
    (hown : w2.ownsRow B e z v' (n + 1) (flat c n ++ cs)) (hg : w.grownBy w2 v.ownBlock) (hat : v'.ownBlock = v.ownBlock ∨ v'.ownBlock = some w.heap.size) :
    At w2 B e z v' (n + 1) (fun j => if j = n then cs else c j) (m + p) (fun i => if i < m then s i else t (i - m)) := by
  have hv' : ∀ b, own v' b → own v b ∨ b = w.heap.size := fun b hb => by
    rcases hat with e | e
    · exact .inl (by unfold own; rw [← e]; exact hb)
    · right; unfold own at hb; rw [e] at hb; exact (Option.some.inj hb).symm
  have keep : ∀ {u : Sub}, u.At w B → (∀ b, own u.v b → ¬ own v b) → u.At w2 B := fun {u} hu hne => by
    refine World.ownsRow.kept hu hg ?_
    cases hb : u.v.ownBlock with
    | none => exact .inl rfl
    | some b => exact .inr (fun e2 => hne b hb e2.symm)
  have old : ∀ {u : Sub}, u.At w B → (∀ b, own u.v b → ¬ own v b) → ∀ b, own u.v b → ¬ own v' b := fun {u} hu hne b hb hv => by
    rcases hv' b hv with h3 | h3
    · exact hne b hb h3
    · have := (own_lt hu hb).2
      omega
  refine ⟨?_, fun i hi => ?_, fun i j hi hj hij b => ?_, fun i hi b => ?_⟩
  · rw [flat_succ, if_pos rfl, flat_congr (g := c) (fun j hj => by rw [if_neg (by omega)])]
    exact hown
  · by_cases e1 : i < m
    · simp only [e1, if_true]
      exact keep (h.sub i e1) (h.sepv i e1)
    · simp only [e1, if_false]
      exact keep (ht _ (by omega)) (htv _ (by omega))
  · by_cases e1 : i < m
    · by_cases e2 : j < m
      · simp only [e1, e2, if_true]
        exact h.sep i j e1 e2 hij b
      · simp only [e1, e2, if_true, if_false]
        exact hts i (j - m) e1 (by omega) b
    · by_cases e2 : j < m
      · simp only [e1, e2, if_true, if_false]
        exact fun a1 a2 => hts j (i - m) e2 (by omega) b a2 a1
      · simp only [e1, e2, if_false]
        exact htt (i - m) (j - m) (by omega) (by omega) (by omega) b
  · by_cases e1 : i < m
    · simp only [e1, if_true]
      exact old (h.sub i e1) (h.sepv i e1) b
    · simp only [e1, if_false]
      exact old (ht _ (by omega)) (htv _ (by omega)) b
end
end Nst
end Go.Proofs.YtahkpgffoiaeiaaGreatDoor
