/- Laid together: Nst, TrA. -/
import Derived.Test.YtgghigfflpbjiaaGreatDoorProg
import Derived.WalkKit
import Derived.Below
import Derived.Laws.AppendOwn
import Derived.Laws.OwnMore
import Derived.Test.YtgghigfflpbjiaaGreatDoorJTreeOf2
import Derived.WalkSpells
import Derived.WalkLawsBesides
/- Rows of records that hold rows of their own, as a function makes them itself: each row lies in a block of its own. -/
namespace Go.Proofs.YtgghigfflpbjiaaGreatDoor
open Go.RowKit
set_option linter.unusedVariables false
namespace Nst
def own (v : Value) (b : Nat) : Prop := v.ownBlock = some b
def flat (f : Nat → List Value) (n : Nat) : List Value := (List.range n).flatMap f
theorem flat_succ (f : Nat → List Value) (n : Nat) : flat f (n + 1) = flat f n ++ f n := by simp [flat, List.range_succ]
theorem flat_len {f : Nat → List Value} {z : Nat} : ∀ n, (∀ j, j < n → (f j).length = z) → (flat f n).length = n * z
  | 0, _ => by simp [flat]
  | n + 1, h => by rw [flat_succ, List.length_append, flat_len n (fun j hj => h j (by omega)), h n (by omega), Nat.succ_mul]
theorem mul_lt {j n c z : Nat} (hj : j < n) (hc : c < z) : j * z + c < n * z := by
  have h1 : (j + 1) * z ≤ n * z := Nat.mul_le_mul_right z hj
  rw [Nat.succ_mul] at h1
  omega
theorem flat_get {f : Nat → List Value} {z : Nat} : ∀ {n j c : Nat}, (∀ j, j < n → (f j).length = z) → j < n → c < z → (flat f n)[j * z + c]? = (f j)[c]?
  | 0, j, c, h, hj, _ => by omega
  | n + 1, j, c, h, hj, hc => by
    rw [flat_succ]
    have hl := flat_len (f := f) n (fun j hj => h j (by omega))
    by_cases e : j = n
    · subst e
      rw [List.getElem?_append_right (by rw [hl]; omega), hl, Nat.add_sub_cancel_left]
    · have := mul_lt (j := j) (n := n) (by omega) hc
      rw [List.getElem?_append_left (by rw [hl]; exact this)]
      exact flat_get (fun j hj => h j (by omega)) (by omega) hc
theorem flat_congr {f g : Nat → List Value} : ∀ {n : Nat}, (∀ j, j < n → f j = g j) → flat f n = flat g n
  | 0, _ => rfl
  | n + 1, h => by rw [flat_succ, flat_succ, h n (by omega), flat_congr (fun j hj => h j (by omega))]
theorem flat_set {f : Nat → List Value} {z : Nat} : ∀ {n j c : Nat}, (∀ j, j < n → (f j).length = z) → j < n → c < z → ∀ (u : Value), (flat f n).set (j * z + c) u = flat (fun i => if i = j then (f j).set c u else f i) n
  | 0, j, c, h, hj, hc, u => by omega
  | n + 1, j, c, h, hj, hc, u => by
    rw [flat_succ, flat_succ]
    have hl := flat_len (f := f) n (fun j hj => h j (by omega))
    by_cases e : j = n
    · subst e
      rw [List.set_append_right _ _ (by rw [hl]; omega), hl, Nat.add_sub_cancel_left, if_pos rfl]
      congr 1
      exact flat_congr (fun i hi => by rw [if_neg (by omega)])
    · have := mul_lt (j := j) (n := n) (by omega) hc
      rw [List.set_append_left _ _ (by rw [hl]; exact this), flat_set (fun j hj => h j (by omega)) (by omega) hc, if_neg (fun e2 => e e2.symm)]
theorem own_lt {w : World} {B : Nat} {e : TypeId} {size n b : Nat} {v : Value} {xs : List Value} (h : w.ownsRow B e size v n xs) (hb : own v b) : B ≤ b ∧ b < w.heap.size := h.lt b hb
theorem own_kept {w w' : World} {B : Nat} {e : TypeId} {size n : Nat} {v : Value} {xs : List Value} (h : w.ownsRow B e size v n xs) (hb : ∀ b, own v b → w'.heap[b]? = w.heap[b]?) : w'.ownsRow B e size v n xs := by
  refine ⟨h.1, ?_⟩
  rcases h.2 with hn | ⟨g, cap, cur, rfl, hbg, hg, rest⟩
  · exact .inl hn
  · exact .inr ⟨g, cap, cur, rfl, hbg, by rw [hb g rfl]; exact hg, rest⟩
theorem own_mono {w : World} {B B' : Nat} {e : TypeId} {size n : Nat} {v : Value} {xs : List Value} (h : w.ownsRow B e size v n xs) (hb : B' ≤ B) : w.ownsRow B' e size v n xs := by
  refine ⟨h.1, ?_⟩
  rcases h.2 with hn | ⟨g, cap, cur, rfl, hbg, rest⟩
  · exact .inl hn
  · exact .inr ⟨g, cap, cur, rfl, Nat.le_trans hb hbg, rest⟩
theorem own_slice {w : World} {B : Nat} {e : TypeId} {size n : Nat} {v : Value} {xs : List Value} (h : w.ownsRow B e size v n xs) : ∃ a cap, v = .slice a n cap := by
  rcases h.2 with ⟨rfl, rfl⟩ | ⟨g, cap, cur, rfl, _⟩
  · exact ⟨_, _, rfl⟩
  · exact ⟨_, _, rfl⟩
theorem own_some {w : World} {B : Nat} {e : TypeId} {size n : Nat} {v : Value} {xs : List Value} (h : w.ownsRow B e size v n xs) (h0 : 0 < n) : ∃ g cap, v = .slice (some ⟨g, 0, none⟩) n cap ∧ B ≤ g ∧ g < w.heap.size ∧ n ≤ cap ∧ cap ≤ maxLen := by
  rcases h.2 with ⟨rfl, rfl⟩ | ⟨g, cap, cur, rfl, hb, hh, h1, h2, _⟩
  · omega
  · exact ⟨g, cap, rfl, hb, (Array.getElem?_eq_some_iff.1 hh).1, h1, h2⟩
/-- A row inside a record. -/
structure Sub where
  ty : TypeId
  sz : Nat
  v : Value
  n : Nat
  xs : List Value
def Sub.At (w : World) (B : Nat) (s : Sub) : Prop := w.ownsRow B s.ty s.sz s.v s.n s.xs
/-- n records of z cells each (record j is c j), and m rows inside them. -/
structure At (w : World) (B : Nat) (e : TypeId) (z : Nat) (v : Value) (n : Nat) (c : Nat → List Value) (m : Nat) (s : Nat → Sub) : Prop where
  row : w.ownsRow B e z v n (flat c n)
  sub : ∀ i, i < m → (s i).At w B
  sep : ∀ i j, i < m → j < m → i ≠ j → ∀ b, own (s i).v b → ¬ own (s j).v b
  sepv : ∀ i, i < m → ∀ b, own (s i).v b → ¬ own v b
section
variable {w w' : World} {B : Nat} {e : TypeId} {z : Nat} {v : Value} {n : Nat} {c : Nat → List Value} {m : Nat} {s : Nat → Sub}
theorem At.kept (h : At w B e z v n c m s) (hv : ∀ b, own v b → w'.heap[b]? = w.heap[b]?) (hs : ∀ i, i < m → ∀ b, own (s i).v b → w'.heap[b]? = w.heap[b]?) : At w' B e z v n c m s :=
  ⟨own_kept h.row hv, fun i hi => own_kept (h.sub i hi) (hs i hi), h.sep, h.sepv⟩
theorem At.keep (h : At w B e z v n c m s) (hb : ∀ b, B ≤ b → b < w.heap.size → w'.heap[b]? = w.heap[b]?) : At w' B e z v n c m s :=
  h.kept (fun b hv => hb b (own_lt h.row hv).1 (own_lt h.row hv).2) (fun i hi b hs => hb b (own_lt (h.sub i hi) hs).1 (own_lt (h.sub i hi) hs).2)
theorem At.below (h : At w B e z v n c m s) (hb : Below w.heap.size w w') : At w' B e z v n c m s := h.keep (fun b _ hl => hb.block b hl)
theorem At.mono {B' : Nat} (h : At w B e z v n c m s) (hb : B' ≤ B) : At w B' e z v n c m s := ⟨own_mono h.row hb, fun i hi => own_mono (h.sub i hi) hb, h.sep, h.sepv⟩
theorem At.nil (w : World) (B : Nat) (e : TypeId) (z : Nat) (c : Nat → List Value) (s : Nat → Sub) : At w B e z (.slice none 0 0) 0 c 0 s :=
  ⟨World.ownsRow_nil w B e z, fun i h => by omega, fun i j h => by omega, fun i h => by omega⟩
theorem At.congr {c' : Nat → List Value} {s' : Nat → Sub} (h : At w B e z v n c m s) (hc : ∀ j, j < n → c' j = c j) (hs : ∀ i, i < m → s' i = s i) : At w B e z v n c' m s' :=
  ⟨by rw [flat_congr hc]; exact h.row, fun i hi => by rw [hs i hi]; exact h.sub i hi, fun i j hi hj hij b => by rw [hs i hi, hs j hj]; exact h.sep i j hi hj hij b, fun i hi b => by rw [hs i hi]; exact h.sepv i hi b⟩
/-- The cells of a record. -/
theorem At.cell {g cap : Nat} (h : At w B e z (.slice (some ⟨g, 0, none⟩) n cap) n c m s) (hc : ∀ j, j < n → (c j).length = z) {j i : Nat} (hj : j < n) (hi : i < z) : w.cell? ⟨g, j * z + i, none⟩ = (c j)[i]? := by
  rw [h.row.cellAt (j * z + i) (mul_lt hj hi)]
  exact flat_get hc hj hi
theorem At.free {g cap : Nat} (h : At w B e z (.slice (some ⟨g, 0, none⟩) n cap) n c m s) (i : Nat) : w.frozen? ⟨g, i, none⟩ = false := h.row.frozenAt i
/-- A cell of a record is set. -/
theorem At.setRow {g cap : Nat} (h : At w B e z (.slice (some ⟨g, 0, none⟩) n cap) n c m s) (hc : ∀ j, j < n → (c j).length = z) {j i : Nat} (hj : j < n) (hi : i < z) (u : Value) :
    At (w.setCell ⟨g, j * z + i, none⟩ u) B e z (.slice (some ⟨g, 0, none⟩) n cap) n (fun x => if x = j then (c j).set i u else c x) m s := by
  have hst := h.row.stored (j * z + i) u
  rw [flat_set hc hj hi] at hst
  refine ⟨hst.1, fun q hq => ?_, h.sep, h.sepv⟩
  refine World.ownsRow.kept (h.sub q hq) hst.2 ?_
  cases hb : (s q).v.ownBlock with
  | none => exact .inl rfl
  | some b => exact .inr (fun e2 => h.sepv q hq b hb e2.symm)
/-- A row inside a record has turned, and nothing else. -/
theorem At.setSub (h : At w B e z v n c m s) {q : Nat} (hq : q < m) {xs : List Value} (hx : w'.ownsRow B (s q).ty (s q).sz (s q).v (s q).n xs) (hg : w.grownBy w' (s q).v.ownBlock) :
    At w' B e z v n c m (fun i => if i = q then { s q with xs := xs } else s i) := by
  refine ⟨h.row.kept hg ?_, fun i hi => ?_, fun i j hi hj hij b => ?_, fun i hi b => ?_⟩
  · cases hb : v.ownBlock with
    | none => exact .inl rfl
    | some b => exact .inr (fun e2 => h.sepv q hq b e2.symm hb)
  · by_cases ei : i = q
    · subst ei
      simp only [if_true]
      exact hx
    · simp only [ei, if_false]
      refine World.ownsRow.kept (h.sub i hi) hg ?_
      cases hb : (s i).v.ownBlock with
      | none => exact .inl rfl
      | some b => exact .inr (fun e2 => h.sep i q hi hq ei b hb e2.symm)
  · have e1 : (if i = q then { s q with xs := xs } else s i).v = (s i).v := by split <;> simp_all
    have e2 : (if j = q then { s q with xs := xs } else s j).v = (s j).v := by split <;> simp_all
    rw [e1, e2]
    exact h.sep i j hi hj hij b
  · have e1 : (if i = q then { s q with xs := xs } else s i).v = (s i).v := by split <;> simp_all
    rw [e1]
    exact h.sepv i hi b
/-- A record behind all others, with p rows of its own. -/
theorem At.push {w2 : World} {v' : Value} {cs : List Value} {p : Nat} {t : Nat → Sub} (h : At w B e z v n c m s) (ht : ∀ i, i < p → (t i).At w B) (htt : ∀ i j, i < p → j < p → i ≠ j → ∀ b, own (t i).v b → ¬ own (t j).v b)
    (hts : ∀ i j, i < m → j < p → ∀ b, own (s i).v b → ¬ own (t j).v b) (htv : ∀ i, i < p → ∀ b, own (t i).v b → ¬ own v b)
    (hown : w2.ownsRow B e z v' (n + 1) (flat c n ++ cs)) (hg : w.grownBy w2 v.ownBlock) (hat : v'.ownBlock = v.ownBlock ∨ v'.ownBlock = some w.heap.size) :
    At w2 B e z v' (n + 1) (fun j => if j = n then cs else c j) (m + p) (fun i => if i < m then s i else t (i - m)) := by
  have hv' : ∀ b, own v' b → own v b ∨ b = w.heap.size := fun b hb => by
    rcases hat with e | e
    · exact .inl (by unfold own; rw [← e]; exact hb)
    · right; unfold own at hb; rw [e] at hb; exact (Option.some.inj hb).symm
  have keep : ∀ {u : Sub}, u.At w B → (∀ b, own u.v b → ¬ own v b) → u.At w2 B := fun {u} hu hne => by
    refine World.ownsRow.kept hu hg ?_
    cases hb : u.v.ownBlock with
    | none => exact .inl rfl
    | some b => exact .inr (fun e2 => hne b hb e2.symm)
  have old : ∀ {u : Sub}, u.At w B → (∀ b, own u.v b → ¬ own v b) → ∀ b, own u.v b → ¬ own v' b := fun {u} hu hne b hb hv => by
    rcases hv' b hv with h3 | h3
    · exact hne b hb h3
    · have := (own_lt hu hb).2
      omega
  refine ⟨?_, fun i hi => ?_, fun i j hi hj hij b => ?_, fun i hi b => ?_⟩
  · rw [flat_succ, if_pos rfl, flat_congr (g := c) (fun j hj => by rw [if_neg (by omega)])]
    exact hown
  · by_cases e1 : i < m
    · simp only [e1, if_true]
      exact keep (h.sub i e1) (h.sepv i e1)
    · simp only [e1, if_false]
      exact keep (ht _ (by omega)) (htv _ (by omega))
  · by_cases e1 : i < m
    · by_cases e2 : j < m
      · simp only [e1, e2, if_true]
        exact h.sep i j e1 e2 hij b
      · simp only [e1, e2, if_true, if_false]
        exact hts i (j - m) e1 (by omega) b
    · by_cases e2 : j < m
      · simp only [e1, e2, if_true, if_false]
        exact fun a1 a2 => hts j (i - m) e2 (by omega) b a2 a1
      · simp only [e1, e2, if_false]
        exact htt (i - m) (j - m) (by omega) (by omega) (by omega) b
  · by_cases e1 : i < m
    · simp only [e1, if_true]
      exact old (h.sub i e1) (h.sepv i e1) b
    · simp only [e1, if_false]
      exact old (ht _ (by omega)) (htv _ (by omega)) b
end
end Nst
end Go.Proofs.YtgghigfflpbjiaaGreatDoor
/- Trees of marks in memory: slices of elements and attrs; the law's measure of them. -/
namespace Go.Proofs.YtgghigfflpbjiaaGreatDoor
open Go.RowKit
set_option linter.unusedVariables false
namespace Tr
theorem hid {p : Prop} (h : p) : Hid p := h
def AttrsAt (w : World) (B : Nat) (v : Value) (ats : List AttrD) : Prop :=
  ∃ a cap, v = .slice a ats.length cap ∧ ats.length ≤ cap ∧ cap ≤ maxLen ∧ (ats = [] ∨ ∃ g o, a = some ⟨g, o, none⟩ ∧ B ≤ g ∧ g < w.heap.size ∧
    ∀ i (h : i < ats.length), w.cell? ⟨g, o + i * 2, none⟩ = some (.string ats[i].name) ∧ w.cell? ⟨g, o + i * 2 + 1, none⟩ = some (.string ats[i].value))
def ElemsAt (w : World) (B : Nat) (v : Value) (es : List ElemD) : Prop :=
  ∃ a cap, v = .slice a es.length cap ∧ es.length ≤ cap ∧ cap ≤ maxLen ∧ (es = [] ∨ ∃ g o, a = some ⟨g, o, none⟩ ∧ B ≤ g ∧ g < w.heap.size ∧
    ∀ i (h : i < es.length), w.cell? ⟨g, o + i * 3, none⟩ = some (.string es[i].tag) ∧ w.cell? ⟨g, o + i * 3 + 1, none⟩ = some (.int .i64 es[i].parent) ∧
      ∃ va, w.cell? ⟨g, o + i * 3 + 2, none⟩ = some va ∧ AttrsAt w B va es[i].attrs)
/-- The same where every block from B on is kept. -/
theorem AttrsAt.kept {w w' : World} {B : Nat} {v : Value} {ats : List AttrD} (h : AttrsAt w B v ats) (hs : w.heap.size ≤ w'.heap.size) (hb : ∀ g, B ≤ g → g < w.heap.size → w'.heap[g]? = w.heap[g]?) : AttrsAt w' B v ats := by
  obtain ⟨a, cap, rfl, hle, hmx, h⟩ := h
  refine ⟨a, cap, rfl, hle, hmx, ?_⟩
  rcases h with h | ⟨g, o, rfl, hB, hg, hc⟩
  · exact .inl h
  · refine .inr ⟨g, o, rfl, hB, Nat.lt_of_lt_of_le hg hs, fun i hi => ?_⟩
    have e : ∀ off, w'.cell? ⟨g, off, none⟩ = w.cell? ⟨g, off, none⟩ := fun off => by simp only [World.cell?, hb g hB hg]
    rw [e, e]
    exact hc i hi
theorem ElemsAt.kept {w w' : World} {B : Nat} {v : Value} {es : List ElemD} (h : ElemsAt w B v es) (hs : w.heap.size ≤ w'.heap.size) (hb : ∀ g, B ≤ g → g < w.heap.size → w'.heap[g]? = w.heap[g]?) : ElemsAt w' B v es := by
  obtain ⟨a, cap, rfl, hle, hmx, h⟩ := h
  refine ⟨a, cap, rfl, hle, hmx, ?_⟩
  rcases h with h | ⟨g, o, rfl, hB, hg, hc⟩
  · exact .inl h
  · refine .inr ⟨g, o, rfl, hB, Nat.lt_of_lt_of_le hg hs, fun i hi => ?_⟩
    have e : ∀ off, w'.cell? ⟨g, off, none⟩ = w.cell? ⟨g, off, none⟩ := fun off => by simp only [World.cell?, hb g hB hg]
    obtain ⟨h0, h1, va, h2, h3⟩ := hc i hi
    exact ⟨(e _).trans h0, (e _).trans h1, va, (e _).trans h2, h3.kept hs hb⟩
theorem AttrsAt.below {w w' : World} {B : Nat} {v : Value} {ats : List AttrD} (h : AttrsAt w B v ats) (hb : Below w.heap.size w w') : AttrsAt w' B v ats := h.kept hb.size (fun g _ hg => hb.block g hg)
theorem ElemsAt.below {w w' : World} {B : Nat} {v : Value} {es : List ElemD} (h : ElemsAt w B v es) (hb : Below w.heap.size w w') : ElemsAt w' B v es := h.kept hb.size (fun g _ hg => hb.block g hg)
theorem AttrsAt.setBelow {w : World} {B : Nat} {v : Value} {ats : List AttrD} (h : AttrsAt w B v ats) {b o : Nat} (ha : b < B) (x : Value) : AttrsAt (w.setCell ⟨b, o, none⟩ x) B v ats :=
  h.kept (by simp [World.setCell]) (fun g hg _ => Below.heap_setCell _ _ _ _ (by dsimp only; omega))
theorem ElemsAt.setBelow {w : World} {B : Nat} {v : Value} {es : List ElemD} (h : ElemsAt w B v es) {b o : Nat} (ha : b < B) (x : Value) : ElemsAt (w.setCell ⟨b, o, none⟩ x) B v es :=
  h.kept (by simp [World.setCell]) (fun g hg _ => Below.heap_setCell _ _ _ _ (by dsimp only; omega))
theorem setB {B : Nat} {W w : World} (h : Below B W w) {b o : Nat} (hb : B ≤ b) (x : Value) : Below B W (w.setCell ⟨b, o, none⟩ x) := h.setCell hb x
theorem AttrsAt.mono {w : World} {B B' : Nat} {v : Value} {ats : List AttrD} (h : AttrsAt w B v ats) (hB : B' ≤ B) : AttrsAt w B' v ats := by
  obtain ⟨a, cap, rfl, hle, hmx, h⟩ := h
  refine ⟨a, cap, rfl, hle, hmx, ?_⟩
  rcases h with h | ⟨g, o, rfl, hb, hg, hc⟩
  · exact .inl h
  · exact .inr ⟨g, o, rfl, Nat.le_trans hB hb, hg, hc⟩
theorem ElemsAt.mono {w : World} {B B' : Nat} {v : Value} {es : List ElemD} (h : ElemsAt w B v es) (hB : B' ≤ B) : ElemsAt w B' v es := by
  obtain ⟨a, cap, rfl, hle, hmx, h⟩ := h
  refine ⟨a, cap, rfl, hle, hmx, ?_⟩
  rcases h with h | ⟨g, o, rfl, hb, hg, hc⟩
  · exact .inl h
  · refine .inr ⟨g, o, rfl, Nat.le_trans hB hb, hg, fun i hi => ?_⟩
    obtain ⟨h0, h1, va, h2, h3⟩ := hc i hi
    exact ⟨h0, h1, va, h2, h3.mono hB⟩
theorem AttrsAt.slice {w : World} {B : Nat} {v : Value} {ats : List AttrD} (h : AttrsAt w B v ats) : ∃ a cap, v = .slice a ats.length cap := by
  obtain ⟨a, cap, rfl, _⟩ := h; exact ⟨a, cap, rfl⟩
theorem ElemsAt.slice {w : World} {B : Nat} {v : Value} {es : List ElemD} (h : ElemsAt w B v es) : ∃ a cap, v = .slice a es.length cap := by
  obtain ⟨a, cap, rfl, _⟩ := h; exact ⟨a, cap, rfl⟩
theorem AttrsAt.at {w : World} {B : Nat} {a : Option Addr} {n cap : Nat} {ats : List AttrD} (h : AttrsAt w B (.slice a n cap) ats) {i : Nat} (hi : i < ats.length) :
    ∃ g o, a = some ⟨g, o, none⟩ ∧ g < w.heap.size ∧ w.cell? ⟨g, o + i * 2, none⟩ = some (.string ats[i].name) ∧ w.cell? ⟨g, o + i * 2 + 1, none⟩ = some (.string ats[i].value) := by
  obtain ⟨a', cap', e, _, _, h⟩ := h
  cases e
  rcases h with h | ⟨g, o, rfl, _, hg, hc⟩
  · subst h; simp at hi
  · exact ⟨g, o, rfl, hg, hc i hi⟩
theorem ElemsAt.at {w : World} {B : Nat} {a : Option Addr} {n cap : Nat} {es : List ElemD} (h : ElemsAt w B (.slice a n cap) es) {i : Nat} (hi : i < es.length) :
    ∃ g o va, a = some ⟨g, o, none⟩ ∧ g < w.heap.size ∧ w.cell? ⟨g, o + i * 3, none⟩ = some (.string es[i].tag) ∧ w.cell? ⟨g, o + i * 3 + 1, none⟩ = some (.int .i64 es[i].parent) ∧ w.cell? ⟨g, o + i * 3 + 2, none⟩ = some va ∧ AttrsAt w B va es[i].attrs := by
  obtain ⟨a', cap', e, _, _, h⟩ := h
  cases e
  rcases h with h | ⟨g, o, rfl, _, hg, hc⟩
  · subst h; simp at hi
  · obtain ⟨h0, h1, va, h2, h3⟩ := hc i hi
    exact ⟨g, o, va, rfl, hg, h0, h1, h2, h3⟩
theorem AttrsAt.cap {w : World} {B : Nat} {a : Option Addr} {n cap : Nat} {ats : List AttrD} (h : AttrsAt w B (.slice a n cap) ats) : ats.length ≤ cap ∧ cap ≤ maxLen := by
  obtain ⟨a', cap', e, h1, h2, _⟩ := h; cases e; exact ⟨h1, h2⟩
theorem ElemsAt.cap {w : World} {B : Nat} {a : Option Addr} {n cap : Nat} {es : List ElemD} (h : ElemsAt w B (.slice a n cap) es) : es.length ≤ cap ∧ cap ≤ maxLen := by
  obtain ⟨a', cap', e, h1, h2, _⟩ := h; cases e; exact ⟨h1, h2⟩
/-- No text of it is longer than a text can be. -/
def OkA (ats : List AttrD) : Prop := ∀ a ∈ ats, a.name.size ≤ maxLen ∧ a.value.size ≤ maxLen
def OkE (es : List ElemD) : Prop := ∀ e ∈ es, e.tag.size ≤ maxLen ∧ OkA e.attrs ∧ e.attrs.length ≤ maxLen
/-- All of it is within a bound. -/
def SmallA (n : Int) (ats : List AttrD) : Prop := (ats.length : Int) ≤ n ∧ ∀ a ∈ ats, (a.name.size : Int) ≤ n ∧ (a.value.size : Int) ≤ n
def SmallE (n : Int) (es : List ElemD) : Prop := (es.length : Int) ≤ n ∧ ∀ e ∈ es, (e.tag.size : Int) ≤ n ∧ SmallA n e.attrs
end Tr
end Go.Proofs.YtgghigfflpbjiaaGreatDoor
