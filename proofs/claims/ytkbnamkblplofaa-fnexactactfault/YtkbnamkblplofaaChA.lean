/- A Chart in memory: two numbers and three lists of numbers; the law's measure of it, its copy, its comparison. -/
import Derived.Test.YtkbnamkblplofaaNu
import Derived.Deep.Heap
import Derived.Deep.Cut
namespace Go.Proofs.Ytkbnamkblplofaa
open Go.RowKit Go.Deep
set_option linter.unusedVariables false
namespace Ch
theorem hid {p : Prop} (h : p) : Hid p := h
structure RunD where
  status : Int
  now : Int
  vars : List Int
  marks : List Int
  dues : List Int
structure At (w : World) (B : Nat) (v1 v2 v3 : Value) (r : RunD) : Prop where
  vars : Nu.At w B v1 r.vars
  marks : Nu.At w B v2 r.marks
  dues : Nu.At w B v3 r.dues
theorem At.kept {w w' : World} {B : Nat} {v1 v2 v3 : Value} {r : RunD} (h : At w B v1 v2 v3 r) (hs : w.heap.size ≤ w'.heap.size) (hb : ∀ b, B ≤ b → b < w.heap.size → w'.heap[b]? = w.heap[b]?) : At w' B v1 v2 v3 r := ⟨h.vars.kept hs hb, h.marks.kept hs hb, h.dues.kept hs hb⟩
theorem At.below {w w' : World} {B : Nat} {v1 v2 v3 : Value} {r : RunD} (h : At w B v1 v2 v3 r) (hb : Below w.heap.size w w') : At w' B v1 v2 v3 r := ⟨h.vars.below hb, h.marks.below hb, h.dues.below hb⟩
theorem At.mono {w : World} {B B' : Nat} {v1 v2 v3 : Value} {r : RunD} (h : At w B v1 v2 v3 r) (hB : B' ≤ B) : At w B' v1 v2 v3 r := ⟨h.vars.mono hB, h.marks.mono hB, h.dues.mono hB⟩
structure Ok (r : RunD) : Prop where
  vars : r.vars.length ≤ maxLen
  marks : r.marks.length ≤ maxLen
  dues : r.dues.length ≤ maxLen
structure Small (n : Int) (r : RunD) : Prop where
  vars : (r.vars.length : Int) ≤ n
  marks : (r.marks.length : Int) ≤ n
  dues : (r.dues.length : Int) ≤ n
theorem Small.mono {m n : Int} {r : RunD} (h : Small m r) (hm : m ≤ n) : Small n r := ⟨Int.le_trans h.vars hm, Int.le_trans h.marks hm, Int.le_trans h.dues hm⟩
theorem old_cell {B : Nat} {W w : World} (h : Below B W w) {b o : Nat} (hb : b < B) {v : Value} (hc : W.cell? ⟨b, o, none⟩ = some v) : w.cell? ⟨b, o, none⟩ = some v := (h.cell (p := ⟨b, o, none⟩) hb).trans hc
theorem blk_set {w : World} {S i : Nat} {cs : Array Value} {t : TypeId} (h : w.heap[S]? = some (.cells cs t)) (u : Value) : (w.setCell ⟨S, i, none⟩ u).heap[S]? = some (.cells (cs.setIfInBounds i u) t) := by
  simp [World.setCell, Array.getElem?_modify, h]
theorem blk_cell {w : World} {S : Nat} {cs : Array Value} {t : TypeId} (h : w.heap[S]? = some (.cells cs t)) (i : Nat) : w.cell? ⟨S, i, none⟩ = cs[i]? := by simp [World.cell?, h]
theorem blk_free {w : World} {S : Nat} {cs : Array Value} {t : TypeId} (h : w.heap[S]? = some (.cells cs t)) (i : Nat) : w.frozen? ⟨S, i, none⟩ = false := by simp [World.frozen?, h]
theorem new_blk (w : World) (o : Obj) : (w.alloc o).heap[w.heap.size]? = some o := by
  show (w.heap.push o)[w.heap.size]? = some o
  simp
theorem new_at {w : World} {n : Nat} (h : n = w.heap.size) (o : Obj) : (w.alloc o).heap[n]? = some o := by rw [h]; exact new_blk w o
theorem blk_lt {w : World} {S : Nat} {o : Obj} (h : w.heap[S]? = some o) : S < w.heap.size := by
  rcases Nat.lt_or_ge S w.heap.size with h1 | h1
  · exact h1
  · rw [Array.getElem?_eq_none h1] at h; simp at h
theorem set5 {w : World} {b : Nat} {t : TypeId} {z0 z1 z2 z3 z4 : Value} (h : w.heap[b]? = some (.cells #[z0, z1, z2, z3, z4] t)) (a0 a1 a2 a3 a4 : Value) : (((((w.setCell ⟨b, 0, none⟩ a0).setCell ⟨b, 1, none⟩ a1).setCell ⟨b, 2, none⟩ a2).setCell ⟨b, 3, none⟩ a3).setCell ⟨b, 4, none⟩ a4).heap[b]? = some (.cells #[a0, a1, a2, a3, a4] t) := by
  have := blk_set (i := 4) (blk_set (i := 3) (blk_set (i := 2) (blk_set (i := 1) (blk_set (i := 0) h a0) a1) a2) a3) a4
  simpa only [List.setIfInBounds_toArray, List.set_cons_zero, List.set_cons_succ] using this
theorem size_set {w : World} {b i : Nat} {u : Value} : (w.setCell ⟨b, i, none⟩ u).heap.size = w.heap.size := by simp [World.setCell]
theorem below5 {B : Nat} {x w : World} (h : Below B x w) {b : Nat} (hb : B ≤ b) (a0 a1 a2 a3 a4 : Value) : Below B x (((((w.setCell ⟨b, 0, none⟩ a0).setCell ⟨b, 1, none⟩ a1).setCell ⟨b, 2, none⟩ a2).setCell ⟨b, 3, none⟩ a3).setCell ⟨b, 4, none⟩ a4) :=
  ((((h.setCell (by exact hb) _).setCell (by exact hb) _).setCell (by exact hb) _).setCell (by exact hb) _).setCell (by exact hb) _
theorem at5 {B : Nat} {w : World} {v : Value} {xs : List Int} (h : Nu.At w B v xs) {b : Nat} (hb : b < B) (a0 a1 a2 a3 a4 : Value) : Nu.At (((((w.setCell ⟨b, 0, none⟩ a0).setCell ⟨b, 1, none⟩ a1).setCell ⟨b, 2, none⟩ a2).setCell ⟨b, 3, none⟩ a3).setCell ⟨b, 4, none⟩ a4) B v xs :=
  ((((h.setBelow hb _).setBelow hb _).setBelow hb _).setBelow hb _).setBelow hb _
set_option maxRecDepth 100000 in
set_option maxHeartbeats 1000000 in
theorem szL (xs : List Int) (a : Option Addr) (cap : Nat) (n : Int) (w : World) (h0 : 0 ≤ n) (hn : n ≤ 1048576) (hk : xs.length ≤ maxLen) :
    Calls Try.prog 9 #[.slice a xs.length cap, .int .i64 n] w fun e w' => (∃ r : Int, e = .returned (.int .i64 r) ∧ -1 ≤ r ∧ r ≤ n ∧ (0 ≤ r → (xs.length : Int) ≤ n)) ∧ w' = w := by
  unfold maxLen at hk
  by_cases h : n - (xs.length : Int) < 0
  · go_enter Try.func9, Try.ntmps9
    go_wp2
    go_ret
    exact ⟨⟨-1, rfl, by omega, by omega, by omega⟩, rfl⟩
  · go_enter Try.func9, Try.ntmps9
    go_wp2
    go_ret
    exact ⟨⟨n - xs.length, rfl, by omega, by omega, by omega⟩, rfl⟩
end Ch
end Go.Proofs.Ytkbnamkblplofaa
