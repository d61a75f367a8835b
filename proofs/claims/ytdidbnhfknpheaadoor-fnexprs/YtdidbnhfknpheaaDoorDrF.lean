/- What the specification draws of expressions: DrawParseExpr: some text. -/
import Derived.Test.YtdidbnhfknpheaaDoorDrD
import Derived.Test.YtdidbnhfknpheaaDoorTxC
import Derived.ArgAppend
import Derived.Laws.IdiomStrings
namespace Go.Proofs.YtdidbnhfknpheaaDoor
open Go.RowKit
set_option linter.unusedVariables false
namespace DrE
open Ex
open Nd (NodeD)
theorem infoU8 : (Tryd.prog.info? 5).map (fun i => (i.zero, i.size, i.bytes)) = some (some (.int .u8 0), 1, 1) := by kernel_rfl
/-- Bytes that came of a string, in a block. -/
def Bt (w : World) (g cap : Nat) (l : List UInt8) : Prop := ∃ cur : Array Value, w.heap[g]? = some (.cells cur 5 (cur.size, cur.size + 1)) ∧ cur.size = cap ∧ l.length ≤ cap ∧ ∀ j (h : j < l.length), cur[j]? = some (.int .u8 (l[j].toNat : Int))
theorem bt_new (w : World) (l : List UInt8) (c : Nat) (hc : l.length ≤ c) : Bt (w.alloc (.cells (bytesRow (str l) c) 5 ((bytesRow (str l) c).size, (bytesRow (str l) c).size + 1))) w.heap.size c l := by
  refine ⟨bytesRow (str l) c, World.alloc_heap_new w _, ?_, hc, fun j hj => ?_⟩
  · unfold bytesRow
    rw [Array.size_append, Array.size_map, Array.size_replicate]
    have e : (str l).data.size = l.length := str_size l
    have e2 : (str l).size = l.length := str_size l
    omega
  · have e : (str l).data.size = l.length := str_size l
    rw [bytesRow_at (str l) c j (by omega)]
    rfl
theorem Bt.lt {w : World} {g cap : Nat} {l : List UInt8} (h : Bt w g cap l) : g < w.heap.size := by obtain ⟨cur, h, _⟩ := h; exact (Array.getElem?_eq_some_iff.1 h).1
theorem Bt.keep {w w' : World} {g cap : Nat} {l : List UInt8} (h : Bt w g cap l) (e : w'.heap[g]? = w.heap[g]?) : Bt w' g cap l := by
  obtain ⟨cur, h1, h2⟩ := h
  exact ⟨cur, e.trans h1, h2⟩
theorem Bt.cell {w : World} {g cap : Nat} {l : List UInt8} (h : Bt w g cap l) {i : Nat} (hi : i < cap) : (∃ u, w.cell? ⟨g, i, none⟩ = some u) ∧ w.frozen? ⟨g, i, none⟩ = false := by
  obtain ⟨cur, h1, h2, _⟩ := h
  have : i < cur.size := by omega
  exact ⟨⟨cur[i], by simp [World.cell?, h1, this]⟩, by simp [World.frozen?, h1]; omega⟩
theorem Bt.set {w : World} {g cap : Nat} {l : List UInt8} (h : Bt w g cap l) {i : Nat} (hi : i < l.length) (b : UInt8) : Bt (w.setCell ⟨g, i, none⟩ (.int .u8 (b.toNat : Int))) g cap (l.set i b) := by
  obtain ⟨cur, h1, h2, h3, h4⟩ := h
  refine ⟨cur.setIfInBounds i (.int .u8 (b.toNat : Int)), by simp [World.setCell, Array.getElem?_modify, h1], by simpa using h2, by simpa using h3, fun j hj => ?_⟩
  have hj2 : j < l.length := by simpa using hj
  by_cases e : i = j
  · subst e
    simp [show i < cur.size by omega]
  · rw [Array.getElem?_setIfInBounds_ne e, h4 j hj2, List.getElem_set_ne e]
theorem Bt.take {w : World} {g cap : Nat} {l : List UInt8} (h : Bt w g cap l) (k : Nat) : Bt w g cap (l.take k) := by
  obtain ⟨cur, h1, h2, h3, h4⟩ := h
  refine ⟨cur, h1, h2, by rw [List.length_take]; omega, fun j hj => ?_⟩
  rw [List.length_take] at hj
  rw [h4 j (by omega), List.getElem_take]
theorem Bt.conv {w : World} {g cap : Nat} {l : List UInt8} (h : Bt w g cap l) : Sem.run Tryd.prog (convert 22 9 (.slice (some ⟨g, 0, none⟩) l.length cap)) w = .ok (.string (str l)) w := by
  obtain ⟨cur, h1, h2, h3, h4⟩ := h
  refine run_convert_bytes_back (P := Tryd.prog) w 22 9 5 ⟨g, 0, none⟩ cap l Tryd.underlying22 Tryd.underlying5 Tryd.underlying9 ?_
  intro i hi
  have e : (⟨g, 0, none⟩ : Addr).add i = ⟨g, i, none⟩ := by rw [Addr.add_lit]; simp
  rw [e]
  simp [World.cell?, h1, h4 i hi]
theorem own_conv {w : World} {base n : Nat} {v : Value} {l : List UInt8} (h : w.ownsRow base 5 1 v n (l.map fun b => .int .u8 (b.toNat : Int))) (hn : 0 < n) : n = l.length ∧ ∃ g cap, v = .slice (some ⟨g, 0, none⟩) n cap ∧ Sem.run Tryd.prog (convert 22 9 (.slice (some ⟨g, 0, none⟩) n cap)) w = .ok (.string (str l)) w := by
  obtain ⟨hl, ⟨rfl, h0⟩ | ⟨g, cap, cur, rfl, hbg, hg, hle, hm, hs, ht⟩⟩ := h
  · omega
  · have hnl : n = l.length := by rw [List.length_map] at hl; omega
    subst hnl
    refine ⟨rfl, g, cap, rfl, ?_⟩
    refine run_convert_bytes_back (P := Tryd.prog) w 22 9 5 ⟨g, 0, none⟩ cap l Tryd.underlying22 Tryd.underlying5 Tryd.underlying9 ?_
    intro i hi
    have e : (⟨g, 0, none⟩ : Addr).add i = ⟨g, i, none⟩ := by rw [Addr.add_lit]; simp
    rw [e]
    have : cur[i]? = some (.int .u8 (l[i].toNat : Int)) := by
      have h2 := congrArg (·[i]?) ht
      simp only [Nat.mul_one, List.getElem?_take, List.getElem?_map, List.getElem?_eq_getElem hi, Option.map_some, hi, if_true] at h2
      simpa using h2
    simp [World.cell?, hg, this]
end DrE
end Go.Proofs.YtdidbnhfknpheaaDoor
