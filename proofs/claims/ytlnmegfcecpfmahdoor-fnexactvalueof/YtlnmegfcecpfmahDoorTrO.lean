/- An argument that is a list of elements, as it lies in memory. -/
import Derived.Test.YtlnmegfcecpfmahDoorTrA
import Derived.ProofKit
import Derived.OpenShut
import Derived.Deep.Slices
import Derived.Deep.SlicePairs
namespace Go.Proofs.YtlnmegfcecpfmahDoor
open Go.RowKit Go.Deep
set_option linter.unusedVariables false
namespace Tr
theorem cellsAttr : Tryd.prog.cellsOf 120 = 2 := by kernel_rfl
theorem cellsElem : Tryd.prog.cellsOf 51 = 3 := by kernel_rfl
theorem cellsStr : Tryd.prog.cellsOf 9 = 1 := by kernel_rfl
theorem cellsI64 : Tryd.prog.cellsOf 2 = 1 := by kernel_rfl
theorem cellsAttrs : Tryd.prog.cellsOf 49 = 1 := by kernel_rfl
section
variable {H : Type} {enc : TypeId × Value → H} {w : World} {base : Nat} {spare : Nat → Bool} {held : Bool} {fuel : Nat}
theorem add_add (a : Addr) (x y : Nat) : (a.add x).add y = a.add (x + y) := by
  unfold Addr.add
  by_cases hx : x = 0
  · simp [hx]
  · by_cases hy : y = 0
    · simp [hy]
    · simp [hx, hy, Nat.add_assoc]
theorem lt_of_cell {a : Addr} {v : Value} (h : w.cell? a = some v) : a.block < w.heap.size := by
  rcases Nat.lt_or_ge a.block w.heap.size with h1 | h1
  · exact h1
  · simp [World.cell?, Array.getElem?_eq_none h1] at h
set_option maxRecDepth 100000 in
theorem open_attrs {v : Value} {x : DataW H × List MemPlace} (h : DataW.trod enc Tryd.prog w base spare held fuel 49 [v] = some x) :
    ∃ ats, AttrsAt w 0 v ats ∧ OkA ats ∧ ats.length ≤ maxLen := by
  rcases open_slice_pairs Tryd.underlying49 Tryd.underlying120 cellsAttr rfl rfl cellsStr cellsStr h with ⟨hcs, _⟩ | ⟨a, len, cap, m, n, V0, V1, D0, D1, P0, P1, hcs, hb, hl, hcm, hm, _, hx⟩
  · obtain rfl : v = .slice none 0 0 := by simpa using hcs
    exact ⟨[], ⟨none, 0, rfl, Nat.le_refl _, Nat.zero_le _, .inl rfl⟩, fun _ h => by (cases h), Nat.zero_le _⟩
  · obtain rfl : v = .slice (some a) len cap := by simpa using hcs
    have hlm : len ≤ m := by rw [hm]; split <;> omega
    have each : ∀ i, i < len → ∃ q : AttrD, w.cell? (a.add (i * 2)) = some (.string q.name) ∧ w.cell? (a.add (i * 2 + 1)) = some (.string q.value) ∧ q.name.size ≤ maxLen ∧ q.value.size ≤ maxLen := fun i hi => by
      obtain ⟨c0, c1, d0, d1⟩ := hx i (by omega)
      obtain ⟨s0, e0, _, b0⟩ := DataW.trod_string Tryd.underlying9 d0
      obtain ⟨s1, e1, _, b1⟩ := DataW.trod_string Tryd.underlying9 d1
      simp only [List.cons.injEq, and_true] at e0 e1
      exact ⟨⟨s0, s1⟩, by rw [c0, e0], by rw [c1, e1], b0, b1⟩
    haveI : Inhabited AttrD := ⟨⟨ByteArray.empty, ByteArray.empty⟩⟩
    obtain ⟨F, hF⟩ := choose_lt each
    refine ⟨(List.range len).map F, ?_, ?_, by simp; omega⟩
    · refine ⟨some a, cap, by simp, by simpa using hl, hcm, ?_⟩
      rcases Nat.eq_zero_or_pos len with h0 | h0
      · exact .inl (by simp [h0])
      · right
        obtain ⟨b, off, spot⟩ := a
        have hspot : spot = none := by simpa [Addr.add] using World.cell?_spot (hF 0 h0).1
        subst hspot
        refine ⟨b, off, rfl, Nat.zero_le _, lt_of_cell (hF 0 h0).1, fun i hi => ?_⟩
        have hi' : i < len := by simpa using hi
        have h2 := hF i hi'
        simp only [List.getElem_map, List.getElem_range]
        rw [Nat.add_assoc, ← Go.WideShapes.add_plain, ← Go.WideShapes.add_plain]
        exact ⟨h2.1, h2.2.1⟩
    · intro q hq
      obtain ⟨i, hi, rfl⟩ := List.mem_map.1 hq
      have h2 := hF i (by simpa using hi)
      exact ⟨h2.2.2.1, h2.2.2.2⟩
set_option maxRecDepth 100000 in
theorem open_elem {cs : List Value} {x : DataW H × List MemPlace} (h : DataW.trod enc Tryd.prog w base spare held fuel 51 cs = some x) :
    ∃ (e : ElemD) (va : Value), cs = [.string e.tag, .int .i64 e.parent, va] ∧ e.tag.size ≤ maxLen ∧ AttrsAt w 0 va e.attrs ∧ OkA e.attrs ∧ e.attrs.length ≤ maxLen := by
  obtain ⟨xs, n, rfl, _, hlen, hxl, hf⟩ := DataW.trod_struct Tryd.underlying51 h
  have h0 := hf 0 _ rfl
  have h1 := hf 1 _ rfl
  have h2 := hf 2 _ rfl
  rw [cellsElem] at hlen
  match cs, hlen with
  | [a, b, c], _ =>
    match xs, hxl with
    | [x0, x1, x2], _ =>
      simp [cellsStr, cellsI64, cellsAttrs] at h0 h1 h2
      obtain ⟨s0, e0, _, b0⟩ := DataW.trod_string Tryd.underlying9 h0
      obtain ⟨n1, e1, _, _⟩ := DataW.trod_int Tryd.underlying2 h1
      obtain ⟨ats, ha, hk, hl⟩ := open_attrs h2
      simp at e0 e1
      subst e0 e1
      exact ⟨⟨s0, n1, ats⟩, c, rfl, b0, ha, hk, hl⟩
set_option maxRecDepth 100000 in
theorem open_elems {v : Value} {x : DataW H × List MemPlace} (h : DataW.trod enc Tryd.prog w base spare held fuel 22 [v] = some x) :
    ∃ es, ElemsAt w 0 v es ∧ OkE es ∧ es.length ≤ maxLen := by
  rcases open_slice Tryd.underlying22 h with ⟨hcs, _⟩ | ⟨a, len, cap, m, n, D, Pl, hcs, hb, hl, hcm, hm, _, hx⟩
  · obtain rfl : v = .slice none 0 0 := by simpa using hcs
    exact ⟨[], ⟨none, 0, rfl, Nat.le_refl _, Nat.zero_le _, .inl rfl⟩, fun _ h => by (cases h), Nat.zero_le _⟩
  · obtain rfl : v = .slice (some a) len cap := by simpa using hcs
    have hlm : len ≤ m := by rw [hm]; split <;> omega
    rw [cellsElem] at hx
    have each : ∀ i, i < len → ∃ q : ElemD, w.cell? (a.add (i * 3)) = some (.string q.tag) ∧ w.cell? (a.add (i * 3 + 1)) = some (.int .i64 q.parent) ∧ (∃ va, w.cell? (a.add (i * 3 + 2)) = some va ∧ AttrsAt w 0 va q.attrs) ∧ q.tag.size ≤ maxLen ∧ OkA q.attrs ∧ q.attrs.length ≤ maxLen := fun i hi => by
      obtain ⟨cs', c0, d0⟩ := hx i (by omega)
      obtain ⟨e, va, rfl, g1, g2, g3, g4⟩ := open_elem d0
      obtain ⟨_, _, hc⟩ := World.cells?_some c0
      have k0 := hc 0 (by omega)
      have k1 := hc 1 (by omega)
      have k2 := hc 2 (by omega)
      rw [add_add] at k0 k1 k2
      exact ⟨e, k0, k1, ⟨va, k2, g2⟩, g1, g3, g4⟩
    haveI : Inhabited ElemD := ⟨⟨ByteArray.empty, 0, []⟩⟩
    obtain ⟨F, hF⟩ := choose_lt each
    refine ⟨(List.range len).map F, ?_, ?_, by simp; omega⟩
    · refine ⟨some a, cap, by simp, by simpa using hl, hcm, ?_⟩
      rcases Nat.eq_zero_or_pos len with h0 | h0
      · exact .inl (by simp [h0])
      · right
        obtain ⟨b, off, spot⟩ := a
        have hspot : spot = none := by simpa [Addr.add] using World.cell?_spot (hF 0 h0).1
        subst hspot
        refine ⟨b, off, rfl, Nat.zero_le _, lt_of_cell (hF 0 h0).1, fun i hi => ?_⟩
        have hi' : i < len := by simpa using hi
        have h2 := hF i hi'
        simp only [List.getElem_map, List.getElem_range]
        rw [Nat.add_assoc, Nat.add_assoc, ← Go.WideShapes.add_plain, ← Go.WideShapes.add_plain, ← Go.WideShapes.add_plain]
        exact ⟨h2.1, h2.2.1, h2.2.2.1⟩
    · intro q hq
      obtain ⟨i, hi, rfl⟩ := List.mem_map.1 hq
      have h2 := hF i (by simpa using hi)
      exact h2.2.2.2
end
end Tr
end Go.Proofs.YtlnmegfcecpfmahDoor
