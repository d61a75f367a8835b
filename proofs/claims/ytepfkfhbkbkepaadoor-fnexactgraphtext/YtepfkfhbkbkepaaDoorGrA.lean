/- Graphs in memory: the law's measure, copies, comparison and marks of them; an argument that is a graph. -/
import Derived.Test.YtepfkfhbkbkepaaDoorGnB
import Derived.Test.YtepfkfhbkbkepaaDoorGnC
import Derived.Test.YtepfkfhbkbkepaaDoorGnM
import Derived.Test.YtepfkfhbkbkepaaDoorFlB
import Derived.Test.YtepfkfhbkbkepaaDoorFlC
import Derived.Test.YtepfkfhbkbkepaaDoorFlM
import Derived.Test.YtepfkfhbkbkepaaDoorGfM
namespace Go.Proofs.YtepfkfhbkbkepaaDoor
open Go.RowKit Go.Deep
set_option linter.unusedVariables false
namespace Gr
open Ex (hid)
open Nd (NodeD)
open Rc
open Gn (GNodeD)
open Fl (FlowD)
structure At (w : World) (B : Nat) (vn vf : Value) (g : GraphD) : Prop where
  nodes : Gn.At w B vn g.nodes
  flows : Fl.At w B vf g.flows
theorem At.kept {w w' : World} {B : Nat} {vn vf : Value} {g : GraphD} (h : At w B vn vf g) (hs : w.heap.size ≤ w'.heap.size) (hb : ∀ b, B ≤ b → b < w.heap.size → w'.heap[b]? = w.heap[b]?) : At w' B vn vf g := ⟨h.nodes.kept hs hb, h.flows.kept hs hb⟩
theorem At.below {w w' : World} {B : Nat} {vn vf : Value} {g : GraphD} (h : At w B vn vf g) (hb : Below w.heap.size w w') : At w' B vn vf g := ⟨h.nodes.below hb, h.flows.below hb⟩
theorem At.mono {w : World} {B B' : Nat} {vn vf : Value} {g : GraphD} (h : At w B vn vf g) (hB : B' ≤ B) : At w B' vn vf g := ⟨h.nodes.mono hB, h.flows.mono hB⟩
structure Ok (g : GraphD) : Prop where
  nodes : Gn.Ok g.nodes
  flows : Fl.Ok g.flows
  nlen : g.nodes.length ≤ maxLen
  flen : g.flows.length ≤ maxLen
structure Small (n : Int) (g : GraphD) : Prop where
  nodes : Gn.Small n g.nodes
  flows : Fl.Small n g.flows
theorem Small.mono {m n : Int} {g : GraphD} (h : Small m g) (hm : m ≤ n) : Small n g := ⟨h.nodes.mono hm, h.flows.mono hm⟩
set_option maxRecDepth 100000 in
set_option maxHeartbeats 1000000 in
theorem sz (B : Nat) (g : GraphD) (vn vf : Value) (n : Int) (w : World) (h0 : 0 ≤ n) (hn : n ≤ 1048576) (hk : Ok g) (ha : At w B vn vf g) :
    Calls Tryd.prog 4 #[.agg #[vn, vf], .int .i64 n] w fun e w' => (∃ r : Int, e = .returned (.int .i64 r) ∧ -1 ≤ r ∧ r ≤ n ∧ (0 ≤ r → Small n g)) ∧ Below w.heap.size w w' := by
  obtain ⟨a, cap, rfl⟩ := ha.nodes.slice
  obtain ⟨a2, cap2, rfl⟩ := ha.flows.slice
  have hB : Below w.heap.size w (w.alloc (.cells #[.slice a g.nodes.length cap, .slice a2 g.flows.length cap2] 25)) := (Below.refl _ w).alloc (Nat.le_refl _) _
  have HA := hid (ha.below hB)
  have HK := hid hk
  have HB := hid hB
  have c1 : (w.alloc (.cells #[.slice a g.nodes.length cap, .slice a2 g.flows.length cap2] 25)).cell? ⟨w.heap.size, 1, none⟩ = some (.slice a2 g.flows.length cap2) := by go_simp
  have hz : w.heap.size < (w.alloc (.cells #[.slice a g.nodes.length cap, .slice a2 g.flows.length cap2] 25)).heap.size := by simp
  clear ha hk hB
  go_enter Tryd.func4, Tryd.ntmps4
  go_wp2_with fail
  generalize w.alloc (.cells #[.slice a g.nodes.length cap, .slice a2 g.flows.length cap2] 25) = w0 at *
  refine (Gn.szS B g.nodes _ n _ h0 hn HK.out.nlen HK.out.nodes HA.out.nodes).mono ?_
  rintro e w1 ⟨⟨r, rfl, hr1, hr2, hr3⟩, hb1⟩
  have HB1 := hid (HB.out.trans (hb1.mono HB.out.size))
  have HA1 := hid (HA.out.below hb1)
  have c1' := old_cell hb1 hz c1
  have HR3 := hid hr3
  clear hb1 hr3 c1
  by_cases hr : r < 0
  · go_wp2
    go_ret
    exact ⟨⟨-1, rfl, by omega, by omega, by omega⟩, HB1.out⟩
  · go_wp2_with fail
    refine (Fl.szS B g.flows _ r _ (by omega) (by omega) HK.out.flen HK.out.flows HA1.out.flows).mono ?_
    rintro e w2 ⟨⟨r2, rfl, hr4, hr5, hr6⟩, hb2⟩
    have HB2 := hid (HB1.out.trans (hb2.mono HB1.out.size))
    have HR6 := hid hr6
    clear hb2 hr6
    by_cases hr' : r2 < 0
    · go_wp2
      go_ret
      exact ⟨⟨-1, rfl, by omega, by omega, by omega⟩, HB2.out⟩
    · go_wp2
      go_ret
      exact ⟨⟨r2, rfl, by omega, by omega, fun h => ⟨HR3.out (by omega), (HR6.out h).mono (by omega)⟩⟩, HB2.out⟩
/-- A graph that may be written into, between two blocks: its nodes ahead of its flows. -/
structure Own (w : World) (B M C : Nat) (vn vf : Value) (g : GraphD) : Prop where
  nodes : Gn.Own w B M vn g.nodes.length (Gn.lenX g.nodes)
  flows : Fl.Own w M C vf g.flows.length (Fl.lenX g.flows)
theorem Own.below {w w' : World} {B M C : Nat} {vn vf : Value} {g : GraphD} (h : Own w B M C vn vf g) (hb : Below w.heap.size w w') : Own w' B M C vn vf g := ⟨h.nodes.below hb, h.flows.below hb⟩
set_option maxRecDepth 100000 in
set_option maxHeartbeats 4000000 in
theorem to2 (B : Nat) (g : GraphD) (vn vf : Value) (w : World) (hl : Small 1048576 g) (ha : At w B vn vf g) :
    Calls Tryd.prog 6 #[.agg #[vn, vf]] w fun e w' => ∃ un uf M, e = .returned (.agg #[un, uf]) ∧ At w' w.heap.size un uf g ∧ Own w' w.heap.size M w'.heap.size un uf g ∧ (w.heap.size ≤ M ∧ M ≤ w'.heap.size) ∧ Below w.heap.size w w' := by
  obtain ⟨a, cap, rfl⟩ := ha.nodes.slice
  obtain ⟨a2, cap2, rfl⟩ := ha.flows.slice
  have HA := hid ha
  have HL := hid hl
  clear ha hl
  go_enter Tryd.func6, Tryd.ntmps6
  go_wp2_with fail
  refine (Gn.toS2 B g.nodes _ _ HL.out.nodes (HA.out.nodes.below ?hB)).mono ?_
  case hB => exact (((Below.refl _ w).alloc (Nat.le_refl _) _).alloc (by simp) _).alloc (by simp; omega) _
  rintro e w1 ⟨uc, rfl, hu, hown, hb1⟩
  obtain ⟨a3, cap3, rfl⟩ := hu.slice
  simp only [World.size_alloc] at hb1 hu hown
  have hz : w.heap.size + 1 + 1 + 1 ≤ w1.heap.size := by have := hb1.size; simpa using this
  have l0 : w.heap.size < w1.heap.size := by omega
  have l1 : w.heap.size + 1 < w1.heap.size := by omega
  have l2 : w.heap.size + 1 + 1 < w1.heap.size := by omega
  have p1 := old_cell hb1 (b := w.heap.size) (o := 1) (v := .slice a2 g.flows.length cap2) (by omega) (by go_simp)
  have c0 := old_cell hb1 (b := w.heap.size + 1 + 1) (o := 0) (v := .slice none 0 0) (by omega) (by go_simp)
  have c1 := old_cell hb1 (b := w.heap.size + 1 + 1) (o := 1) (v := .slice none 0 0) (by omega) (by go_simp)
  have d0 := old_cell hb1 (b := w.heap.size + 1) (o := 0) (v := .slice none 0 0) (by omega) (by go_simp)
  have d1 := old_cell hb1 (b := w.heap.size + 1) (o := 1) (v := .slice none 0 0) (by omega) (by go_simp)
  have f0 := old_free hb1 (b := w.heap.size + 1 + 1) (o := 0) (by omega) (by go_simp)
  have f1 := old_free hb1 (b := w.heap.size + 1 + 1) (o := 1) (by omega) (by go_simp)
  have e0 := old_free hb1 (b := w.heap.size + 1) (o := 0) (by omega) (by go_simp)
  have e1 := old_free hb1 (b := w.heap.size + 1) (o := 1) (by omega) (by go_simp)
  have hB0 : Below w.heap.size w w1 := ((((Below.refl _ w).alloc (Nat.le_refl _) _).alloc (by simp) _).alloc (by simp; omega) _).trans (hb1.mono (by omega))
  have hB1 : Below w.heap.size w (w1.setCell ⟨w.heap.size + 1 + 1, 0, none⟩ (.slice a3 g.nodes.length cap3)) := setB hB0 (by omega) _
  have HB1 := hid hB1
  have HE1 := hid (HA.out.flows.below hB1)
  have HU1 := hid (hu.setBelow (b := w.heap.size + 1 + 1) (o := 0) (by omega) (.slice a3 g.nodes.length cap3))
  have HOW1 := hid (hown.kept (w' := w1.setCell ⟨w.heap.size + 1 + 1, 0, none⟩ (.slice a3 g.nodes.length cap3)) (fun b hb _ _ => Below.heap_setCell _ _ _ _ (by dsimp only; omega)))
  have hs1 : (w1.setCell ⟨w.heap.size + 1 + 1, 0, none⟩ (.slice a3 g.nodes.length cap3)).heap.size = w1.heap.size := by simp [World.setCell]
  have k0 : (w1.setCell ⟨w.heap.size + 1 + 1, 0, none⟩ (.slice a3 g.nodes.length cap3)).cell? ⟨w.heap.size + 1 + 1, 0, none⟩ = some (.slice a3 g.nodes.length cap3) := by go_simp
  have k1 : (w1.setCell ⟨w.heap.size + 1 + 1, 0, none⟩ (.slice a3 g.nodes.length cap3)).cell? ⟨w.heap.size + 1 + 1, 1, none⟩ = some (.slice none 0 0) := by go_simp
  have m0 : (w1.setCell ⟨w.heap.size + 1 + 1, 0, none⟩ (.slice a3 g.nodes.length cap3)).cell? ⟨w.heap.size + 1, 0, none⟩ = some (.slice none 0 0) := by go_simp
  have m1 : (w1.setCell ⟨w.heap.size + 1 + 1, 0, none⟩ (.slice a3 g.nodes.length cap3)).cell? ⟨w.heap.size + 1, 1, none⟩ = some (.slice none 0 0) := by go_simp
  have n1 : (w1.setCell ⟨w.heap.size + 1 + 1, 0, none⟩ (.slice a3 g.nodes.length cap3)).frozen? ⟨w.heap.size + 1 + 1, 1, none⟩ = false := by go_simp
  have y0 : (w1.setCell ⟨w.heap.size + 1 + 1, 0, none⟩ (.slice a3 g.nodes.length cap3)).frozen? ⟨w.heap.size + 1, 0, none⟩ = false := by go_simp
  have y1 : (w1.setCell ⟨w.heap.size + 1 + 1, 0, none⟩ (.slice a3 g.nodes.length cap3)).frozen? ⟨w.heap.size + 1, 1, none⟩ = false := by go_simp
  clear hu hown hb1 hB0 hB1 HA
  go_wp2_with fail
  generalize w1.setCell ⟨w.heap.size + 1 + 1, 0, none⟩ (.slice a3 g.nodes.length cap3) = wA at *
  refine (Fl.toS2 B g.flows _ wA HL.out.flows HE1.out).mono ?_
  rintro e w2 ⟨ue, rfl, hu2, hown2, hb2⟩
  obtain ⟨a4, cap4, rfl⟩ := hu2.slice
  have hz2 := hb2.size
  have c0' := old_cell hb2 (by omega) k0
  have c1' := old_cell hb2 (by omega) k1
  have d0' := old_cell hb2 (by omega) m0
  have d1' := old_cell hb2 (by omega) m1
  have f1' := old_free hb2 (by omega) n1
  have e0' := old_free hb2 (by omega) y0
  have e1' := old_free hb2 (by omega) y1
  have r1 : w.heap.size + 1 + 1 < w2.heap.size := by omega
  have r2 : w.heap.size + 1 < w2.heap.size := by omega
  have HU2 := hid hu2
  have HOW2 := hid hown2
  have HUx := hid (HU1.out.below hb2)
  have HOWx := hid (HOW1.out.below hb2)
  have HB2 := hid (HB1.out.trans (hb2.mono HB1.out.size))
  clear hu2 hown2 hb2 HU1 HOW1 HB1 c0 c1 d0 d1 f0 f1 e0 e1 k0 k1 m0 m1 n1 y0 y1 p1
  go_wp2
  refine bodyPost_ret (v := .agg #[.slice a3 g.nodes.length cap3, .slice a4 g.flows.length cap4]) (by simp [results, Tryd.results6, go_sem, d0', d1']) rfl ⟨_, _, wA.heap.size, rfl, ⟨?_, ?_⟩, ⟨?_, ?_⟩, ⟨by omega, by simp [World.setCell]; omega⟩, ?_⟩
  · exact (((HUx.out.setBelow (by omega) _).setBelow (by omega) _).setBelow (by omega) _).mono (by omega)
  · exact (((HU2.out.setBelow (by omega) _).setBelow (by omega) _).setBelow (by omega) _).mono (by omega)
  · exact (HOWx.out.kept (fun b hb _ _ => by rw [Below.heap_setCell _ _ _ _ (by dsimp only; omega), Below.heap_setCell _ _ _ _ (by dsimp only; omega), Below.heap_setCell _ _ _ _ (by dsimp only; omega)])).mono (by omega) (by omega)
  · exact (HOW2.out.kept (fun b hb _ _ => by rw [Below.heap_setCell _ _ _ _ (by dsimp only; omega), Below.heap_setCell _ _ _ _ (by dsimp only; omega), Below.heap_setCell _ _ _ _ (by dsimp only; omega)])).mono (by omega) (by simp [World.setCell])
  · exact setB (setB (setB HB2.out (by omega) _) (by omega) _) (by omega) _
theorem to1 (B : Nat) (g : GraphD) (vn vf : Value) (w : World) (hl : Small 1048576 g) (ha : At w B vn vf g) :
    Calls Tryd.prog 6 #[.agg #[vn, vf]] w fun e w' => ∃ un uf, e = .returned (.agg #[un, uf]) ∧ At w' w.heap.size un uf g ∧ Below w.heap.size w w' :=
  (to2 B g vn vf w hl ha).mono (fun e w' ⟨un, uf, M, h1, h2, _, _, h5⟩ => ⟨un, uf, h1, h2, h5⟩)
set_option maxRecDepth 100000 in
set_option maxHeartbeats 2000000 in
theorem eq (B1 B2 : Nat) (g : GraphD) (n1 f1 n2 f2 : Value) (w : World) (hl : Small 1048576 g) (h1 : At w B1 n1 f1 g) (h2 : At w B2 n2 f2 g) :
    Calls Tryd.prog 9 #[.agg #[n1, f1], .agg #[n2, f2]] w fun e w' => e = .returned (.bool true) ∧ Below w.heap.size w w' := by
  obtain ⟨a1, k1, rfl⟩ := h1.nodes.slice
  obtain ⟨a2, k2, rfl⟩ := h1.flows.slice
  obtain ⟨a3, k3, rfl⟩ := h2.nodes.slice
  obtain ⟨a4, k4, rfl⟩ := h2.flows.slice
  have hB : Below w.heap.size w ((w.alloc (.cells #[.slice a1 g.nodes.length k1, .slice a2 g.flows.length k2] 33)).alloc (.cells #[.slice a3 g.nodes.length k3, .slice a4 g.flows.length k4] 33)) := ((Below.refl _ w).alloc (Nat.le_refl _) _).alloc (by simp) _
  have H1 := hid (h1.below hB)
  have H2 := hid (h2.below hB)
  have HL := hid hl
  have HB := hid hB
  clear h1 h2 hB hl
  go_enter Tryd.func9, Tryd.ntmps9
  go_wp2_with fail
  refine (Gn.eqS B1 B2 g.nodes _ _ _ HL.out.nodes H1.out.nodes H2.out.nodes).mono ?_
  rintro e w1 ⟨rfl, hb1⟩
  have r1 := hb1.size
  simp only [World.size_alloc] at r1
  have d1 := (hb1.cell (p := ⟨w.heap.size, 1, none⟩) (by simp; omega)).trans (show _ = some (.slice a2 g.flows.length k2) by go_simp)
  have d2 := (hb1.cell (p := ⟨w.heap.size + 1, 1, none⟩) (by simp)).trans (show _ = some (.slice a4 g.flows.length k4) by go_simp)
  have l1 : w.heap.size < w1.heap.size := by omega
  have l2 : w.heap.size + 1 < w1.heap.size := by omega
  have HB1 := hid (HB.out.trans (hb1.mono HB.out.size))
  have HF := hid (Fl.eqS B1 B2 g.flows _ _ w1 HL.out.flows (H1.out.flows.below hb1) (H2.out.flows.below hb1))
  clear hb1 H1 H2
  go_wp2_with fail
  refine HF.out.mono ?_
  rintro e w2 ⟨rfl, hb2⟩
  have HB2 := hid (HB1.out.trans (hb2.mono HB1.out.size))
  clear hb2
  go_wp2
  go_ret
  exact ⟨rfl, HB2.out⟩
theorem cellsG : Tryd.prog.cellsOf 25 = 2 := by kernel_rfl
theorem cellsN : Tryd.prog.cellsOf 22 = 1 := by kernel_rfl
theorem cellsF : Tryd.prog.cellsOf 23 = 1 := by kernel_rfl
set_option maxRecDepth 100000 in
theorem open_all {H : Type} {enc : TypeId × Value → H} {w : World} {base : Nat} {spare : Nat → Bool} {held : Bool} {fuel : Nat} {cs : List Value} {x : DataW H × List MemPlace} (h : DataW.trod enc Tryd.prog w base spare held fuel 25 cs = some x) :
    ∃ (g : GraphD) (vn vf : Value), cs = [vn, vf] ∧ At w 0 vn vf g ∧ Ok g := by
  obtain ⟨xs, n, rfl, _, hlen, hxl, hf⟩ := DataW.trod_struct Tryd.underlying25 h
  have h0 := hf 0 _ rfl
  have h1 := hf 1 _ rfl
  rw [cellsG] at hlen
  match cs, hlen with
  | [a, b], _ =>
    match xs, hxl with
    | [x0, x1], _ =>
      simp [cellsN, cellsF] at h0 h1
      obtain ⟨ns, hn1, hn2, hn3⟩ := Gn.open_all h0
      obtain ⟨fs, hf1, hf2, hf3⟩ := Fl.open_all h1
      exact ⟨⟨ns, fs⟩, a, b, rfl, ⟨hn1, hf1⟩, ⟨hn2, hf2, hn3, hf3⟩⟩
end Gr
end Go.Proofs.YtepfkfhbkbkepaaDoor
