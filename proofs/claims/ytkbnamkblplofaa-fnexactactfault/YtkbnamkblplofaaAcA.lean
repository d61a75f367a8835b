/- An act in memory: two numbers and a list of numbers; the law's measure of it, its copy, its comparison. -/
import Derived.Test.YtkbnamkblplofaaNu
import Derived.Test.YtkbnamkblplofaaChA
import Derived.Deep.Heap
import Derived.Deep.Cut
namespace Go.Proofs.Ytkbnamkblplofaa
open Go.RowKit Go.Deep
set_option linter.unusedVariables false
namespace Ac
open Ch (hid blk_set blk_cell blk_free new_blk new_at blk_lt szL old_cell)
structure ActD where
  kind : Int
  pos : Int
  vars : List Int
theorem set3 {w : World} {b : Nat} {t : TypeId} {z0 z1 z2 : Value} (h : w.heap[b]? = some (.cells #[z0, z1, z2] t)) (a0 a1 a2 : Value) : (((w.setCell ⟨b, 0, none⟩ a0).setCell ⟨b, 1, none⟩ a1).setCell ⟨b, 2, none⟩ a2).heap[b]? = some (.cells #[a0, a1, a2] t) := by
  have := blk_set (i := 2) (blk_set (i := 1) (blk_set (i := 0) h a0) a1) a2
  simpa only [List.setIfInBounds_toArray, List.set_cons_zero, List.set_cons_succ] using this
theorem below3 {B : Nat} {x w : World} (h : Below B x w) {b : Nat} (hb : B ≤ b) (a0 a1 a2 : Value) : Below B x (((w.setCell ⟨b, 0, none⟩ a0).setCell ⟨b, 1, none⟩ a1).setCell ⟨b, 2, none⟩ a2) :=
  ((h.setCell (by exact hb) _).setCell (by exact hb) _).setCell (by exact hb) _
theorem at3 {B : Nat} {w : World} {v : Value} {xs : List Int} (h : Nu.At w B v xs) {b : Nat} (hb : b < B) (a0 a1 a2 : Value) : Nu.At (((w.setCell ⟨b, 0, none⟩ a0).setCell ⟨b, 1, none⟩ a1).setCell ⟨b, 2, none⟩ a2) B v xs :=
  ((h.setBelow hb _).setBelow hb _).setBelow hb _
set_option maxRecDepth 100000 in
set_option maxHeartbeats 2000000 in
theorem sz (B : Nat) (r : ActD) (v1 : Value) (n : Int) (w : World) (h0 : 0 ≤ n) (hn : n ≤ 1048576) (hk : r.vars.length ≤ maxLen) (ha : Nu.At w B v1 r.vars) :
    Calls Try.prog 4 #[.agg #[.int .i64 r.kind, .int .i64 r.pos, v1], .int .i64 n] w fun e w' => (∃ x : Int, e = .returned (.int .i64 x) ∧ -1 ≤ x ∧ x ≤ n ∧ (0 ≤ x → (r.vars.length : Int) ≤ n)) ∧ Below w.heap.size w w' := by
  obtain ⟨a1, k1, rfl⟩ := ha.slice
  have HB : Hid (Below w.heap.size w (w.alloc (.cells #[.int .i64 r.kind, .int .i64 r.pos, .slice a1 r.vars.length k1] 24))) := hid ((Below.refl _ w).alloc (Nat.le_refl _) _)
  clear ha
  go_enter Try.func4, Try.ntmps4
  go_wp2_with fail
  refine (szL r.vars a1 k1 n _ h0 hn hk).mono ?_
  rintro e w1 ⟨⟨x1, rfl, p1, p2, p3⟩, rfl⟩
  by_cases q1 : x1 < 0
  · go_wp2
    go_ret
    exact ⟨⟨-1, rfl, by omega, by omega, by omega⟩, HB.out⟩
  have P3 := hid (p3 (by omega))
  clear p3
  go_wp2
  go_ret
  exact ⟨⟨x1, rfl, by omega, by omega, fun _ => P3.out⟩, HB.out⟩
theorem info3 : (Try.prog.info? 27).map (·.size) = some 3 := by kernel_rfl
set_option maxRecDepth 100000 in
set_option maxHeartbeats 4000000 in
theorem to1 (B : Nat) (r : ActD) (v1 : Value) (w : World) (hl : (r.vars.length : Int) ≤ 1048576) (ha : Nu.At w B v1 r.vars) :
    Calls Try.prog 6 #[.agg #[.int .i64 r.kind, .int .i64 r.pos, v1]] w fun e w' => ∃ u1, e = .returned (.agg #[.int .i64 r.kind, .int .i64 r.pos, u1]) ∧ Nu.At w' w.heap.size u1 r.vars ∧ Below w.heap.size w w' := by
  obtain ⟨a1, k1, rfl⟩ := ha.slice
  have HL := hid hl
  have KB : Hid (Below w.heap.size w (((w.alloc (.cells #[.int .i64 r.kind, .int .i64 r.pos, .slice a1 r.vars.length k1] 24)).alloc (.cells #[.int .i64 0, .int .i64 0, .slice none 0 0] 27)).alloc (.cells #[.int .i64 r.kind, .int .i64 r.pos, .slice none 0 0] 27))) := hid ((((Below.refl _ w).alloc (Nat.le_refl _) _).alloc (by simp) _).alloc (by simp; omega) _)
  have K1 : Hid ((((w.alloc (.cells #[.int .i64 r.kind, .int .i64 r.pos, .slice a1 r.vars.length k1] 24)).alloc (.cells #[.int .i64 0, .int .i64 0, .slice none 0 0] 27)).alloc (.cells #[.int .i64 r.kind, .int .i64 r.pos, .slice none 0 0] 27)).heap[w.heap.size + 1]? = some (.cells #[.int .i64 0, .int .i64 0, .slice none 0 0] 27)) := hid (by rw [Below.heap_alloc _ _ _ (by simp)]; exact new_at (by simp) _)
  have K2 : Hid ((((w.alloc (.cells #[.int .i64 r.kind, .int .i64 r.pos, .slice a1 r.vars.length k1] 24)).alloc (.cells #[.int .i64 0, .int .i64 0, .slice none 0 0] 27)).alloc (.cells #[.int .i64 r.kind, .int .i64 r.pos, .slice none 0 0] 27)).heap[w.heap.size + 1 + 1]? = some (.cells #[.int .i64 r.kind, .int .i64 r.pos, .slice none 0 0] 27)) := hid (new_at (by simp) _)
  have HA := hid ha
  clear ha hl
  go_enter Try.func6, Try.ntmps6
  go_wp2_with fail
  generalize ((w.alloc (.cells #[.int .i64 r.kind, .int .i64 r.pos, .slice a1 r.vars.length k1] 24)).alloc (.cells #[.int .i64 0, .int .i64 0, .slice none 0 0] 27)).alloc (.cells #[.int .i64 r.kind, .int .i64 r.pos, .slice none 0 0] 27) = w0 at *
  refine (Nu.toS B r.vars _ w0 (by have := HL.out; omega) (HA.out.below KB.out)).mono ?_
  rintro e w1 ⟨u1, rfl, hu, hb⟩
  obtain ⟨x1, y1, rfl⟩ := hu.slice
  have KBx := KB.out.trans (hb.mono KB.out.size)
  have z0 := blk_lt K2.out
  have K1x := (hb.block _ (blk_lt K1.out)).trans K1.out
  have K2x := (hb.block _ (blk_lt K2.out)).trans K2.out
  have G0 := hid (blk_cell K2x 2)
  have g2 := blk_free K2x 2
  have z1 := blk_lt K2x
  have g1 : w1.cell? ⟨w.heap.size + 1 + 1, 2, none⟩ = some (.slice none 0 0) := by rw [G0.out]; rfl
  have K13 := hid ((Below.heap_setCell w1 ⟨w.heap.size + 1 + 1, 2, none⟩ (.slice x1 r.vars.length y1) (w.heap.size + 1) (by dsimp only; omega)).trans K1x)
  have K23 : Hid ((w1.setCell ⟨w.heap.size + 1 + 1, 2, none⟩ (.slice x1 r.vars.length y1)).heap[w.heap.size + 1 + 1]? = some (.cells #[.int .i64 r.kind, .int .i64 r.pos, .slice x1 r.vars.length y1] 27)) := hid (by have := blk_set (i := 2) K2x (.slice x1 r.vars.length y1); simpa using this)
  have KB3 : Hid (Below w.heap.size w (w1.setCell ⟨w.heap.size + 1 + 1, 2, none⟩ (.slice x1 r.vars.length y1))) := hid (KBx.setCell (by dsimp only; omega) _)
  have HX : Hid (Nu.At (w1.setCell ⟨w.heap.size + 1 + 1, 2, none⟩ (.slice x1 r.vars.length y1)) (w.heap.size + 1 + 1 + 1) (.slice x1 r.vars.length y1) r.vars) := hid ((hu.setBelow (b := w.heap.size + 1 + 1) (o := 2) (by omega) _).mono (by omega))
  clear hu hb KBx K1x K2x G0 z0 KB K1 K2
  go_upto_region 5 with fail
  generalize w1.setCell ⟨w.heap.size + 1 + 1, 2, none⟩ (.slice x1 r.vars.length y1) = wA1 at *
  clear g1 g2 z1
  have c0 := (blk_cell K23.out 0)
  have c1 := (blk_cell K23.out 1)
  have c2 := (blk_cell K23.out 2)
  have d0 := (blk_cell K13.out 0)
  have d1 := (blk_cell K13.out 1)
  have d2 := (blk_cell K13.out 2)
  have f0 := (blk_free K13.out 0)
  have f1 := (blk_free K13.out 1)
  have f2 := (blk_free K13.out 2)
  simp at c0 c1 c2 d0 d1 d2
  have z0 := blk_lt K23.out
  have z1 := blk_lt K13.out
  go_wp2
  refine bodyPost_ret (results_cell_row Try.results6 _ _ (w.heap.size + 1) 27 #[.int .i64 r.kind, .int .i64 r.pos, .slice x1 r.vars.length y1] (0, 0) _ rfl (set3 K13.out _ _ _) Try.underlying27 rfl info3) rfl ⟨_, rfl, ?_, ?_⟩
  · exact (at3 HX.out (by omega) _ _ _).mono (by omega)
  · exact below3 KB3.out (by omega) _ _ _
set_option maxRecDepth 100000 in
set_option maxHeartbeats 2000000 in
theorem eq (B1 B2 : Nat) (r : ActD) (v1 u1 : Value) (w : World) (hl : (r.vars.length : Int) ≤ 1048576) (h1 : Nu.At w B1 v1 r.vars) (h2 : Nu.At w B2 u1 r.vars) :
    Calls Try.prog 8 #[.agg #[.int .i64 r.kind, .int .i64 r.pos, v1], .agg #[.int .i64 r.kind, .int .i64 r.pos, u1]] w fun e w' => e = .returned (.bool true) ∧ Below w.heap.size w w' := by
  obtain ⟨a1, k1, rfl⟩ := h1.slice
  obtain ⟨b1, m1, rfl⟩ := h2.slice
  have e1 : (r.kind != r.kind) = false := by simp
  have e2 : (r.pos != r.pos) = false := by simp
  have KB : Hid (Below w.heap.size w ((w.alloc (.cells #[.int .i64 r.kind, .int .i64 r.pos, .slice a1 r.vars.length k1] 27)).alloc (.cells #[.int .i64 r.kind, .int .i64 r.pos, .slice b1 r.vars.length m1] 27))) := hid (((Below.refl _ w).alloc (Nat.le_refl _) _).alloc (by simp) _)
  have H1 := hid (h1.below KB.out)
  have H2 := hid (h2.below KB.out)
  have HL := hid hl
  clear h1 h2 hl
  go_enter Try.func8, Try.ntmps8
  go_wp2_with fail
  generalize (w.alloc (.cells #[.int .i64 r.kind, .int .i64 r.pos, .slice a1 r.vars.length k1] 27)).alloc (.cells #[.int .i64 r.kind, .int .i64 r.pos, .slice b1 r.vars.length m1] 27) = w0 at *
  refine (Nu.eqS B1 B2 r.vars _ _ w0 (by have := HL.out; omega) H1.out H2.out).mono ?_
  rintro e w1 ⟨rfl, hb1⟩
  have KB3 := hid (KB.out.trans (hb1.mono KB.out.size))
  clear hb1
  go_wp2
  go_ret
  exact ⟨rfl, KB3.out⟩
theorem cellsR : Try.prog.cellsOf 24 = 3 := by kernel_rfl
theorem cellsI : Try.prog.cellsOf 2 = 1 := by kernel_rfl
theorem cellsL : Try.prog.cellsOf 22 = 1 := by kernel_rfl
set_option maxRecDepth 100000 in
theorem open_all {H : Type} {enc : TypeId × Value → H} {w : World} {base : Nat} {spare : Nat → Bool} {held : Bool} {fuel : Nat} {cs : List Value} {x : DataW H × List MemPlace} (h : DataW.trod enc Try.prog w base spare held fuel 24 cs = some x) :
    ∃ (r : ActD) (v1 : Value), cs = [.int .i64 r.kind, .int .i64 r.pos, v1] ∧ Nu.At w 0 v1 r.vars ∧ r.vars.length ≤ maxLen := by
  obtain ⟨xs, n, rfl, _, hlen, hxl, hf⟩ := DataW.trod_struct Try.underlying24 h
  have h0 := hf 0 _ rfl
  have h1 := hf 1 _ rfl
  have h2 := hf 2 _ rfl
  rw [cellsR] at hlen
  match cs, hlen with
  | [a, b, c], _ =>
    match xs, hxl with
    | [x0, x1, x2], _ =>
      simp [cellsI, cellsL] at h0 h1 h2
      obtain ⟨n0, e0⟩ := Nu.open_one h0
      obtain ⟨n1, e1⟩ := Nu.open_one h1
      obtain ⟨l2, p2, q2⟩ := Nu.open_all h2
      cases e0
      cases e1
      exact ⟨⟨n0, n1, l2⟩, c, rfl, p2, q2⟩
end Ac
end Go.Proofs.Ytkbnamkblplofaa
