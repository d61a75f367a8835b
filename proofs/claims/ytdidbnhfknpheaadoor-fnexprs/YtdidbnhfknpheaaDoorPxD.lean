/- The program's reading: what is trimmed, addNode. -/
import Derived.Test.YtdidbnhfknpheaaDoorPxC
import Derived.Shelf.Strings.SlTrimAscii
import Derived.Deep.RegionHeld3
import Derived.Deep.AppendLies
import Derived.Deep.RegionLaw
namespace Go.Proofs.YtdidbnhfknpheaaDoor
open Go.RowKit
set_option linter.unusedVariables false
namespace Ex
open Nd (NodeD)
set_option maxRecDepth 100000 in
theorem digs (b : UInt8) : ([48, 49, 50, 51, 52, 53, 54, 55, 56, 57] : List UInt8).contains b = isD b := by
  have h : ∀ n : Fin 256, ([48, 49, 50, 51, 52, 53, 54, 55, 56, 57] : List UInt8).contains (UInt8.ofFin n) = isD (UInt8.ofFin n) := by decide
  exact h b.toFin
theorem implTrim (rest : List UInt8) (w : World) :
    Calls Tryd.prog 40 #[.string (str rest), .string ⟨#[48, 49, 50, 51, 52, 53, 54, 55, 56, 57]⟩] w fun e w' => e = .returned (.string (str (rest.dropWhile isD))) ∧ Below w.heap.size w w' := by
  refine (Any.strings_TrimLeft_laid Tryd.lays161 (by kernel_rfl) (str rest) ⟨#[48, 49, 50, 51, 52, 53, 54, 55, 56, 57]⟩ w (by decide) ?_).mono ?_
  · intro j b h
    have hm := List.mem_of_getElem? h
    simp at hm
    rcases hm with rfl | rfl | rfl | rfl | rfl | rfl | rfl | rfl | rfl | rfl <;> decide
  · rintro e w' ⟨rfl, hb⟩
    refine ⟨?_, hb⟩
    unfold Lib.trimLeftS str
    simp only
    have : (fun x => List.contains [48, 49, 50, 51, 52, 53, 54, 55, 56, 57] x) = isD := funext digs
    rw [this]
theorem grown_cell2 {w w' : World} {row : Option Nat} {b o : Nat} {v : Value} (h : w.grownBy w' row) (hc : w.cell? ⟨b, o, none⟩ = some v) (hr : row ≠ some b) : w'.cell? ⟨b, o, none⟩ = some v := by
  have hb : b < w.heap.size := by
    rcases Nat.lt_or_ge b w.heap.size with h1 | h1
    · exact h1
    · simp [World.cell?, Array.getElem?_eq_none h1] at hc
  simp only [World.cell?] at hc ⊢
  rw [h.block b hb (fun e => hr e.symm)]
  exact hc
theorem grown_free2 {w w' : World} {row : Option Nat} {b o : Nat} (h : w.grownBy w' row) (hb : b < w.heap.size) (hc : w.frozen? ⟨b, o, none⟩ = false) (hr : row ≠ some b) : w'.frozen? ⟨b, o, none⟩ = false := by
  simp only [World.frozen?] at hc ⊢
  rw [h.block b hb (fun e => hr e.symm)]
  exact hc
theorem infoNode : (Tryd.prog.info? 35).map (fun i => (i.zero, i.size, i.bytes)) = some (some (.agg #[.int .i64 0, .int .i64 0, .int .i64 0, .int .i64 0]), 4, 32) := by kernel_rfl
set_option maxRecDepth 100000 in
set_option maxHeartbeats 2000000 in
theorem addBad (R : Nat) (rest : List UInt8) (ns : List NodeD) (n : NodeD) (w : World) (h : Rd w R rest ns) (hf : form n = true) (h16 : ns.length ≤ 16) (hbad : ns.length = 16 ∨ inside n ns.length = false) :
    Calls Tryd.prog 39 #[.pointer (some ⟨R, 0, none⟩), .agg #[.int .i64 n.kind, .int .i64 n.value, .int .i64 n.left, .int .i64 n.right]] w fun e w' => e = .returned (.tuple #[.int .i64 0, .bool false]) ∧ Below w.heap.size w w' := by
  obtain ⟨c0, f0, f1, a, cap, c1⟩ := h.c0
  have hlt := h.lt
  have hb0 : Below w.heap.size w (w.alloc (.cells #[.int .i64 n.kind, .int .i64 n.value, .int .i64 n.left, .int .i64 n.right] 35)) := (Below.refl _ w).alloc (Nat.le_refl _) _
  have d1 := kept_cell hb0 hlt c1
  have HI := hid (implInside n ns.length (w.alloc (.cells #[.int .i64 n.kind, .int .i64 n.value, .int .i64 n.left, .int .i64 n.right] 35)) hf)
  have HB := hid hb0
  by_cases he : ns.length = 16
  · have b1 : ((ns.length : Int) == 16) = true := beq_iff_eq.2 (by omega)
    clear h hf hbad he hb0 c0 c1
    go_enter Tryd.func39, Tryd.ntmps39
    go_wp2
    go_ret2
    exact ⟨rfl, HB.out⟩
  · have b1 : ((ns.length : Int) == 16) = false := beq_eq_false_iff_ne.2 (by omega)
    have hin : inside n ns.length = false := by
      rcases hbad with h | h
      · exact absurd h he
      · exact h
    rw [hin] at HI
    clear h hf hbad he hb0 c0 c1 hin
    go_enter Tryd.func39, Tryd.ntmps39
    go_wp2_with fail
    refine HI.out.mono ?_
    rintro e w1 ⟨rfl, hb1⟩
    go_wp2
    go_ret2
    exact ⟨rfl, HB.out.trans (hb1.mono HB.out.size)⟩
set_option maxRecDepth 100000 in
set_option maxHeartbeats 4000000 in
theorem addGood (R : Nat) (rest : List UInt8) (ns : List NodeD) (n : NodeD) (w : World) (h : Rd w R rest ns) (hf : form n = true) (h16 : ns.length < 16) (hin : inside n ns.length = true) :
    Calls Tryd.prog 39 #[.pointer (some ⟨R, 0, none⟩), .agg #[.int .i64 n.kind, .int .i64 n.value, .int .i64 n.left, .int .i64 n.right]] w fun e w' => e = .returned (.tuple #[.int .i64 (ns.length : Int), .bool true]) ∧ Rd w' R rest (ns ++ [n]) ∧ Below R w w' := by
  obtain ⟨j0, hj, hy0, hy1, hy2⟩ := info_parts infoNode
  have hlt := h.lt
  obtain ⟨v, hR, hown⟩ := h
  obtain ⟨a, cap, rfl⟩ := own4_slice hown
  have hb0 : Below w.heap.size w (w.alloc (.cells #[.int .i64 n.kind, .int .i64 n.value, .int .i64 n.left, .int .i64 n.right] 35)) := (Below.refl _ w).alloc (Nat.le_refl _) _
  have HI := hid (implInside n ns.length (w.alloc (.cells #[.int .i64 n.kind, .int .i64 n.value, .int .i64 n.left, .int .i64 n.right] 35)) hf)
  rw [hin] at HI
  have b1 : ((ns.length : Int) == 16) = false := beq_eq_false_iff_ne.2 (by omega)
  have hRA : (w.alloc (.cells #[.int .i64 n.kind, .int .i64 n.value, .int .i64 n.left, .int .i64 n.right] 35)).heap[R]? = some (.cells #[.string (str rest), .slice a ns.length cap] 43 (0, 0)) := (hb0.block R hlt).trans hR
  have d1 : (w.alloc (.cells #[.int .i64 n.kind, .int .i64 n.value, .int .i64 n.left, .int .i64 n.right] 35)).cell? ⟨R, 1, none⟩ = some (.slice a ns.length cap) := by simp only [World.cell?, hRA]; rfl
  have HOA := hid (owns_keep hown hb0)
  have hneR : (Value.slice a ns.length cap).ownBlock ≠ some R := fun e => by have := (own_lt hown e).1; omega
  have hneB : (Value.slice a ns.length cap).ownBlock ≠ some w.heap.size := fun e => by have := (own_lt hown e).2; omega
  have hsz : (w.alloc (.cells #[.int .i64 n.kind, .int .i64 n.value, .int .i64 n.left, .int .i64 n.right] 35)).heap.size = w.heap.size + 1 := by simp
  clear hown hin hf
  go_enter Tryd.func39, Tryd.ntmps39
  go_wp2_with fail
  refine HI.out.mono ?_
  rintro e w1 ⟨rfl, hb1⟩
  have hR1 : w1.heap[R]? = some (.cells #[.string (str rest), .slice a ns.length cap] 43 (0, 0)) := (hb1.block R (by omega)).trans hRA
  have u1 : w1.cell? ⟨R, 1, none⟩ = some (.slice a ns.length cap) := by simp [World.cell?, hR1]
  have uf : w1.frozen? ⟨R, 1, none⟩ = false := by simp [World.frozen?, hR1]
  have k0 := kept_cell hb1 (b := w.heap.size) (o := 0) (v := .int .i64 n.kind) (by omega) (by go_simp)
  have k1 := kept_cell hb1 (b := w.heap.size) (o := 1) (v := .int .i64 n.value) (by omega) (by go_simp)
  have k2 := kept_cell hb1 (b := w.heap.size) (o := 2) (v := .int .i64 n.left) (by omega) (by go_simp)
  have k3 := kept_cell hb1 (b := w.heap.size) (o := 3) (v := .int .i64 n.right) (by omega) (by go_simp)
  have HO1 := hid (owns_keep HOA.out hb1)
  have HB1 := hid (hb0.trans (hb1.mono hb0.size))
  have l1 : w.heap.size + 1 ≤ w1.heap.size := by have := hb1.size; omega
  clear HI HOA hRA d1 hsz hb1 hb0
  go_wp2
  have hown1 := HO1.out
  have hal : Below w1.heap.size w1 (w1.alloc (.cells #[.int .i64 n.kind, .int .i64 n.value, .int .i64 n.left, .int .i64 n.right] 35)).drew := ((Below.refl _ w1).alloc (Nat.le_refl _) _).drew
  have hlR : R < w1.heap.size := by omega
  have hlt0 : R < w.heap.size := hlt
  have hlB : w.heap.size < w1.heap.size := by omega
  go_region_law
    ((refine step_append_lies _ (by rfl) _ _ _ (by rfl) (R + 1) 35 j0 _ 4 32 Tryd.underlying25 hj hy0 hy1 hy2 rfl (by omega) (.slice a ns.length cap) ns.length (nvals ns) (by rfl) ((hown1.alloc _).drew)
        ⟨w1.heap.size, 0, none⟩ 1 1 (nval n) (by rfl) (by rfl) (World.news_of_block (cs := #[.int .i64 n.kind, .int .i64 n.value, .int .i64 n.left, .int .i64 n.right]) (t := 35) (fr := (0, 0)) (heap_alloc_new w1 _)) (by simp [nval, Value.oneCell'])
        (by omega) (by unfold maxLen; omega) (by omega) (by simp; omega) (w1.heap.size + 1) (by simp) ?_; intro gg cp w2 hown2 hgrow hat hlt; have z1 := grown_cell2 hgrow (kept_cell hal hlR u1) hneR; have z2 := grown_free2 hgrow (by simp; omega) (kept_free hal hlR uf) hneR; have HH2 : Hid (w2.heap[R]? = some (.cells #[.string (str rest), .slice a ns.length cap] 43 (0, 0))) := hid ((hgrow.block R (by simp; omega) (Ne.symm hneR)).trans ((hal.block R hlR).trans hR1)); have HB2 : Hid (Below R w w2) := hid ((((HB1.out.mono (Nat.le_of_lt hlt0)).alloc (by omega) _).drew).grown hgrow (by simp; omega) (fun b e => Nat.le_of_lt (own_lt hown1 e).1))))
  all_goals
    have HO2 := hid hown2
    clear hown2 hgrow hat hlt z1 z2 hown1 HO1 hal
    go_wp2
    go_ret2
    refine ⟨rfl, ⟨.slice (some ⟨gg, 0, none⟩) (ns.length + 1) cp, by simp [World.setCell, Array.getElem?_modify, HH2.out], ?_⟩, HB2.out.setCell (Nat.le_refl _) _⟩
    rw [List.length_append, nvals_snoc]
    exact ownsRow_setCell_below HO2.out (a := ⟨R, 1, none⟩) (Nat.lt_succ_self R) _
end Ex
end Go.Proofs.YtdidbnhfknpheaaDoor
