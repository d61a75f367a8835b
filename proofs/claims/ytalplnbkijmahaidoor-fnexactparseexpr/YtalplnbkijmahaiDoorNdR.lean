/- Answers with lists of nodes: compared, marked, and whether the marks are still there: the law's own helpers. -/
import Derived.Test.YtalplnbkijmahaiDoorSxE
import Derived.Test.YtalplnbkijmahaiDoorNdM
namespace Go.Proofs.YtalplnbkijmahaiDoor
open Go.RowKit
set_option linter.unusedVariables false
namespace NdR
open Ex
open Nd (NodeD)
def marksN (n : Nat) : List NodeD := (List.range n).map fun (i : Nat) => ⟨1 + 4 * (i : Int), 1 + 4 * (i : Int) + 1, 1 + 4 * (i : Int) + 1 + 1, 1 + 4 * (i : Int) + 1 + 1 + 1⟩
theorem marksN_len (n : Nat) : (marksN n).length = n := by simp [marksN]
theorem marksN_get {n i : Nat} (h : i < (marksN n).length) : (marksN n)[i] = ⟨1 + 4 * (i : Int), 1 + 4 * (i : Int) + 1, 1 + 4 * (i : Int) + 1 + 1, 1 + 4 * (i : Int) + 1 + 1 + 1⟩ := by simp [marksN]
theorem at_marks {w : World} {g n m cap : Nat} {f : Nat → Value} (h : w.rowIs g 41 m f) (hm : NdM.marked f n) (hnm : n * 4 ≤ m) (hc : n ≤ cap) (hx : cap ≤ maxLen) : Nd.At w 0 (.slice (some ⟨g, 0, none⟩) n cap) (marksN n) := by
  refine ⟨some ⟨g, 0, none⟩, cap, by rw [marksN_len], by rw [marksN_len]; exact hc, hx, .inr ⟨g, 0, rfl, Nat.zero_le _, h.lt, fun i hi => ?_⟩⟩
  rw [marksN_get hi]
  rw [marksN_len] at hi
  have c0 := h.cell (i := i * 4) (by omega)
  have c1 := h.cell (i := i * 4 + 1) (by omega)
  have c2 := h.cell (i := i * 4 + 2) (by omega)
  have c3 := h.cell (i := i * 4 + 3) (by omega)
  rw [hm _ (by omega)] at c0 c1 c2 c3
  simp only [Nat.zero_add]
  refine ⟨c0.trans ?_, c1.trans ?_, c2.trans ?_, c3.trans ?_⟩ <;> (congr 2; omega)
theorem row_of {w : World} {g cap : Nat} {t : TypeId} {cur : Array Value} (h : w.heap[g]? = some (.cells cur t (0, 0))) (hs : cur.size = cap * 4) : w.rowIs g t (cap * 4) (fun i => cur.getD i undef) :=
  ⟨cur, h, hs, fun i hi => by simp [Array.getD, hs, hi]⟩
set_option maxRecDepth 100000 in
set_option maxHeartbeats 2000000 in
theorem markS (B : Nat) (v : Value) (ns : List NodeD) (w : World) (hn : ns.length ≤ 1048576) (h : w.ownsRow B 41 4 v ns.length (nvals ns)) :
    Calls Tryd.prog 24 #[v, .int .i64 1] w fun e w' => e = .returned (.int .i64 (1 + 4 * (ns.length : Int))) ∧ Nd.At w' 0 v (marksN ns.length) ∧ w.grownBy w' v.ownBlock := by
  obtain ⟨hl, ⟨rfl, h0⟩ | ⟨g, cap, cur, rfl, hbg, hg, hle, hm, hs, ht⟩⟩ := h
  · refine (NdM.markNil 0 w).mono ?_
    rintro e w1 ⟨rfl, rfl⟩
    rw [h0]
    exact ⟨rfl, ⟨none, 0, rfl, Nat.le_refl _, by unfold maxLen; omega, .inl rfl⟩, Ints.grown_refl _ _⟩
  · refine (NdM.markRow g ns.length (cap * 4) cap _ w hn (by omega) (row_of hg hs)).mono ?_
    rintro e w1 ⟨rfl, ⟨f', h1, h2⟩, h3⟩
    exact ⟨rfl, at_marks h1 h2 (by omega) hle hm, h3⟩
set_option maxRecDepth 100000 in
set_option maxHeartbeats 2000000 in
theorem heldS (v : Value) (n : Nat) (w : World) (hn : n ≤ 1048576) (h : Nd.At w 0 v (marksN n)) :
    Calls Tryd.prog 25 #[v, .int .i64 1] w fun e w' => e = .returned (.int .i64 (1 + 4 * (n : Int))) ∧ w' = w := by
  obtain ⟨a, cap, rfl⟩ := h.slice
  rw [marksN_len] at h ⊢
  have H1 := hid h
  clear h
  go_enter Tryd.func25, Tryd.ntmps25
  go_wp2
  go_loop [1, 5] (fun q i => ∃ k : Nat, i = .int .i64 k ∧ q = .int .i64 (1 + 4 * (k : Int)) ∧ k ≤ n) (fun _ i => n - (intOf i).toNat)
  case atStart => exact ⟨0, rfl, rfl, Nat.zero_le _⟩
  case round =>
    obtain ⟨k, rfl, rfl, hk⟩ := hrel
    by_cases hlt : k < n
    · obtain ⟨g, o, rfl, hg, c0, c1, c2, c3⟩ := H1.out.at (i := k) (by rw [marksN_len]; exact hlt)
      rw [marksN_get] at c0 c1 c2 c3
      have n0 : ((1 + 4 * (k : Int)) != (1 + 4 * (k : Int))) = false := by simp
      have n1 : ((1 + 4 * (k : Int) + 1) != (1 + 4 * (k : Int) + 1)) = false := by simp
      have n2 : ((1 + 4 * (k : Int) + 1 + 1) != (1 + 4 * (k : Int) + 1 + 1)) = false := by simp
      have n3 : ((1 + 4 * (k : Int) + 1 + 1 + 1) != (1 + 4 * (k : Int) + 1 + 1 + 1)) = false := by simp
      have q1 : (k : Int) < (n : Int) := by omega
      go_wp2
      exact ⟨⟨k + 1, by simp, by simp; omega, by omega⟩, by simp [intOf]; omega⟩
    · obtain rfl : k = n := by omega
      go_wp2
      go_ret
      exact ⟨rfl, rfl⟩
set_option maxRecDepth 100000 in
set_option maxHeartbeats 1000000 in
theorem eqR (c : Int) (B1 B2 : Nat) (v1 v2 : Value) (xs : List NodeD) (w : World) (hn : xs.length ≤ 1048576) (h1 : Nd.At w B1 v1 xs) (h2 : Nd.At w B2 v2 xs) :
    Calls Tryd.prog 13 #[.agg #[.int .i64 c, v1], .agg #[.int .i64 c, v2]] w fun e w' => e = .returned (.bool true) ∧ Below w.heap.size w w' := by
  obtain ⟨a1, c1, rfl⟩ := h1.slice
  obtain ⟨a2, c2, rfl⟩ := h2.slice
  have H1 := hid h1
  have H2 := hid h2
  clear h1 h2
  have hb : (c != c) = false := by simp
  go_enter Tryd.func13, Tryd.ntmps13
  go_wp2_with fail
  have hB : Below w.heap.size w ((w.alloc (.cells #[.int .i64 c, .slice a1 xs.length c1] 33)).alloc (.cells #[.int .i64 c, .slice a2 xs.length c2] 33)) := ((Below.refl _ w).alloc (Nat.le_refl _) _).alloc (by simp) _
  refine (Nd.eqS _ _ xs _ _ _ hn (H1.out.below hB) (H2.out.below hB)).mono ?_
  rintro e w1 ⟨rfl, hb1⟩
  go_wp2
  go_ret
  exact ⟨rfl, hB.trans (hb1.mono (by simp; omega))⟩
set_option maxRecDepth 100000 in
set_option maxHeartbeats 1000000 in
theorem markR (c : Int) (B : Nat) (v : Value) (xs : List NodeD) (w : World) (hn : xs.length ≤ 1048576) (h : w.ownsRow B 41 4 v xs.length (nvals xs)) :
    Calls Tryd.prog 14 #[.agg #[.int .i64 c, v], .int .i64 1] w fun e w' => e = .returned (.int .i64 (1 + 4 * (xs.length : Int))) ∧ Nd.At w' 0 v (marksN xs.length) ∧ w.grownBy w' v.ownBlock := by
  obtain ⟨a, cap, rfl⟩ := own4_slice h
  have HO := hid h
  clear h
  go_enter Tryd.func14, Tryd.ntmps14
  go_wp2_with fail
  refine (markS B _ xs _ hn (HO.out.alloc _)).mono ?_
  rintro e w1 ⟨rfl, ho, hg⟩
  have hg2 : w.grownBy w1 (Value.slice a xs.length cap).ownBlock := Ints.grown_after (World.grownBy_alloc w _ _) hg
  have HO1 := hid ho
  clear ho
  go_wp2
  go_ret
  exact ⟨rfl, HO1.out, hg2⟩
set_option maxRecDepth 100000 in
set_option maxHeartbeats 1000000 in
theorem heldR (c : Int) (v : Value) (n : Nat) (w : World) (hn : n ≤ 1048576) (h : Nd.At w 0 v (marksN n)) :
    Calls Tryd.prog 15 #[.agg #[.int .i64 c, v], .int .i64 1] w fun e w' => e = .returned (.int .i64 (1 + 4 * (n : Int))) ∧ Below w.heap.size w w' := by
  obtain ⟨a, cap, rfl⟩ := h.slice
  rw [marksN_len] at h ⊢
  have H1 := hid h
  clear h
  have q1 : ¬ (1 + 4 * (n : Int)) < 0 := by omega
  go_enter Tryd.func15, Tryd.ntmps15
  go_wp2_with fail
  have hB : Below w.heap.size w (w.alloc (.cells #[.int .i64 c, .slice a n cap] 33)) := (Below.refl _ w).alloc (Nat.le_refl _) _
  refine (heldS _ n _ hn (H1.out.below hB)).mono ?_
  rintro e w1 ⟨rfl, rfl⟩
  go_wp2
  go_ret
  exact ⟨rfl, hB⟩
end NdR
end Go.Proofs.YtalplnbkijmahaiDoor
