/- What the laws do with journals: measured, copied, compared, marked, held. No condition. -/
import Derived.Test.YtiliahibnhfhoaaJnR
import Derived.Test.YtiliahibnhfhoaaJnQ
namespace Go.Proofs.Ytiliahibnhfhoaa
open Go.RowKit
set_option linter.unusedVariables false
namespace Jn
/-- A journal of one's own: its two rows share nothing. -/
structure Jo (w : World) (B : Nat) (v1 v2 : Value) (s l : List UInt8) : Prop where
  o1 : Ob w B v1 s
  o2 : Ob w B v2 l
  d : ∀ b, v1.ownBlock = some b → v2.ownBlock ≠ some b
theorem Jo.below {w w' : World} {B C : Nat} {v1 v2 : Value} {s l : List UInt8} (h : Jo w B v1 v2 s l) (hb : Below C w w') (hC : w.heap.size ≤ C) : Jo w' B v1 v2 s l := ⟨h.o1.below hb hC, h.o2.below hb hC, h.d⟩
theorem Jo.mono {w : World} {B B' : Nat} {v1 v2 : Value} {s l : List UInt8} (h : Jo w B v1 v2 s l) (hB : B' ≤ B) : Jo w B' v1 v2 s l := ⟨ob_mono h.o1 hB, ob_mono h.o2 hB, h.d⟩
theorem Jo.set {w : World} {B b c : Nat} {v1 v2 u : Value} {s l : List UInt8} (h : Jo w B v1 v2 s l) (hb : b < B) : Jo (w.setCell ⟨b, c, none⟩ u) B v1 v2 s l := ⟨ob_set h.o1 hb, ob_set h.o2 hb, h.d⟩
theorem Jo.kept {w w' : World} {B : Nat} {v1 v2 : Value} {s l : List UInt8} {row : Option Nat} (h : Jo w B v1 v2 s l) (hg : w.grownBy w' row) (h1 : ∀ b, v1.ownBlock = some b → row ≠ some b) (h2 : ∀ b, v2.ownBlock = some b → row ≠ some b) : Jo w' B v1 v2 s l := ⟨h.o1.kept hg h1, h.o2.kept hg h2, h.d⟩
theorem szB (a : Option Addr) (n c : Nat) (left : Int) (w : World) (h0 : 0 ≤ left) (h1 : left ≤ 1048576) (hn : n ≤ 9223372036854775807) : Calls Try.prog 62 #[.slice a n c, .int .i64 left] w fun e w' => e = .returned (.int .i64 (if left - (n : Int) < 0 then -1 else left - (n : Int))) ∧ w' = w := by
  by_cases h : left - (n : Int) < 0
  · rw [if_pos h]
    go_enter Try.func62, Try.ntmps62
    go_wp2
    go_ret
    exact ⟨rfl, rfl⟩
  · rw [if_neg h]
    go_enter Try.func62, Try.ntmps62
    go_wp2
    go_ret
    exact ⟨rfl, rfl⟩
set_option maxRecDepth 100000 in
set_option maxHeartbeats 1000000 in
theorem szJ (a1 a2 : Option Addr) (n1 c1 n2 c2 : Nat) (w : World) (h1 : n1 ≤ 9223372036854775807) (h2 : n2 ≤ 9223372036854775807) : Calls Try.prog 28 #[.agg #[.slice a1 n1 c1, .slice a2 n2 c2], .int .i64 1048576] w fun e w' => (∃ r : Int, e = .returned (.int .i64 r) ∧ (¬ r < 0 → n1 + n2 ≤ 1048576)) ∧ Below w.heap.size w w' := by
  have HS1 := hid (fun w' => szB a1 n1 c1 1048576 w' (by omega) (by omega) h1)
  have hb0 : Below w.heap.size w (w.alloc (.cells #[.slice a1 n1 c1, .slice a2 n2 c2] 41)) := (Below.refl _ w).alloc (Nat.le_refl _) _
  by_cases q : (1048576 : Int) - (n1 : Int) < 0
  · rw [if_pos q] at HS1
    clear q
    go_enter Try.func28, Try.ntmps28
    go_wp2_with fail
    refine (HS1.out _).mono ?_
    rintro e w1 ⟨rfl, hw⟩
    replace hw := hw.symm
    subst hw
    go_wp2
    go_ret
    exact ⟨⟨-1, rfl, fun h => by omega⟩, hb0⟩
  · rw [if_neg q] at HS1
    have HS2 := hid (fun w' => szB a2 n2 c2 (1048576 - (n1 : Int)) w' (by omega) (by omega) h2)
    by_cases q2 : (1048576 : Int) - (n1 : Int) - (n2 : Int) < 0
    · rw [if_pos q2] at HS2
      go_enter Try.func28, Try.ntmps28
      go_wp2_with fail
      refine (HS1.out _).mono ?_
      rintro e w1 ⟨rfl, hw⟩
      replace hw := hw.symm
      subst hw
      go_wp2_with fail
      refine (HS2.out _).mono ?_
      rintro e w1 ⟨rfl, hw⟩
      replace hw := hw.symm
      subst hw
      go_wp2
      go_ret
      exact ⟨⟨-1, rfl, fun h => by omega⟩, hb0⟩
    · rw [if_neg q2] at HS2
      go_enter Try.func28, Try.ntmps28
      go_wp2_with fail
      refine (HS1.out _).mono ?_
      rintro e w1 ⟨rfl, hw⟩
      replace hw := hw.symm
      subst hw
      go_wp2_with fail
      refine (HS2.out _).mono ?_
      rintro e w1 ⟨rfl, hw⟩
      replace hw := hw.symm
      subst hw
      go_wp2
      go_ret
      exact ⟨⟨_, rfl, fun h => by omega⟩, hb0⟩
set_option maxRecDepth 100000 in
set_option maxHeartbeats 2000000 in
theorem toJ (B : Nat) (s l : List UInt8) (v1 v2 : Value) (w : World) (h1 : s.length ≤ 1048576) (h2 : l.length ≤ 1048576) (hB : B ≤ w.heap.size) (ha1 : At w B v1 s) (ha2 : At w B v2 l) :
    Calls Try.prog 30 #[.agg #[v1, v2]] w fun e w' => ∃ x1 k1 x2 k2, e = .returned (.agg #[.slice x1 s.length k1, .slice x2 l.length k2]) ∧ Jo w' w.heap.size (.slice x1 s.length k1) (.slice x2 l.length k2) s l ∧ Below w.heap.size w w' := by
  obtain ⟨a1, c1, rfl, _⟩ := ha1.slice
  obtain ⟨a2, c2, rfl, _⟩ := ha2.slice
  have hb0 : Below w.heap.size w (((w.alloc (.cells #[.slice a1 s.length c1, .slice a2 l.length c2] 41)).alloc (.cells #[.slice none 0 0, .slice none 0 0] 44)).alloc (.cells #[.slice none 0 0, .slice none 0 0] 44)) := (((Below.refl _ w).alloc (Nat.le_refl _) _).alloc (by simp) _).alloc (by simp; omega) _
  have HT1 := hid (fun w' (hb : Below w.heap.size w w') => toS B s _ w' h1 (Nat.le_trans hB hb.size) (ha1.below hb hB))
  have HT2 := hid (fun w' (hb : Below w.heap.size w w') => toS B l _ w' h2 (Nat.le_trans hB hb.size) (ha2.below hb hB))
  have HB0 := hid hb0
  clear ha1 ha2 hb0
  go_enter Try.func30, Try.ntmps30
  go_wp2_with fail
  refine (HT1.out _ HB0.out).mono ?_
  rintro e w1 ⟨x1, k1, rfl, ho1, hb1⟩
  have B1 := HB0.out.trans (hb1.mono HB0.out.size)
  simp only [World.size_alloc] at hb1 ho1
  have l1 : w.heap.size + 1 + 1 + 1 ≤ w1.heap.size := by have := hb1.size; simpa using this
  have p1 : w1.heap[w.heap.size]? = some (.cells #[.slice a1 s.length c1, .slice a2 l.length c2] 41 (0, 0)) := (hb1.block _ (by omega)).trans ((Below.heap_alloc _ _ _ (by simp; omega)).trans ((Below.heap_alloc _ _ _ (by simp)).trans (heap_alloc_new w _)))
  have p2 : w1.heap[w.heap.size + 1]? = some (.cells #[.slice none 0 0, .slice none 0 0] 44 (0, 0)) := (hb1.block _ (by omega)).trans ((Below.heap_alloc _ _ _ (by simp)).trans (by have := heap_alloc_new (w.alloc (.cells #[.slice a1 s.length c1, .slice a2 l.length c2] 41)) (.cells #[.slice none 0 0, .slice none 0 0] 44); simpa using this))
  have p3 : w1.heap[w.heap.size + 1 + 1]? = some (.cells #[.slice none 0 0, .slice none 0 0] 44 (0, 0)) := (hb1.block _ (by omega)).trans (by have := heap_alloc_new ((w.alloc (.cells #[.slice a1 s.length c1, .slice a2 l.length c2] 41)).alloc (.cells #[.slice none 0 0, .slice none 0 0] 44)) (.cells #[.slice none 0 0, .slice none 0 0] 44); simpa using this)
  have c10 := blk_cell p1 (o := 1) (v := .slice a2 l.length c2) rfl
  have c30 := blk_cell p3 (o := 0) (v := .slice none 0 0) rfl
  have f30 := blk_free (o := 0) p3
  have BX : Below w.heap.size w (w1.setCell ⟨w.heap.size + 1 + 1, 0, none⟩ (.slice x1 s.length k1)) := B1.setCell (by simp; omega) _
  have px2 : (w1.setCell ⟨w.heap.size + 1 + 1, 0, none⟩ (.slice x1 s.length k1)).heap[w.heap.size + 1]? = _ := (Below.heap_setCell _ _ _ _ (by dsimp only; omega)).trans p2
  have px3 : (w1.setCell ⟨w.heap.size + 1 + 1, 0, none⟩ (.slice x1 s.length k1)).heap[w.heap.size + 1 + 1]? = some (.cells #[.slice x1 s.length k1, .slice none 0 0] 44 (0, 0)) := blk_set p3 0 (.slice x1 s.length k1) rfl (by simp)
  have hOX : Ob (w1.setCell ⟨w.heap.size + 1 + 1, 0, none⟩ (.slice x1 s.length k1)) (w.heap.size + 1 + 1 + 1) (.slice x1 s.length k1) s := ob_set ho1 (by omega)
  have hsz : (w1.setCell ⟨w.heap.size + 1 + 1, 0, none⟩ (.slice x1 s.length k1)).heap.size = w1.heap.size := by simp [World.setCell]
  have HSZ := hid hsz
  clear hsz p1 p2 p3 ho1 hb1
  go_wp2_with fail
  refine (HT2.out _ BX).mono ?_
  rintro e w2 ⟨x2, k2, rfl, ho2, hb2⟩
  have B2 := BX.trans (hb2.mono BX.size)
  have q2 : w2.heap[w.heap.size + 1]? = some (.cells #[.slice none 0 0, .slice none 0 0] 44 (0, 0)) := (hb2.block _ (by rw [HSZ.out]; omega)).trans px2
  have q3 : w2.heap[w.heap.size + 1 + 1]? = some (.cells #[.slice x1 s.length k1, .slice none 0 0] 44 (0, 0)) := (hb2.block _ (by rw [HSZ.out]; omega)).trans px3
  have hO1 := hOX.below hb2 (Nat.le_refl _)
  have l2 : w1.heap.size ≤ w2.heap.size := by have := hb2.size; rw [HSZ.out] at this; exact this
  have hD : ∀ b, (Value.slice x1 s.length k1).ownBlock = some b → (Value.slice x2 l.length k2).ownBlock ≠ some b := fun b e1 e2 => by
    have h1 := (hOX.lt b e1).2
    have h2 := (ho2.lt b e2).1
    omega
  have hO2 := ob_mono ho2 (show w.heap.size + 1 + 1 + 1 ≤ (w1.setCell ⟨w.heap.size + 1 + 1, 0, none⟩ (.slice x1 s.length k1)).heap.size by rw [HSZ.out]; exact l1)
  have HJ : Hid (Jo w2 (w.heap.size + 1 + 1 + 1) (.slice x1 s.length k1) (.slice x2 l.length k2) s l) := hid ⟨hO1, hO2, hD⟩
  have d30 := blk_cell q3 (o := 0) (v := .slice x1 s.length k1) rfl
  have d31 := blk_cell q3 (o := 1) (v := .slice none 0 0) rfl
  have g31 := blk_free (o := 1) q3
  have e0 : (w2.setCell ⟨w.heap.size + 1 + 1, 1, none⟩ (.slice x2 l.length k2)).heap[w.heap.size + 1]? = _ := (Below.heap_setCell _ _ _ _ (by dsimp only; omega)).trans q2
  have r0 := blk_cell e0 (o := 0) (v := .slice none 0 0) rfl
  have r1 := blk_cell e0 (o := 1) (v := .slice none 0 0) rfl
  have f0 := blk_free (o := 0) e0
  have f1 := blk_free (o := 1) e0
  have B3 := hid B2
  have lw : w.heap.size + 1 + 1 < w2.heap.size := by omega
  clear hb2 ho2 px2 px3 hOX hO1 hO2 hD q2 q3 B2 BX B1 HB0 c10 c30 f30 e0
  go_wp2
  refine bodyPost_ret (v := .agg #[.slice x1 s.length k1, .slice x2 l.length k2]) (by simp [results, Try.results30, go_sem, r0, r1]) rfl ⟨x1, k1, x2, k2, rfl, ?_, ?_⟩
  · exact (((HJ.out.set (by omega)).set (by omega)).set (by omega)).mono (by omega)
  · exact setB (setB (setB B3.out (by omega) _) (by omega) _) (by omega) _
set_option maxRecDepth 100000 in
set_option maxHeartbeats 2000000 in
theorem eqJ (s l : List UInt8) (x1 x2 y1 y2 : Value) (w : World) (hs : s.length ≤ 1048576) (hl : l.length ≤ 1048576) (h1 : At w w.heap.size x1 s) (h2 : At w w.heap.size x2 l) (h3 : At w w.heap.size y1 s) (h4 : At w w.heap.size y2 l) :
    Calls Try.prog 32 #[.agg #[x1, x2], .agg #[y1, y2]] w fun e w' => e = .returned (.bool true) ∧ Below w.heap.size w w' := by
  obtain ⟨a1, c1, rfl, _⟩ := h1.slice
  obtain ⟨a2, c2, rfl, _⟩ := h2.slice
  obtain ⟨a3, c3, rfl, _⟩ := h3.slice
  obtain ⟨a4, c4, rfl, _⟩ := h4.slice
  have hB : Below w.heap.size w ((w.alloc (.cells #[.slice a1 s.length c1, .slice a2 l.length c2] 44)).alloc (.cells #[.slice a3 s.length c3, .slice a4 l.length c4] 44)) := ((Below.refl _ w).alloc (Nat.le_refl _) _).alloc (by simp) _
  have HE1 := hid (fun w' (hb : Below w.heap.size w w') => eqS w.heap.size _ _ s w' hs (h1.below hb (Nat.le_refl _)) (h3.below hb (Nat.le_refl _)) hb.size)
  have HE2 := hid (fun w' (hb : Below w.heap.size w w') => eqS w.heap.size _ _ l w' hl (h2.below hb (Nat.le_refl _)) (h4.below hb (Nat.le_refl _)) hb.size)
  have HB := hid hB
  clear h1 h2 h3 h4 hB
  go_enter Try.func32, Try.ntmps32
  go_wp2_with fail
  refine (HE1.out _ HB.out).mono ?_
  rintro e w1 ⟨rfl, hb1⟩
  have B1 := HB.out.trans (hb1.mono HB.out.size)
  simp only [World.size_alloc] at hb1
  have p1 : w1.cell? ⟨w.heap.size, 1, none⟩ = some (.slice a2 l.length c2) := kept_cell hb1 (by omega) (by go_simp)
  have p2 : w1.cell? ⟨w.heap.size + 1, 1, none⟩ = some (.slice a4 l.length c4) := kept_cell hb1 (by omega) (by go_simp)
  clear hb1
  go_wp2_with fail
  refine (HE2.out _ B1).mono ?_
  rintro e w2 ⟨rfl, hb2⟩
  have B2 := B1.trans (hb2.mono B1.size)
  clear hb2
  go_wp2
  go_ret
  exact ⟨rfl, B2⟩
end Jn
end Go.Proofs.Ytiliahibnhfhoaa
