/- Answers of journals with code and count: compared, marked, held. No condition. -/
import Derived.Test.YtiliahibnhfhoaaJbA
namespace Go.Proofs.Ytiliahibnhfhoaa
open Go.RowKit
set_option linter.unusedVariables false
namespace Jn
set_option maxRecDepth 100000 in
set_option maxHeartbeats 2000000 in
theorem eqJR (c n : Int) (s l : List UInt8) (x1 x2 y1 y2 : Value) (w : World) (hs : s.length ≤ 1048576) (hl : l.length ≤ 1048576) (h1 : At w w.heap.size x1 s) (h2 : At w w.heap.size x2 l) (h3 : At w w.heap.size y1 s) (h4 : At w w.heap.size y2 l) :
    Calls Try.prog 35 #[.agg #[.int .i64 c, .int .i64 n, x1, x2], .agg #[.int .i64 c, .int .i64 n, y1, y2]] w fun e w' => e = .returned (.bool true) ∧ Below w.heap.size w w' := by
  obtain ⟨a1, c1, rfl, _⟩ := h1.slice
  obtain ⟨a2, c2, rfl, _⟩ := h2.slice
  obtain ⟨a3, c3, rfl, _⟩ := h3.slice
  obtain ⟨a4, c4, rfl, _⟩ := h4.slice
  have hB : Below w.heap.size w ((w.alloc (.cells #[.int .i64 c, .int .i64 n, .slice a1 s.length c1, .slice a2 l.length c2] 49)).alloc (.cells #[.int .i64 c, .int .i64 n, .slice a3 s.length c3, .slice a4 l.length c4] 49)) := ((Below.refl _ w).alloc (Nat.le_refl _) _).alloc (by simp) _
  have HE := hid (eqJ s l _ _ _ _ _ hs hl ((h1.below hB (Nat.le_refl _)).mono hB.size) ((h2.below hB (Nat.le_refl _)).mono hB.size) ((h3.below hB (Nat.le_refl _)).mono hB.size) ((h4.below hB (Nat.le_refl _)).mono hB.size))
  have HB := hid hB
  have b1 : (c != c) = false := by simp
  have b2 : (n != n) = false := by simp
  clear h1 h2 h3 h4 hB
  go_enter Try.func35, Try.ntmps35
  go_wp2_with fail
  refine HE.out.mono ?_
  rintro e w1 ⟨rfl, hb1⟩
  have B1 := HB.out.trans (hb1.mono HB.out.size)
  clear hb1
  go_wp2
  go_ret
  exact ⟨rfl, B1⟩
set_option maxRecDepth 100000 in
set_option maxHeartbeats 2000000 in
theorem markJR (c n : Int) (B : Nat) (v1 v2 : Value) (s l : List UInt8) (w : World) (hs : s.length ≤ 1048576) (hl : l.length ≤ 1048576) (h : Jo w B v1 v2 s l) :
    Calls Try.prog 37 #[.agg #[.int .i64 c, .int .i64 n, v1, v2], .int .i64 1] w fun e w' => e = .returned (.int .i64 (1 + (s.length : Int) + (l.length : Int))) ∧ Jo w' B v1 v2 (marksF 1 s.length) (marksF (1 + s.length) l.length) ∧ Two w w' v1.ownBlock v2.ownBlock := by
  obtain ⟨a1, c1, rfl⟩ := h.o1.slice
  obtain ⟨a2, c2, rfl⟩ := h.o2.slice
  have hb0 : Below w.heap.size w (w.alloc (.cells #[.int .i64 c, .int .i64 n, .slice a1 s.length c1, .slice a2 l.length c2] 49)) := (Below.refl _ w).alloc (Nat.le_refl _) _
  have HM := hid (markJ B _ _ s l _ hs hl (h.below hb0 (Nat.le_refl _)))
  have HB0 := hid hb0
  clear h hb0
  go_enter Try.func37, Try.ntmps37
  go_wp2_with fail
  refine HM.out.mono ?_
  rintro e w1 ⟨rfl, hj, ht⟩
  have HJ := hid hj
  have HT := hid (ht.pre HB0.out)
  clear hj ht
  go_wp2
  go_ret
  exact ⟨rfl, HJ.out, HT.out⟩
set_option maxRecDepth 100000 in
set_option maxHeartbeats 2000000 in
theorem heldJR (c k : Int) (B : Nat) (v1 v2 : Value) (n m : Nat) (w : World) (hs : n ≤ 1048576) (hl : m ≤ 1048576) (h : Jo w B v1 v2 (marksF 1 n) (marksF (1 + n) m)) :
    Calls Try.prog 38 #[.agg #[.int .i64 c, .int .i64 k, v1, v2], .int .i64 1] w fun e w' => e = .returned (.int .i64 (1 + (n : Int) + (m : Int))) ∧ Below w.heap.size w w' := by
  obtain ⟨a1, c1, hv1⟩ := h.o1.slice
  obtain ⟨a2, c2, hv2⟩ := h.o2.slice
  subst hv1
  subst hv2
  have hb0 : Below w.heap.size w (w.alloc (.cells #[.int .i64 c, .int .i64 k, .slice a1 (marksF 1 n).length c1, .slice a2 (marksF (1 + n) m).length c2] 49)) := (Below.refl _ w).alloc (Nat.le_refl _) _
  have HM := hid (heldJ B _ _ n m _ hs hl (h.below hb0 (Nat.le_refl _)))
  have HB0 := hid hb0
  have q2 : ¬ 1 + (n : Int) + (m : Int) < 0 := by omega
  clear h hb0
  generalize marksF 1 n = ma at *
  generalize marksF (1 + n) m = mb at *
  go_enter Try.func38, Try.ntmps38
  go_wp2_with fail
  refine HM.out.mono ?_
  rintro e w1 ⟨rfl, hb1⟩
  have B1 := HB0.out.trans (hb1.mono HB0.out.size)
  clear hb1
  go_wp2
  go_ret
  exact ⟨rfl, B1⟩
end Jn
end Go.Proofs.Ytiliahibnhfhoaa
