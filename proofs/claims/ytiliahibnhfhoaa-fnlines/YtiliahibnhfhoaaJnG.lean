/- A code and a row of bytes: compared, marked, held; what a law keeps between its calls. No condition. -/
import Derived.Test.YtiliahibnhfhoaaJnF
namespace Go.Proofs.Ytiliahibnhfhoaa
open Go.RowKit
set_option linter.unusedVariables false
namespace Jn
theorem blk_cell {w : World} {b o : Nat} {cs : Array Value} {t : TypeId} {v : Value} (h : w.heap[b]? = some (.cells cs t (0, 0))) (hv : cs[o]? = some v) : w.cell? ⟨b, o, none⟩ = some v := by
  simp only [World.cell?, h]
  exact hv
theorem blk_lt {w : World} {b : Nat} {x : Obj} (h : w.heap[b]? = some x) : b < w.heap.size := by
  rcases Nat.lt_or_ge b w.heap.size with h1 | h1
  · exact h1
  · rw [Array.getElem?_eq_none h1] at h; cases h
/-- What a law keeps between its calls: the two answers' variables, and what holds of their rows. -/
structure Inv (w wc : World) (T : TypeId) (n0 n1 : Nat) (C0 C1 : Array Value) (P : World → Prop) : Prop where
  st : Below w.heap.size w wc
  b0 : wc.heap[n0]? = some (.cells C0 T (0, 0))
  b1 : wc.heap[n1]? = some (.cells C1 T (0, 0))
  p : P wc
  kp : ∀ x y, P x → Below x.heap.size x y → P y
theorem Inv.below {w wc w' : World} {T : TypeId} {n0 n1 : Nat} {C0 C1 : Array Value} {P : World → Prop} (h : Inv w wc T n0 n1 C0 C1 P) (hb : Below wc.heap.size wc w') : Inv w w' T n0 n1 C0 C1 P :=
  ⟨h.st.trans (hb.mono h.st.size), by rw [hb.block n0 (blk_lt h.b0)]; exact h.b0, by rw [hb.block n1 (blk_lt h.b1)]; exact h.b1, h.kp _ _ h.p hb, h.kp⟩
theorem Inv.size {w wc : World} {T : TypeId} {n0 n1 : Nat} {C0 C1 : Array Value} {P : World → Prop} (h : Inv w wc T n0 n1 C0 C1 P) : w.heap.size ≤ wc.heap.size := h.st.size
set_option maxRecDepth 100000 in
set_option maxHeartbeats 1000000 in
theorem eqR (c : Int) (v1 v2 : Value) (xs : List UInt8) (w : World) (hn : xs.length ≤ 1048576) (h1 : At w w.heap.size v1 xs) (h2 : At w w.heap.size v2 xs) :
    Calls Try.prog 17 #[.agg #[.int .i64 c, v1], .agg #[.int .i64 c, v2]] w fun e w' => e = .returned (.bool true) ∧ Below w.heap.size w w' := by
  obtain ⟨a1, c1, rfl, _⟩ := h1.slice
  obtain ⟨a2, c2, rfl, _⟩ := h2.slice
  have H1 := hid h1
  have H2 := hid h2
  clear h1 h2
  have hb : (c != c) = false := by simp
  go_enter Try.func17, Try.ntmps17
  go_wp2_with fail
  have hB : Below w.heap.size w ((w.alloc (.cells #[.int .i64 c, .slice a1 xs.length c1] 26)).alloc (.cells #[.int .i64 c, .slice a2 xs.length c2] 26)) := ((Below.refl _ w).alloc (Nat.le_refl _) _).alloc (by simp) _
  refine (eqS w.heap.size _ _ xs _ hn (H1.out.below hB (Nat.le_refl _)) (H2.out.below hB (Nat.le_refl _)) hB.size).mono ?_
  rintro e w1 ⟨rfl, hb1⟩
  go_wp2
  go_ret
  exact ⟨rfl, hB.trans (hb1.mono (by simp; omega))⟩
set_option maxRecDepth 100000 in
set_option maxHeartbeats 1000000 in
theorem markR (c : Int) (B : Nat) (v : Value) (xs : List UInt8) (w : World) (hn : xs.length ≤ 1048576) (h : Ob w B v xs) :
    Calls Try.prog 18 #[.agg #[.int .i64 c, v], .int .i64 1] w fun e w' => e = .returned (.int .i64 (1 + (xs.length : Int))) ∧ Ob w' B v (marksF 1 xs.length) ∧ w.grownBy w' v.ownBlock := by
  obtain ⟨a, cap, rfl⟩ := h.slice
  have HM := hid (markS B (.slice a xs.length cap) xs 1 (w.alloc (.cells #[.int .i64 c, .slice a xs.length cap] 26)) hn (by omega) (World.ownsRow.alloc h _))
  change Hid (Calls Try.prog 25 #[.slice a xs.length cap, .int .i64 1] _ fun e w' => e = .returned (.int .i64 (1 + (xs.length : Int))) ∧ _) at HM
  clear h
  go_enter Try.func18, Try.ntmps18
  go_wp2_with fail
  refine HM.out.mono ?_
  rintro e w1 ⟨rfl, ho, hg⟩
  have hg2 : w.grownBy w1 (Value.slice a xs.length cap).ownBlock := grown_after (World.grownBy_alloc w _ _) hg
  have HO1 := hid ho
  clear ho
  go_wp2
  go_ret
  exact ⟨rfl, HO1.out, hg2⟩
set_option maxRecDepth 100000 in
set_option maxHeartbeats 1000000 in
theorem heldR (c : Int) (v : Value) (n : Nat) (w : World) (hn : n ≤ 1048576) (h : At w w.heap.size v (marksF 1 n)) :
    Calls Try.prog 19 #[.agg #[.int .i64 c, v], .int .i64 1] w fun e w' => e = .returned (.int .i64 (1 + (n : Int))) ∧ Below w.heap.size w w' := by
  obtain ⟨a, cap, rfl, _⟩ := h.slice
  have hB : Below w.heap.size w (w.alloc (.cells #[.int .i64 c, .slice a (marksF 1 n).length cap] 26)) := (Below.refl _ w).alloc (Nat.le_refl _) _
  have HM := hid (heldS w.heap.size _ n 1 _ hn (by omega) (h.below hB (Nat.le_refl _)))
  change Hid (Calls Try.prog 54 #[.slice a (marksF 1 n).length cap, .int .i64 1] _ fun e w' => e = .returned (.int .i64 (1 + (n : Int))) ∧ _) at HM
  clear h
  have q0 : ¬ (1 + (n : Int)) < 0 := by omega
  go_enter Try.func19, Try.ntmps19
  go_wp2_with fail
  refine HM.out.mono ?_
  rintro e w1 ⟨rfl, hw⟩
  replace hw := hw.symm
  subst hw
  go_wp2
  go_ret
  exact ⟨rfl, hB⟩
theorem Ob.kept {w w' : World} {B : Nat} {v : Value} {l : List UInt8} {row : Option Nat} (h : Ob w B v l) (hg : w.grownBy w' row) (hne : ∀ b, v.ownBlock = some b → row ≠ some b) : Ob w' B v l := by
  refine ⟨h.1, ?_⟩
  rcases h.2 with hn | ⟨g, cap, cur, rfl, hbg, hgg, rest⟩
  · exact .inl hn
  · exact .inr ⟨g, cap, cur, rfl, hbg, by rw [hg.block g (Array.getElem?_eq_some_iff.1 hgg).1 (fun e => hne g rfl e.symm)]; exact hgg, rest⟩
theorem At.kept {w w' : World} {B : Nat} {v : Value} {l : List UInt8} {row : Option Nat} (h : At w B v l) (hg : w.grownBy w' row) (hB : B ≤ w.heap.size) (hne : ∀ b, row = some b → B ≤ b) : At w' B v l :=
  h.keep fun g hgB => hg.block g (by omega) (fun e => by have := hne g e.symm; omega)
/-- The rows of two answers: one is only read, the other one is marked. -/
def P2 (n B : Nat) (v0 : Value) (l0 : List UInt8) (v1 : Value) (l1 : List UInt8) (x : World) : Prop := At x n v0 l0 ∧ n ≤ x.heap.size ∧ Ob x B v1 l1
theorem P2.kp {n B : Nat} {v0 v1 : Value} {l0 l1 : List UInt8} : ∀ x y, P2 n B v0 l0 v1 l1 x → Below x.heap.size x y → P2 n B v0 l0 v1 l1 y :=
  fun x y ⟨h1, h2, h3⟩ hb => ⟨h1.below hb h2, Nat.le_trans h2 hb.size, h3.below hb (Nat.le_refl _)⟩
theorem Inv.mark {w wc w4 : World} {T : TypeId} {n0 n1 n B : Nat} {C0 C1 : Array Value} {v0 v1 : Value} {l0 l1 l2 : List UInt8} (h : Inv w wc T n0 n1 C0 C1 (P2 n B v0 l0 v1 l1)) (hg : wc.grownBy w4 v1.ownBlock) (ho : Ob w4 B v1 l2)
    (hb : ∀ b, v1.ownBlock = some b → B ≤ b ∧ b < n1) (h0 : n0 < B) (hn : n ≤ B) (hw : w.heap.size ≤ B) : Inv w w4 T n0 n1 C0 C1 (P2 n B v0 l0 v1 l2) := by
  have hne : ∀ k, (k < B ∨ n1 ≤ k) → some k ≠ v1.ownBlock := fun k hk e => by have := hb k e.symm; omega
  exact ⟨h.st.trans ⟨hg.os, hg.tape, hg.output, hg.size, fun k hk => hg.block k (Nat.lt_of_lt_of_le hk h.st.size) (hne k (.inl (by omega)))⟩,
    by rw [hg.block n0 (blk_lt h.b0) (hne n0 (.inl h0))]; exact h.b0, by rw [hg.block n1 (blk_lt h.b1) (hne n1 (.inr (Nat.le_refl _)))]; exact h.b1,
    ⟨h.p.1.kept hg h.p.2.1 (fun b e => by have := hb b e; omega), Nat.le_trans h.p.2.1 hg.size, ho⟩, P2.kp⟩
end Jn
end Go.Proofs.Ytiliahibnhfhoaa
