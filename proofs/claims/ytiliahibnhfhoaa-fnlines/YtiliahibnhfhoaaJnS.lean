/- The lines of bytes as an answer: compared, marked, held; what a law keeps between its calls. No condition. -/
import Derived.Test.YtiliahibnhfhoaaJnR
import Derived.Test.YtiliahibnhfhoaaJnQ
namespace Go.Proofs.Ytiliahibnhfhoaa
open Go.RowKit
set_option linter.unusedVariables false
namespace Jn
set_option maxRecDepth 100000 in
set_option maxHeartbeats 1000000 in
theorem eqL (c : Int) (b : Bool) (B1 B2 : Nat) (v1 v2 : Value) (xs : List (List UInt8)) (w : World) (hn : xs.length ≤ 1048576) (h1 : Os w B1 v1 xs) (h2 : Os w B2 v2 xs) :
    Calls Try.prog 23 #[.agg #[.int .i64 c, .bool b, v1], .agg #[.int .i64 c, .bool b, v2]] w fun e w' => e = .returned (.bool true) ∧ Below w.heap.size w w' := by
  obtain ⟨a1, c1, rfl⟩ := h1.slice
  obtain ⟨a2, c2, rfl⟩ := h2.slice
  have H1 := hid h1
  have H2 := hid h2
  clear h1 h2
  have hb : (c != c) = false := by simp
  have hb2 : (b != b) = false := by simp
  have hb3 : (b == b) = true := by simp
  go_enter Try.func23, Try.ntmps23
  go_wp2_with fail
  have hB : Below w.heap.size w ((w.alloc (.cells #[.int .i64 c, .bool b, .slice a1 xs.length c1] 32)).alloc (.cells #[.int .i64 c, .bool b, .slice a2 xs.length c2] 32)) := ((Below.refl _ w).alloc (Nat.le_refl _) _).alloc (by simp) _
  refine (eqT _ _ _ _ xs _ hn (H1.out.below hB (Nat.le_refl _)) (H2.out.below hB (Nat.le_refl _))).mono ?_
  rintro e w1 ⟨rfl, hb1⟩
  go_wp2
  go_ret
  exact ⟨rfl, hB.trans (hb1.mono (by simp; omega))⟩
set_option maxRecDepth 100000 in
set_option maxHeartbeats 1000000 in
theorem markL (c : Int) (b : Bool) (B : Nat) (v : Value) (xs : List (List UInt8)) (w : World) (hn : xs.length ≤ 1048576) (h : Os w B v xs) :
    Calls Try.prog 26 #[.agg #[.int .i64 c, .bool b, v], .int .i64 1] w fun e w' => e = .returned (.int .i64 (1 + (xs.length : Int))) ∧ Os w' B v (marksT 1 xs.length) ∧ w.grownBy w' v.ownBlock := by
  obtain ⟨a, cap, rfl⟩ := h.slice
  have HM := hid (markT B (.slice a xs.length cap) xs 1 (w.alloc (.cells #[.int .i64 c, .bool b, .slice a xs.length cap] 32)) hn (by omega) (by omega) (World.ownsRow.alloc h _))
  change Hid (Calls Try.prog 60 #[.slice a xs.length cap, .int .i64 1] _ fun e w' => e = .returned (.int .i64 (1 + (xs.length : Int))) ∧ _) at HM
  clear h
  go_enter Try.func26, Try.ntmps26
  go_wp2_with fail
  refine HM.out.mono ?_
  rintro e w1 ⟨rfl, ho, hg⟩
  have hg2 : w.grownBy w1 (Value.slice a xs.length cap).ownBlock := grown_after (World.grownBy_alloc w _ _) hg
  have HO1 := hid ho
  clear ho
  go_wp2
  go_ret
  exact ⟨rfl, HO1.out, hg2⟩
set_option maxRecDepth 100000 in
set_option maxHeartbeats 1000000 in
theorem heldL (c : Int) (b : Bool) (B : Nat) (v : Value) (n : Nat) (w : World) (hn : n ≤ 1048576) (h : Os w B v (marksT 1 n)) :
    Calls Try.prog 27 #[.agg #[.int .i64 c, .bool b, v], .int .i64 1] w fun e w' => e = .returned (.int .i64 (1 + (n : Int))) ∧ Below w.heap.size w w' := by
  obtain ⟨a, cap, rfl⟩ := h.slice
  have hB : Below w.heap.size w (w.alloc (.cells #[.int .i64 c, .bool b, .slice a (marksT 1 n).length cap] 32)) := (Below.refl _ w).alloc (Nat.le_refl _) _
  have HM := hid (heldT B _ n 1 _ hn (by omega) (by omega) (h.below hB (Nat.le_refl _)))
  change Hid (Calls Try.prog 61 #[.slice a (marksT 1 n).length cap, .int .i64 1] _ fun e w' => e = .returned (.int .i64 (1 + (n : Int))) ∧ _) at HM
  clear h
  have q0 : ¬ (1 + (n : Int)) < 0 := by omega
  go_enter Try.func27, Try.ntmps27
  go_wp2_with fail
  refine HM.out.mono ?_
  rintro e w1 ⟨rfl, hb1⟩
  have hX := hB.trans (hb1.mono hB.size)
  go_wp2
  go_ret
  exact ⟨rfl, hX⟩
theorem Os.kept {w w' : World} {B : Nat} {v : Value} {l : List (List UInt8)} {row : Option Nat} (h : Os w B v l) (hg : w.grownBy w' row) (hne : ∀ b, v.ownBlock = some b → row ≠ some b) : Os w' B v l := by
  refine ⟨h.1, ?_⟩
  rcases h.2 with hn | ⟨g, cap, cur, rfl, hbg, hgg, rest⟩
  · exact .inl hn
  · exact .inr ⟨g, cap, cur, rfl, hbg, by rw [hg.block g (Array.getElem?_eq_some_iff.1 hgg).1 (fun e => hne g rfl e.symm)]; exact hgg, rest⟩
/-- A row of one's own is turned: all else stays. -/
theorem Inv.turn {w wc w4 : World} {T : TypeId} {n0 n1 : Nat} {C0 C1 : Array Value} {P P' : World → Prop} {row : Option Nat} (h : Inv w wc T n0 n1 C0 C1 P) (hg : wc.grownBy w4 row)
    (hr : ∀ b, row = some b → w.heap.size ≤ b ∧ b ≠ n0 ∧ b ≠ n1) (hp : P' w4) (kp : ∀ x y, P' x → Below x.heap.size x y → P' y) : Inv w w4 T n0 n1 C0 C1 P' :=
  ⟨h.st.trans ⟨hg.os, hg.tape, hg.output, hg.size, fun k hk => hg.block k (Nat.lt_of_lt_of_le hk h.st.size) (fun e => by have := (hr k e.symm).1; omega)⟩,
    by rw [hg.block n0 (blk_lt h.b0) (fun e => (hr n0 e.symm).2.1 rfl)]; exact h.b0, by rw [hg.block n1 (blk_lt h.b1) (fun e => (hr n1 e.symm).2.2 rfl)]; exact h.b1, hp, kp⟩
/-- The rows of two answers, and the copy that was handed in. -/
def P3 (v0 : Value) (l0 : List (List UInt8)) (v1 : Value) (l1 : List (List UInt8)) (v2 : Value) (l2 : List UInt8) (x : World) : Prop := Os x 0 v0 l0 ∧ Os x 0 v1 l1 ∧ Ob x 0 v2 l2
theorem P3.kp {v0 v1 v2 : Value} {l0 l1 : List (List UInt8)} {l2 : List UInt8} : ∀ x y, P3 v0 l0 v1 l1 v2 l2 x → Below x.heap.size x y → P3 v0 l0 v1 l1 v2 l2 y :=
  fun x y ⟨h1, h2, h3⟩ hb => ⟨h1.below hb (Nat.le_refl _), h2.below hb (Nat.le_refl _), h3.below hb (Nat.le_refl _)⟩
end Jn
end Go.Proofs.Ytiliahibnhfhoaa
