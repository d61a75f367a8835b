/- What a law on journals keeps between its calls: variables, and what holds of their rows. No condition. -/
import Derived.Test.YtiliahibnhfhoaaJnU
namespace Go.Proofs.Ytiliahibnhfhoaa
open Go.RowKit
set_option linter.unusedVariables false
namespace Jn
structure Inw (w wc : World) (bs : List (Nat × Array Value × TypeId)) (P : World → Prop) : Prop where
  st : Below w.heap.size w wc
  b : ∀ p ∈ bs, wc.heap[p.1]? = some (.cells p.2.1 p.2.2 (0, 0))
  p : P wc
  kp : ∀ x y, P x → Below x.heap.size x y → P y
theorem Inw.below {w wc w' : World} {bs : List (Nat × Array Value × TypeId)} {P : World → Prop} (h : Inw w wc bs P) (hb : Below wc.heap.size wc w') : Inw w w' bs P :=
  ⟨h.st.trans (hb.mono h.st.size), fun p hp => (hb.block p.1 (blk_lt (h.b p hp))).trans (h.b p hp), h.kp _ _ h.p hb, h.kp⟩
theorem Inw.add {w wc : World} {bs : List (Nat × Array Value × TypeId)} {P : World → Prop} (h : Inw w wc bs P) (C : Array Value) (T : TypeId) : Inw w (wc.alloc (.cells C T)) ((wc.heap.size, C, T) :: bs) P := by
  have hb : Below wc.heap.size wc (wc.alloc (.cells C T)) := (Below.refl _ wc).alloc (Nat.le_refl _) _
  have h2 := h.below hb
  refine ⟨h2.st, fun p hp => ?_, h2.p, h.kp⟩
  rcases List.mem_cons.1 hp with rfl | hp
  · exact heap_alloc_new wc _
  · exact h2.b p hp
theorem Inw.new {w wc : World} {bs : List (Nat × Array Value × TypeId)} {P P' : World → Prop} (h : Inw w wc bs P) (hp : P' wc) (kp : ∀ x y, P' x → Below x.heap.size x y → P' y) : Inw w wc bs P' := ⟨h.st, h.b, hp, kp⟩
theorem Inw.start (w : World) (C : Array Value) (T : TypeId) : Inw w (w.alloc (.cells C T)) [(w.heap.size, C, T)] (fun _ => True) :=
  ⟨(Below.refl _ w).alloc (Nat.le_refl _) _, fun p hp => by rw [List.mem_singleton] at hp; subst hp; exact heap_alloc_new w _, trivial, fun _ _ h _ => h⟩
theorem Inw.turn {w wc w4 : World} {bs : List (Nat × Array Value × TypeId)} {P P' : World → Prop} {row : Option Nat} (h : Inw w wc bs P) (hg : wc.grownBy w4 row)
    (hr : ∀ b, row = some b → w.heap.size ≤ b ∧ ∀ p ∈ bs, b ≠ p.1) (hp : P' w4) (kp : ∀ x y, P' x → Below x.heap.size x y → P' y) : Inw w w4 bs P' :=
  ⟨h.st.trans ⟨hg.os, hg.tape, hg.output, hg.size, fun k hk => hg.block k (Nat.lt_of_lt_of_le hk h.st.size) (fun e => by have := (hr k e.symm).1; omega)⟩,
    fun p hp => (hg.block p.1 (blk_lt (h.b p hp)) (fun e => (hr p.1 e.symm).2 p hp rfl)).trans (h.b p hp), hp, kp⟩
end Jn
end Go.Proofs.Ytiliahibnhfhoaa
