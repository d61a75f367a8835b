/- Appends in regions that draw their order; what the three functions that turn a journal answer. No condition. -/
import Derived.Test.YtiliahibnhfhoaaJnZ
import Derived.Deep.RegionHeld3
namespace Go.Proofs.Ytiliahibnhfhoaa
open Go.RowKit
set_option linter.unusedVariables false
namespace Jn
theorem stepL (w : World) {ops : Array Oper} {o : Oper} {a : Act} {K : Act → World → Prop} {Q : Exit → Act → World → Prop} {E : Prop} (hgd : o.guard = none) (s x : Operand)
    (ho : o.op = .call { callee := .builtin .append, args := #[s, x], argTypes := #[24, 24] })
    (base : Nat) (v : Value) (l1 : List UInt8) (hs : a.eval s = v) (hown : Ob w base v l1) (xv : Value) (l2 : List UInt8) (B : Nat) (hx : a.eval x = xv) (hr : At w B xv l2)
    (hz : l1.length + l2.length ≤ 4194304) (hbase : base ≤ w.heap.size)
    (h : ∀ l a' c' w', Grown w base v l1 l2 (.slice a' l.length c') l w' → K (a.put o.dst (.slice a' l.length c')) w') :
    if Region.wanted o (yielded ops a.tmps) = true then Oper.wp Try.prog o a w K Q else E := by
  obtain ⟨i, hi, hi1, hi2, hi3⟩ := info_eq info8
  refine Ap.step_any w hgd s x 24 ho base 5 i (.int .u8 0) 1 1 Try.underlying24 hi hi1 hi2 hi3 rfl (by decide) v l1.length (vbs l1) hs hown xv l2.length (vbs l2) hx (row_at hr) (by unfold maxLen; omega) (by omega) hbase _ rfl ?_
  intro a' c' w' h1 h2 h3
  have e : l1.length + l2.length = (l1 ++ l2).length := List.length_append.symm
  rw [e]
  rw [e] at h1 h3
  exact h (l1 ++ l2) a' c' w' ⟨rfl, by unfold Ob; rw [vbs_app]; exact h1, h2, h3⟩
def okN (c : Int) (n : Nat) : Nat := if c = 0 then n else 0
def okL (c : Int) (l : List UInt8) : List UInt8 := if c = 0 then l else []
theorem ok_no {c : Int} (h : c ≠ 0) (n : Nat) (l : List UInt8) : okN c n = 0 ∧ okL c l = [] := by unfold okN okL; rw [if_neg h, if_neg h]; exact ⟨rfl, rfl⟩
theorem ok_so {c : Int} (h : c = 0) (n : Nat) (l : List UInt8) : okN c n = n ∧ okL c l = l := by unfold okN okL; rw [if_pos h, if_pos h]; exact ⟨rfl, rfl⟩
theorem jpost_no {c : Int} {n : Nat} {s l : List UInt8} {w w' : World} {e : Ending} (h : c ≠ 0) (he : e = .returned (.agg #[.int .i64 c, .int .i64 0, .slice none 0 0, .slice none 0 0])) (hb : Below w.heap.size w w') : JPost c (okN c n) (okL c s) (okL c l) w e w' :=
  jpost_bad (ok_no h n s).1 (ok_no h n s).2 (ok_no h n l).2 rfl he hb
/-- Codes of the three. -/
def aC (s l x : List UInt8) : Int := if jF s l = 0 then (if faultC x = 0 then (if 2400 < s.length + (l.length + (x.length + 3)) then 2 else 0) else faultC x) else jF s l
def kC (s l : List UInt8) (k : Int) : Int := if jF s l = 0 then (if 0 ≤ k ∧ k ≤ (l.length : Int) then 0 else 3) else jF s l
def cutL (s l : List UInt8) (k : Int) : List UInt8 := (s ++ l.take k.toNat).take (readL (s ++ l.take k.toNat)).2
theorem aC_1 {s l x : List UInt8} (h : jF s l ≠ 0) : aC s l x = jF s l := by unfold aC; rw [if_neg h]
theorem aC_2 {s l x : List UInt8} (h : jF s l = 0) (h2 : faultC x ≠ 0) : aC s l x = faultC x := by unfold aC; rw [if_pos h, if_neg h2]
theorem aC_3 {s l x : List UInt8} (h : jF s l = 0) (h2 : faultC x = 0) (h3 : 2400 < s.length + (l.length + (x.length + 3))) : aC s l x = 2 := by unfold aC; rw [if_pos h, if_pos h2, if_pos h3]
theorem aC_4 {s l x : List UInt8} (h : jF s l = 0) (h2 : faultC x = 0) (h3 : ¬ 2400 < s.length + (l.length + (x.length + 3))) : aC s l x = 0 := by unfold aC; rw [if_pos h, if_pos h2, if_neg h3]
theorem kC_1 {s l : List UInt8} {k : Int} (h : jF s l ≠ 0) : kC s l k = jF s l := by unfold kC; rw [if_neg h]
theorem kC_2 {s l : List UInt8} {k : Int} (h : jF s l = 0) (h2 : ¬ (0 ≤ k ∧ k ≤ (l.length : Int))) : kC s l k = 3 := by unfold kC; rw [if_pos h, if_neg h2]
theorem kC_3 {s l : List UInt8} {k : Int} (h : jF s l = 0) (h2 : 0 ≤ k ∧ k ≤ (l.length : Int)) : kC s l k = 0 := by unfold kC; rw [if_pos h, if_pos h2]
def SYPost (s l : List UInt8) := JPost (jF s l) (okN (jF s l) (countN (s ++ l) [])) (okL (jF s l) (s ++ l)) (okL (jF s l) [])
def APPost (s l x : List UInt8) := JPost (aC s l x) (okN (aC s l x) (countN s (l ++ packL x))) (okL (aC s l x) s) (okL (aC s l x) (l ++ packL x))
def CRPost (s l : List UInt8) (k : Int) := JPost (kC s l k) (okN (kC s l k) (countN (cutL s l k) [])) (okL (kC s l k) (cutL s l k)) (okL (kC s l k) [])
/-- The two blocks that each of them lays first. -/
theorem two_blocks (w : World) (X Y : Array Value) (T U : TypeId) : Below w.heap.size w ((w.alloc (.cells X T)).alloc (.cells Y U)) ∧ ((w.alloc (.cells X T)).alloc (.cells Y U)).heap[w.heap.size]? = some (.cells X T (0, 0)) ∧ ((w.alloc (.cells X T)).alloc (.cells Y U)).heap[w.heap.size + 1]? = some (.cells Y U (0, 0)) ∧ ((w.alloc (.cells X T)).alloc (.cells Y U)).heap.size = w.heap.size + 1 + 1 :=
  ⟨((Below.refl _ w).alloc (Nat.le_refl _) _).alloc (by simp) _, (Below.heap_alloc _ _ _ (by simp)).trans (heap_alloc_new w _), by have := heap_alloc_new (w.alloc (.cells X T)) (.cells Y U); simpa using this, by simp⟩
theorem keepS {w w1 wn : World} {g : Nat} {x : Option Obj} (h1 : Below w.heap.size w w1) (h2 : w1.heap[g]? = x) (hg : g < w1.heap.size) (hb : Below w1.heap.size w1 wn) : Below w.heap.size w wn ∧ wn.heap[g]? = x :=
  ⟨h1.trans (hb.mono h1.size), (hb.block g hg).trans h2⟩
theorem heap4 {w : World} {b g : Nat} (hg : g ≠ b) (a0 a1 a2 a3 : Value) : ((((w.setCell ⟨b, 0, none⟩ a0).setCell ⟨b, 1, none⟩ a1).setCell ⟨b, 2, none⟩ a2).setCell ⟨b, 3, none⟩ a3).heap[g]? = w.heap[g]? := by
  rw [Below.heap_setCell _ _ _ _ hg, Below.heap_setCell _ _ _ _ hg, Below.heap_setCell _ _ _ _ hg, Below.heap_setCell _ _ _ _ hg]
theorem keep4 {w wn : World} {b g : Nat} {x : Option Obj} (h : Below w.heap.size w wn ∧ wn.heap[g]? = x) (hb : w.heap.size ≤ b) (hg : g ≠ b) (a0 a1 a2 a3 : Value) : Below w.heap.size w ((((wn.setCell ⟨b, 0, none⟩ a0).setCell ⟨b, 1, none⟩ a1).setCell ⟨b, 2, none⟩ a2).setCell ⟨b, 3, none⟩ a3) ∧ ((((wn.setCell ⟨b, 0, none⟩ a0).setCell ⟨b, 1, none⟩ a1).setCell ⟨b, 2, none⟩ a2).setCell ⟨b, 3, none⟩ a3).heap[g]? = x :=
  ⟨below4 h.1 hb _ _ _ _, (heap4 hg _ _ _ _).trans h.2⟩
theorem retJ {c c' : Int} {n n' : Int} {a b a' b' : Value} (h1 : c = c') (h2 : n = n') (h3 : a = a') (h4 : b = b') : Ending.returned (.agg #[.int .i64 c, .int .i64 n, a, b]) = .returned (.agg #[.int .i64 c', .int .i64 n', a', b']) := by rw [h1, h2, h3, h4]
theorem jpost_so {c : Int} {n : Nat} {s l : List UInt8} {w w' : World} {e : Ending} {a1 a2 : Option Addr} {k1 k2 : Nat} (h : c = 0) (he : e = .returned (.agg #[.int .i64 0, .int .i64 (n : Int), .slice a1 s.length k1, .slice a2 l.length k2])) (hj : Jo w' w.heap.size (.slice a1 s.length k1) (.slice a2 l.length k2) s l) (hb : Below w.heap.size w w') : JPost c (okN c n) (okL c s) (okL c l) w e w' := by
  obtain ⟨e1, e2⟩ := ok_so h n s
  obtain ⟨_, e3⟩ := ok_so h n l
  rw [e1, e2, e3]
  subst h
  exact ⟨a1, k1, a2, k2, he, hj, hb⟩
end Jn
end Go.Proofs.Ytiliahibnhfhoaa
