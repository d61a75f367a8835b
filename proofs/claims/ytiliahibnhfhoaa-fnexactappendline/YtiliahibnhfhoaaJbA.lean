/- Answers of journals: compared, marked, held. No condition. -/
import Derived.Test.YtiliahibnhfhoaaJnV
import Derived.Test.YtiliahibnhfhoaaJnZ
namespace Go.Proofs.Ytiliahibnhfhoaa
open Go.RowKit
set_option linter.unusedVariables false
namespace Jn
/-- Two rows are turned, nothing else. -/
structure Two (w w' : World) (r1 r2 : Option Nat) : Prop where
  os : w'.os = w.os
  tape : w'.tape = w.tape
  output : w'.output = w.output
  size : w.heap.size ≤ w'.heap.size
  block : ∀ k, k < w.heap.size → some k ≠ r1 → some k ≠ r2 → w'.heap[k]? = w.heap[k]?
theorem Two.of {w w1 w2 w3 : World} {r1 r2 : Option Nat} (h1 : w.grownBy w1 r1) (h2 : w1.grownBy w2 r2) (h3 : Below w2.heap.size w2 w3) : Two w w3 r1 r2 :=
  ⟨h3.os.trans (h2.os.trans h1.os), h3.tape.trans (h2.tape.trans h1.tape), h3.output.trans (h2.output.trans h1.output), Nat.le_trans h1.size (Nat.le_trans h2.size h3.size), fun k hk n1 n2 => (h3.block k (Nat.lt_of_lt_of_le hk (Nat.le_trans h1.size h2.size))).trans ((h2.block k (Nat.lt_of_lt_of_le hk h1.size) n2).trans (h1.block k hk n1))⟩
theorem Two.pre {w w1 w2 : World} {r1 r2 : Option Nat} (h : Below w.heap.size w w1) (h2 : Two w1 w2 r1 r2) : Two w w2 r1 r2 :=
  ⟨h2.os.trans h.os, h2.tape.trans h.tape, h2.output.trans h.output, Nat.le_trans h.size h2.size, fun k hk n1 n2 => (h2.block k (Nat.lt_of_lt_of_le hk h.size) n1 n2).trans (h.block k hk)⟩
theorem Ob.two {w w' : World} {B : Nat} {v : Value} {l : List UInt8} {r1 r2 : Option Nat} (h : Ob w B v l) (hg : Two w w' r1 r2) (n1 : ∀ b, v.ownBlock = some b → r1 ≠ some b) (n2 : ∀ b, v.ownBlock = some b → r2 ≠ some b) : Ob w' B v l := by
  refine ⟨h.1, ?_⟩
  rcases h.2 with hn | ⟨g, cap, cur, rfl, hbg, hgg, rest⟩
  · exact .inl hn
  · exact .inr ⟨g, cap, cur, rfl, hbg, by rw [hg.block g (Array.getElem?_eq_some_iff.1 hgg).1 (fun e => n1 g rfl e.symm) (fun e => n2 g rfl e.symm)]; exact hgg, rest⟩
theorem Jo.two {w w' : World} {B : Nat} {v1 v2 : Value} {s l : List UInt8} {r1 r2 : Option Nat} (h : Jo w B v1 v2 s l) (hg : Two w w' r1 r2) (a1 : ∀ b, v1.ownBlock = some b → r1 ≠ some b) (a2 : ∀ b, v1.ownBlock = some b → r2 ≠ some b) (b1 : ∀ b, v2.ownBlock = some b → r1 ≠ some b) (b2 : ∀ b, v2.ownBlock = some b → r2 ≠ some b) : Jo w' B v1 v2 s l := ⟨h.o1.two hg a1 a2, h.o2.two hg b1 b2, h.d⟩
theorem Inw.two {w wc w4 : World} {bs : List (Nat × Array Value × TypeId)} {P P' : World → Prop} {r1 r2 : Option Nat} (h : Inw w wc bs P) (hg : Two wc w4 r1 r2)
    (h1 : ∀ b, r1 = some b → w.heap.size ≤ b ∧ ∀ p ∈ bs, b ≠ p.1) (h2 : ∀ b, r2 = some b → w.heap.size ≤ b ∧ ∀ p ∈ bs, b ≠ p.1) (hp : P' w4) (kp : ∀ x y, P' x → Below x.heap.size x y → P' y) : Inw w w4 bs P' :=
  ⟨h.st.trans ⟨hg.os, hg.tape, hg.output, hg.size, fun k hk => hg.block k (Nat.lt_of_lt_of_le hk h.st.size) (fun e => by have := (h1 k e.symm).1; omega) (fun e => by have := (h2 k e.symm).1; omega)⟩,
    fun p hp => (hg.block p.1 (blk_lt (h.b p hp)) (fun e => (h1 p.1 e.symm).2 p hp rfl) (fun e => (h2 p.1 e.symm).2 p hp rfl)).trans (h.b p hp), hp, kp⟩
set_option maxRecDepth 100000 in
set_option maxHeartbeats 2000000 in
theorem markJ (B : Nat) (v1 v2 : Value) (s l : List UInt8) (w : World) (hs : s.length ≤ 1048576) (hl : l.length ≤ 1048576) (h : Jo w B v1 v2 s l) :
    Calls Try.prog 36 #[.agg #[v1, v2], .int .i64 1] w fun e w' => e = .returned (.int .i64 (1 + (s.length : Int) + (l.length : Int))) ∧ Jo w' B v1 v2 (marksF 1 s.length) (marksF (1 + s.length) l.length) ∧ Two w w' v1.ownBlock v2.ownBlock := by
  obtain ⟨a1, c1, rfl⟩ := h.o1.slice
  obtain ⟨a2, c2, rfl⟩ := h.o2.slice
  have hb0 : Below w.heap.size w (w.alloc (.cells #[.slice a1 s.length c1, .slice a2 l.length c2] 44)) := (Below.refl _ w).alloc (Nat.le_refl _) _
  have h0 := h.below hb0 (Nat.le_refl _)
  have HM1 := hid (markS B (.slice a1 s.length c1) s 1 _ hs (by omega) h0.o1)
  have HM2 := hid (fun w' ho => markS B (.slice a2 l.length c2) l (1 + s.length) w' hl (by omega) ho)
  change Hid (Calls Try.prog 25 #[.slice a1 s.length c1, .int .i64 1] _ fun e w' => e = .returned (.int .i64 (1 + (s.length : Int))) ∧ _) at HM1
  have e1 : ((1 + s.length : Nat) : Int) = 1 + (s.length : Int) := by omega
  rw [e1] at HM2
  clear e1
  have HD := hid h.d
  have O2 := hid h0.o2
  have hN : Hid ((w.alloc (.cells #[.slice a1 s.length c1, .slice a2 l.length c2] 44)).heap[w.heap.size]? = some (.cells #[.slice a1 s.length c1, .slice a2 l.length c2] 44 (0, 0))) := hid (heap_alloc_new w _)
  have HLT := hid (fun b e => (h.o1.lt b e).2)
  have HB0 := hid hb0
  clear h h0 hb0
  go_enter Try.func36, Try.ntmps36
  go_wp2_with fail
  refine HM1.out.mono ?_
  rintro e w1 ⟨rfl, ho1, hg1⟩
  have hk := (hg1.block w.heap.size (by simp) (fun e => by have := HLT.out _ e.symm; omega)).trans hN.out
  have r1 := blk_cell hk (o := 1) (v := .slice a2 l.length c2) rfl
  have O21 := hid (O2.out.kept hg1 (fun b e1 e2 => HD.out b e2 e1))
  have HO1 := hid ho1
  have HG1 := hid hg1
  clear hk ho1 hg1
  go_wp2_with fail
  refine (HM2.out _ O21.out).mono ?_
  rintro e w2 ⟨rfl, ho2, hg2⟩
  have HJ : Hid (Jo w2 B (.slice a1 s.length c1) (.slice a2 l.length c2) (marksF 1 s.length) (marksF (1 + s.length) l.length)) := hid ⟨HO1.out.kept hg2 (fun b e1 e2 => HD.out b e1 e2), ho2, HD.out⟩
  have HT := hid ((Two.of HG1.out hg2 (Below.refl _ _)).pre HB0.out)
  clear ho2 hg2
  go_wp2
  go_ret
  exact ⟨rfl, HJ.out, HT.out⟩
set_option maxRecDepth 100000 in
set_option maxHeartbeats 2000000 in
theorem heldJ (B : Nat) (v1 v2 : Value) (n m : Nat) (w : World) (hs : n ≤ 1048576) (hl : m ≤ 1048576) (h : Jo w B v1 v2 (marksF 1 n) (marksF (1 + n) m)) :
    Calls Try.prog 69 #[.agg #[v1, v2], .int .i64 1] w fun e w' => e = .returned (.int .i64 (1 + (n : Int) + (m : Int))) ∧ Below w.heap.size w w' := by
  obtain ⟨a1, c1, rfl⟩ := h.o1.slice
  obtain ⟨a2, c2, rfl⟩ := h.o2.slice
  rw [marksF_len] at h ⊢
  rw [marksF_len] at h ⊢
  have hb0 : Below w.heap.size w (w.alloc (.cells #[.slice a1 n c1, .slice a2 m c2] 44)) := (Below.refl _ w).alloc (Nat.le_refl _) _
  have h0 := h.below hb0 (Nat.le_refl _)
  have HM1 := hid (heldS _ (.slice a1 n c1) n 1 _ hs (by omega) h0.o1.at)
  have HM2 := hid (heldS _ (.slice a2 m c2) m (1 + n) _ hl (by omega) h0.o2.at)
  change Hid (Calls Try.prog 54 #[.slice a1 n c1, .int .i64 1] _ fun e w' => e = .returned (.int .i64 (1 + (n : Int))) ∧ _) at HM1
  have e1 : ((1 + n : Nat) : Int) = 1 + (n : Int) := by omega
  rw [e1] at HM2
  clear e1 h h0
  have q1 : ¬ 1 + (n : Int) < 0 := by omega
  have q2 : ¬ 1 + (n : Int) + (m : Int) < 0 := by omega
  go_enter Try.func69, Try.ntmps69
  go_wp2_with fail
  refine HM1.out.mono ?_
  rintro e w1 ⟨rfl, hw⟩
  replace hw := hw.symm
  subst hw
  go_wp2_with fail
  refine HM2.out.mono ?_
  rintro e w1 ⟨rfl, hw⟩
  replace hw := hw.symm
  subst hw
  go_wp2
  go_ret
  exact ⟨rfl, hb0⟩
end Jn
end Go.Proofs.Ytiliahibnhfhoaa
