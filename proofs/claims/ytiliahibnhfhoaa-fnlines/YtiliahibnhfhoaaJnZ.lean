/- The answers of chapter 13: journals copied and counted by the specification. No condition. -/
import Derived.Test.YtiliahibnhfhoaaJnY
namespace Go.Proofs.Ytiliahibnhfhoaa
open Go.RowKit
set_option linter.unusedVariables false
namespace Jn
/-- A code, a count, a journal of one's own. -/
def JPost (c : Int) (n : Nat) (s l : List UInt8) (w : World) (e : Ending) (w' : World) : Prop := ∃ a1 k1 a2 k2, e = .returned (.agg #[.int .i64 c, .int .i64 (n : Int), .slice a1 s.length k1, .slice a2 l.length k2]) ∧ Jo w' w.heap.size (.slice a1 s.length k1) (.slice a2 l.length k2) s l ∧ Below w.heap.size w w'
theorem jo_nil (w : World) (B : Nat) : Jo w B (.slice none 0 0) (.slice none 0 0) [] [] := ⟨ob_nil _ _, ob_nil _ _, fun b h => by cases h⟩
theorem jpost_bad {c c' : Int} {n : Nat} {s l : List UInt8} {w w' : World} {e : Ending} (hn : n = 0) (hs : s = []) (hl : l = []) (hc : c' = c) (he : e = .returned (.agg #[.int .i64 c', .int .i64 0, .slice none 0 0, .slice none 0 0])) (hb : Below w.heap.size w w') : JPost c n s l w e w' := by
  subst hn hs hl hc
  exact ⟨none, 0, none, 0, he, jo_nil _ _, hb⟩
theorem Ob.below' {w w' : World} {B C : Nat} {v : Value} {l : List UInt8} (h : Ob w B v l) (hb : Below C w w') (ho : ∀ b, v.ownBlock = some b → b < C) : Ob w' B v l := by
  obtain ⟨h1, h2⟩ := h
  refine ⟨h1, ?_⟩
  rcases h2 with h2 | ⟨g, cap, cur, rfl, a2, a3, a4⟩
  · exact .inl h2
  · exact .inr ⟨g, cap, cur, rfl, a2, by rw [hb.block g (ho g rfl)]; exact a3, a4⟩
theorem jo4 {w : World} {B b : Nat} {v1 v2 a0 a1 a2 a3 : Value} {s l : List UInt8} (h : Jo w B v1 v2 s l) (hb : b < B) : Jo ((((w.setCell ⟨b, 0, none⟩ a0).setCell ⟨b, 1, none⟩ a1).setCell ⟨b, 2, none⟩ a2).setCell ⟨b, 3, none⟩ a3) B v1 v2 s l := (((h.set hb).set hb).set hb).set hb
set_option maxRecDepth 100000 in
set_option maxHeartbeats 8000000 in
theorem specOf (B : Nat) (s l : List UInt8) (v1 v2 : Value) (w : World) (h1 : s.length ≤ 1048576) (h2 : l.length ≤ 1048576) (hB : B ≤ w.heap.size) (ha1 : At w B v1 s) (ha2 : At w B v2 l) :
    Calls Try.prog 65 #[v1, v2] w (JPost 0 (countN s l) s l w) := by
  obtain ⟨a1, c1, rfl, _⟩ := ha1.slice
  obtain ⟨a2, c2, rfl, _⟩ := ha2.slice
  have hb0 : Below w.heap.size w (w.alloc (.cells #[.int .i64 0, .int .i64 0, .slice none 0 0, .slice none 0 0] 49)) := (Below.refl _ w).alloc (Nat.le_refl _) _
  have HL1 := hid (fun w' (hb : Below w.heap.size w w') => specLines B s _ w' h1 (Nat.le_trans hB hb.size) (ha1.below hb hB))
  have HL2 := hid (fun w' (hb : Below w.heap.size w w') => specLines B l _ w' h2 (Nat.le_trans hB hb.size) (ha2.below hb hB))
  have HA1 := hid (fun w' (hb : Below w.heap.size w w') => ha1.below hb hB)
  have HA2 := hid (fun w' (hb : Below w.heap.size w w') => ha2.below hb hB)
  have HB0 := hid hb0
  have hn1 := readL_count s
  have hn2 := readL_count l
  unfold LPost at HL1 HL2
  have HC : Hid ((countN s l : Int) = ((readL s).1.length : Int) + ((readL l).1.length : Int)) := hid (by unfold countN; omega)
  unfold JPost
  rw [HC.out]
  generalize (readL s).2 = n at *
  generalize (readL s).1 = ls at *
  generalize (readL l).2 = m at *
  generalize (readL l).1 = ks at *
  clear hb0 ha1 ha2 HC
  go_enter Try.func65, Try.ntmps65
  go_wp2_with fail
  refine (HL1.out _ HB0.out).mono ?_
  rintro e w1 ⟨a3, c3, rfl, _, hb1⟩
  have B1 := HB0.out.trans (hb1.mono HB0.out.size)
  simp only [World.size_alloc] at hb1
  have p1 : w1.heap[w.heap.size]? = some (.cells #[.int .i64 0, .int .i64 0, .slice none 0 0, .slice none 0 0] 49 (0, 0)) := (hb1.block _ (by omega)).trans (heap_alloc_new w _)
  clear hb1
  go_wp2_with fail
  refine (HL2.out _ B1).mono ?_
  rintro e w2 ⟨a4, c4, rfl, _, hb2⟩
  have B2 := B1.trans (hb2.mono B1.size)
  have p2 := (hb2.block _ (blk_lt p1)).trans p1
  have l2 := blk_lt p2
  have BA : Below w.heap.size w (w2.alloc (.cells #[] 5)) := B2.alloc B2.size _
  have HM := hid (ob_made w2)
  have HX1 := hid (HA1.out _ BA)
  have HP2 := hid p2
  have hBA := hid BA
  have l2s : w2.heap.size < (w2.alloc (.cells #[] 5)).heap.size := by simp
  have hl2s := hid (Nat.le_of_lt l2s)
  clear hb2 p1 B1 B2 BA l2s p2
  go_wp2_with (first
    | (at_builtin; refine wpL _ rfl _ _ rfl w2.heap.size _ [] rfl HM.out _ s _ rfl HX1.out (by simp; omega) hl2s.out ?_; intro p5 a5 c5 w5 hG; have HG5 := hid hG; have hb5 := hG.low HM.out hl2s.out; have B5 := hBA.out.trans (hb5.mono (Nat.le_of_lt l2)); have BB : Below w.heap.size w (w5.alloc (.cells #[] 5)) := B5.alloc B5.size _; have HX2 := hid (HA2.out _ BB); have HM2 := hid (ob_made w5); have hBB := hid BB; have HP5 := hid ((hb5.block _ l2).trans ((Below.heap_alloc w2 (.cells #[] 5) _ l2).trans HP2.out)); have l5 : w2.heap.size ≤ w5.heap.size := (Nat.le_trans hl2s.out hb5.size); have hl5 : Hid (w5.heap.size ≤ (w5.alloc (.cells #[] 5)).heap.size) := hid (by simp); clear hG hb5 B5 BB)
    | (at_builtin; refine wpL _ rfl _ _ rfl w5.heap.size _ [] rfl HM2.out _ l _ rfl HX2.out (by simp; omega) hl5.out ?_; intro p6 a6 c6 w6 hG2; have HG6 := hid hG2; have hb6 := hG2.low HM2.out hl5.out; have HP6 := hid ((hb6.block _ (Nat.lt_of_lt_of_le l2 l5)).trans ((Below.heap_alloc w5 (.cells #[] 5) _ (Nat.lt_of_lt_of_le l2 l5)).trans HP5.out)); have B6 := hid (hBB.out.trans (hb6.mono (Nat.le_trans (Nat.le_of_lt l2) l5))); have O5 : Hid (Ob w6 w2.heap.size (.slice a5 p5.length c5) p5) := hid ((HG5.out.own.below ((Below.refl w5.heap.size w5).alloc (Nat.le_refl _) (.cells #[] 5)) (Nat.le_refl _)).below' hb6 (fun b x => (HG5.out.own.lt b x).2)); have t0 := blk_cell HP6.out (o := 0) (v := .int .i64 0) rfl; have t1 := blk_cell HP6.out (o := 1) (v := .int .i64 0) rfl; have t2 := blk_cell HP6.out (o := 2) (v := .slice none 0 0) rfl; have t3 := blk_cell HP6.out (o := 3) (v := .slice none 0 0) rfl; have f0 := blk_free (o := 0) HP6.out; have f1 := blk_free (o := 1) HP6.out; have f2 := blk_free (o := 2) HP6.out; have f3 := blk_free (o := 3) HP6.out; clear hG2 hb6))
  have e5 : p5 = s := HG5.out.eq
  have e6 : p6 = l := HG6.out.eq
  subst e5
  subst e6
  have HD : Hid (∀ b, (Value.slice a5 p5.length c5).ownBlock = some b → (Value.slice a6 p6.length c6).ownBlock ≠ some b) := hid (fun b x y => by
    have h1 := (HG5.out.own.lt b x).2
    have h2 := (HG6.out.own.lt b y).1
    omega)
  have HJ : Hid (Jo w6 w2.heap.size (.slice a5 p5.length c5) (.slice a6 p6.length c6) p5 p6) := hid ⟨O5.out, ob_mono HG6.out.own l5, HD.out⟩
  exact bodyPost_ret (results_cell_row Try.results65 _ _ w.heap.size 49 #[.int .i64 0, .int .i64 ((ls.length : Int) + (ks.length : Int)), .slice a5 p5.length c5, .slice a6 p6.length c6] (0, 0) _ rfl (set4 HP6.out _ _ _ _) Try.underlying49 rfl info4) rfl ⟨a5, c5, a6, c6, rfl, (jo4 HJ.out l2).mono (by omega), below4 B6.out (Nat.le_refl _) _ _ _ _⟩
end Jn
end Go.Proofs.Ytiliahibnhfhoaa
