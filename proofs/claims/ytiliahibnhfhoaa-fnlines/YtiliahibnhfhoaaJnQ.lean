/- ReadLines of the specification. No condition. -/
import Derived.Test.YtiliahibnhfhoaaJnP
import Derived.OneCell
namespace Go.Proofs.Ytiliahibnhfhoaa
open Go.RowKit
set_option linter.unusedVariables false
namespace Jn
theorem blk_free {w : World} {b o : Nat} {cs : Array Value} {t : TypeId} (h : w.heap[b]? = some (.cells cs t (0, 0))) : w.frozen? ⟨b, o, none⟩ = false := by
  simp only [World.frozen?, h]
  simp
theorem blk_set {w : World} {b : Nat} {t : TypeId} {cs : Array Value} (h : w.heap[b]? = some (.cells cs t (0, 0))) (o : Nat) (u : Value) (hu : u.oneCell' = true) (ho : o < cs.size) : (w.setCell ⟨b, o, none⟩ u).heap[b]? = some (.cells (cs.setIfInBounds o u) t (0, 0)) := by
  simp [World.setCell, Array.getElem?_modify, h]
set_option maxRecDepth 100000 in
set_option maxHeartbeats 8000000 in
theorem specRead (B : Nat) (d : List UInt8) (v : Value) (w : World) (hd : d.length ≤ 1048576) (hB : B ≤ w.heap.size) (ha : At w B v d) : Calls Try.prog 20 #[v] w (QPost d w) := by
  obtain ⟨a, c, rfl, hc⟩ := ha.slice
  have hb0 : Below w.heap.size w (w.alloc (.cells #[.int .i64 0, .bool false, .slice none 0 0] 32)) := (Below.refl _ w).alloc (Nat.le_refl _) _
  have HA := hid ha
  clear ha
  obtain ⟨R, hR⟩ : ∃ R, Hid (R = QPost d w) := ⟨_, hid rfl⟩
  rw [← hR.out]
  by_cases h0 : 2400 < d.length
  · have q1 : (2400 : Int) < (d.length : Int) := by omega
    have HX := hid h0
    clear h0 hb0
    go_enter Try.func20, Try.ntmps20
    go_wp2
    refine bodyPost_ret (v := .agg #[.int .i64 2, .bool false, .slice none 0 0]) (by simp [results, Try.results20, go_sem]) rfl ?_
    rw [hR.out]
    exact qpost_many HX.out rfl ((Below.refl _ w).alloc (Nat.le_refl _) _)
  · have q1 : ¬ (2400 : Int) < (d.length : Int) := by omega
    have HX := hid h0
    have HL := hid (specLines B d _ _ hd (Nat.le_trans hB hb0.size) (HA.out.below hb0 hB))
    have HB0 := hid hb0
    have hrl := readL_le d
    obtain ⟨ls, hls⟩ : ∃ ls, Hid (ls = (readL d).1) := ⟨_, hid rfl⟩
    obtain ⟨n, hn⟩ : ∃ n, Hid (n = (readL d).2) := ⟨_, hid rfl⟩
    have HBC : Hid (brokenC d = hasB (d.drop (n + 1))) := hid (by rw [hn.out]; rfl)
    have HDL : Hid ((d.drop (n + 1)).length = d.length - (n + 1)) := hid (List.length_drop ..)
    have HDD : Hid (∀ j, (d.drop (n + 1)).drop j = d.drop (n + 1 + j)) := hid (fun j => List.drop_drop ..)
    generalize d.drop (n + 1) = e at *
    unfold LPost at HL
    rw [← hls.out, ← hn.out] at HL
    rw [← hn.out] at hrl
    clear h0 hb0
    go_enter Try.func20, Try.ntmps20
    go_wp2_with fail
    refine HL.out.mono ?_
    rintro z w1 ⟨a1, c1, rfl, ho, hb1⟩
    simp only [World.size_alloc] at hb1 ho
    have hk0 : w1.heap[w.heap.size]? = some (.cells #[.int .i64 0, .bool false, .slice none 0 0] 32 (0, 0)) := (hb1.block _ (by omega)).trans (heap_alloc_new w _)
    have l1 : w.heap.size < w1.heap.size := by have := hb1.size; simp at this; omega
    have B1 := HB0.out.trans (hb1.mono (by omega))
    have HK0 := hid hk0
    have HO := hid ho
    have HB1 : Hid (Below w.heap.size w (w1.alloc (.cells #[.int .i64 0, .bool false, .slice a1 ls.length c1] 32))) := hid (B1.alloc B1.size _)
    have HK1 : Hid ((w1.alloc (.cells #[.int .i64 0, .bool false, .slice a1 ls.length c1] 32)).heap[w.heap.size]? = some (.cells #[.int .i64 0, .bool false, .slice none 0 0] 32 (0, 0))) := hid ((Below.heap_alloc _ _ _ l1).trans hk0)
    have HO1 : Hid (Os (w1.alloc (.cells #[.int .i64 0, .bool false, .slice a1 ls.length c1] 32)) (w.heap.size + 1) (.slice a1 ls.length c1) ls) := hid (ho.below ((Below.refl _ w1).alloc (Nat.le_refl _) _) (Nat.le_refl _))
    have HOL : Hid (∀ b, (Value.slice a1 ls.length c1).ownBlock = some b → b < w1.heap.size) := hid (fun b hb => (ho.lt b hb).2)
    clear ho hb1 hk0 B1
    go_wp2
    go_loopw [6] (fun q wr => ∃ (j : Nat) (b : Bool), q = .int .i64 ((n : Int) + 1 + (j : Int)) ∧ j ≤ e.length ∧ Hid (b = hasTo e j) ∧ Hid (Below w.heap.size w wr) ∧ w1.heap.size < wr.heap.size ∧ Hid (wr.heap[w.heap.size]? = some (.cells #[.int .i64 0, .bool false, .slice none 0 0] 32 (0, 0))) ∧ Hid (wr.heap[w1.heap.size]? = some (.cells #[.int .i64 0, .bool b, .slice a1 ls.length c1] 32 (0, 0))) ∧ Hid (Os wr (w.heap.size + 1) (.slice a1 ls.length c1) ls)) (fun q _ => d.length + 1 - (intOf q).toNat)
    case atStart => exact ⟨0, false, by simp, Nat.zero_le _, hid rfl, HB1, by simp, HK1, hid (heap_alloc_new w1 _), HO1⟩
    case round =>
      obtain ⟨j, b, rfl, hj, HT, HBR, hlr, HKW, HKV, HOR⟩ := hrel
      have p0 := blk_cell HKV.out (o := 0) (v := .int .i64 0) rfl
      have p1 := blk_cell HKV.out (o := 1) (v := .bool b) rfl
      have p2 := blk_cell HKV.out (o := 2) (v := .slice a1 ls.length c1) rfl
      have hjl : j ≤ d.length - (n + 1) := by rw [← HDL.out]; exact hj
      by_cases hlt : n + 1 + j < d.length
      · have q2 : (n : Int) + 1 + (j : Int) < (d.length : Int) := by omega
        cases b with
        | true =>
          have HBX : Hid (true = brokenC d) := hid (by rw [HBC.out]; exact (hasTo_mono hj HT.out.symm).symm)
          clear hlt
          have r0 := blk_cell HKW.out (o := 0) (v := .int .i64 0) rfl
          have r1 := blk_cell HKW.out (o := 1) (v := .bool false) rfl
          have r2 := blk_cell HKW.out (o := 2) (v := .slice none 0 0) rfl
          have f0 := blk_free (o := 0) HKW.out
          have f1 := blk_free (o := 1) HKW.out
          have f2 := blk_free (o := 2) HKW.out
          have lr := blk_lt HKW.out
          go_wp2
          refine bodyPost_ret (v := .agg #[.int .i64 0, .bool true, .slice a1 ls.length c1]) (by simp [results, Try.results20, go_sem, r0, r1, r2]) rfl ?_
          rw [hR.out]
          exact qpost_ok HX.out hls.out HBX.out rfl (os_mono (os_set (os_set (os_set HOR.out (by omega)) (by omega)) (by omega)) (by omega)) (setB (setB (setB HBR.out (Nat.le_refl _) _) (Nat.le_refl _) _) (Nat.le_refl _) _)
        | false =>
          obtain ⟨a6, c6, hsl, hat⟩ := (HA.out.below HBR.out hB).from (n + 1 + j) (by omega)
          have hsl2 : ∀ w' : World, Sem.run Try.prog (Instr.slice 24 (.slice a d.length c) (some (.int .i64 ((n : Int) + 1 + (j : Int)))) none none) w' = .ok (.slice a6 (d.length - (n + 1 + j)) c6) w' := fun w' => by
            have := hsl w'
            rw [show ((n + 1 + j : Nat) : Int) = (n : Int) + 1 + (j : Int) by omega] at this
            exact this
          have HPA := hid (specOne B (d.drop (n + 1 + j)) _ wr (by rw [List.length_drop]; omega) (Nat.le_trans hB HBR.out.size) hat)
          have HS : Hid (hasTo e (j + 1) = (hasTo e j || decide (0 < oneN (d.drop (n + 1 + j))))) := hid (by rw [hasTo_succ, HDD.out])
          unfold OPost at HPA
          generalize oneN (d.drop (n + 1 + j)) = m at *
          generalize oneS (d.drop (n + 1 + j)) = z at *
          have hjl2 : j + 1 ≤ e.length := by rw [HDL.out]; omega
          have HJ2 := hid hjl2
          clear hsl hat hjl2
          go_wp2_with fail
          refine HPA.out.mono ?_
          rintro y w2 ⟨rfl, hb2⟩
          have HKW2 : Hid (w2.heap[w.heap.size]? = _) := hid ((hb2.block _ (blk_lt HKW.out)).trans HKW.out)
          have HKV2 : w2.heap[w1.heap.size]? = _ := (hb2.block _ (blk_lt HKV.out)).trans HKV.out
          have g1 := blk_free (o := 1) HKV2
          have t1 := blk_cell HKV2 (o := 1) (v := .bool false) rfl
          have B2 := HBR.out.trans (hb2.mono HBR.out.size)
          have HO2 := HOR.out.below hb2 (Nat.le_refl _)
          have hs2 := hb2.size
          have hl1w : w.heap.size ≤ w1.heap.size := by omega
          have HB3 : ∀ x, Hid (Below w.heap.size w (w2.setCell ⟨w1.heap.size, 1, none⟩ x)) := fun x => hid (B2.setCell hl1w x)
          have HKW3 : ∀ x, Hid ((w2.setCell ⟨w1.heap.size, 1, none⟩ x).heap[w.heap.size]? = some (.cells #[.int .i64 0, .bool false, .slice none 0 0] 32 (0, 0))) := fun x => hid ((Below.heap_setCell _ _ _ _ (by dsimp only; omega)).trans HKW2.out)
          have HKV3 : ∀ x : Bool, Hid ((w2.setCell ⟨w1.heap.size, 1, none⟩ (.bool x)).heap[w1.heap.size]? = some (.cells #[.int .i64 0, .bool x, .slice a1 ls.length c1] 32 (0, 0))) := fun x => hid (blk_set HKV2 1 (.bool x) rfl (by simp))
          have HO3 : ∀ x, Hid (Os (w2.setCell ⟨w1.heap.size, 1, none⟩ x) (w.heap.size + 1) (.slice a1 ls.length c1) ls) := fun x => hid (by
            have := ownsRow_setCell_other HO2 (a := ⟨w1.heap.size, 1, none⟩) (fun h => by have := HOL.out _ h; dsimp only at this; omega) x
            exact this)
          have HSZ : Hid (∀ x, w1.heap.size < (w2.setCell ⟨w1.heap.size, 1, none⟩ x).heap.size) := hid (fun x => by
            have h : (w2.setCell ⟨w1.heap.size, 1, none⟩ x).heap.size = w2.heap.size := by simp [World.setCell]
            omega)
          have HT2 : Hid (decide (0 < m) = hasTo e (j + 1)) := hid (by rw [HS.out, ← HT.out, Bool.false_or])
          clear hb2 HO2 B2 p0 p1 p2
          go_wp2
          exact ⟨⟨j + 1, decide (0 < m), by simp; omega, HJ2.out, HT2, HB3 _, HSZ.out _, HKW3 _, HKV3 _, HO3 _⟩, by simp [intOf]; omega⟩
      · have q2 : ¬ (n : Int) + 1 + (j : Int) < (d.length : Int) := by omega
        have HBX : Hid (b = brokenC d) := hid (by
          have h1 : j = e.length := by have := HDL.out; omega
          rw [HBC.out, HT.out, h1]
          rfl)
        clear hlt
        have r0 := blk_cell HKW.out (o := 0) (v := .int .i64 0) rfl
        have r1 := blk_cell HKW.out (o := 1) (v := .bool false) rfl
        have r2 := blk_cell HKW.out (o := 2) (v := .slice none 0 0) rfl
        have f0 := blk_free (o := 0) HKW.out
        have f1 := blk_free (o := 1) HKW.out
        have f2 := blk_free (o := 2) HKW.out
        have lr := blk_lt HKW.out
        go_wp2
        refine bodyPost_ret (v := .agg #[.int .i64 0, .bool b, .slice a1 ls.length c1]) (by simp [results, Try.results20, go_sem, r0, r1, r2]) rfl ?_
        rw [hR.out]
        exact qpost_ok HX.out hls.out HBX.out rfl (os_mono (os_set (os_set (os_set HOR.out (by omega)) (by omega)) (by omega)) (by omega)) (setB (setB (setB HBR.out (Nat.le_refl _) _) (Nat.le_refl _) _) (Nat.le_refl _) _)
end Jn
end Go.Proofs.Ytiliahibnhfhoaa
