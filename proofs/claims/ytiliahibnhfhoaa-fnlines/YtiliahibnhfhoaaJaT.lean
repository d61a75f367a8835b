/- AppendLine of the specification. No condition. -/
import Derived.Test.YtiliahibnhfhoaaJaS
namespace Go.Proofs.Ytiliahibnhfhoaa
open Go.RowKit
set_option linter.unusedVariables false
namespace Jn
set_option maxRecDepth 100000 in
set_option maxHeartbeats 8000000 in
theorem specAppend (B : Nat) (s l x : List UInt8) (v1 v2 : Value) (w : World) (h1 : s.length ≤ 1048576) (h2 : l.length ≤ 1048576) (h3 : x.length ≤ 1048576) (hB : B ≤ w.heap.size) (ha1 : At w B v1 s) (ha2 : At w B v2 l) :
    Calls Try.prog 33 #[.agg #[v1, v2], .string (str x)] w (APPost s l x w) := by
  obtain ⟨a1, c1, rfl, _⟩ := ha1.slice
  obtain ⟨a2, c2, rfl, _⟩ := ha2.slice
  obtain ⟨hb0, hx0, hx1, hx2⟩ := two_blocks w #[.slice a1 s.length c1, .slice a2 l.length c2] #[.int .i64 0, .int .i64 0, .slice none 0 0, .slice none 0 0] 44 49
  have HA1 := hid (fun w' (hb : Below w.heap.size w w') => ha1.below hb hB)
  have HA2 := hid (fun w' (hb : Below w.heap.size w w') => ha2.below hb hB)
  have HB0 := hid hb0
  have HX0 := hid hx0
  have HX1 := hid hx1
  have HX2 := hid hx2
  have HF := hid (specFaultAt B w.heap.size s l _ _ _ h1 h2 (Nat.le_trans hB hb0.size) (ha1.below hb0 hB) (ha2.below hb0 hB) hx0)
  have HC := hid (fun h => of_jF (s := s) (l := l) h)
  have HI := hid (fun w' => specLine x w' h3)
  have HPK := hid (fun h w' => specPack x w' h)
  have HFL := hid (fun h => fault_len (s := x) h)
  obtain ⟨R, hR⟩ : ∃ R, Hid (R = APPost s l x w) := ⟨_, hid rfl⟩
  rw [← hR.out]
  have HK1 := hid (fun h => aC_1 (s := s) (l := l) (x := x) h)
  have HK2 := hid (fun h h2 => aC_2 (s := s) (l := l) (x := x) h h2)
  have HK3 := hid (fun h h2 h3 => aC_3 (s := s) (l := l) (x := x) h h2 h3)
  have HK4 := hid (fun h h2 h3 => aC_4 (s := s) (l := l) (x := x) h h2 h3)
  unfold APPost at hR
  have HPL := hid (pack_len x)
  generalize aC s l x = kc at *
  generalize jF s l = f at *
  generalize faultC x = fx at *
  generalize packL x = px at *
  generalize str x = sx at *
  clear ha1 ha2 hb0 hx0 hx1 hx2
  go_enter Try.func33, Try.ntmps33
  go_wp2_with fail
  refine HF.out.mono ?_
  rintro e w1 ⟨rfl, hb1⟩
  have hB1 := HB0.out.trans (hb1.mono HB0.out.size)
  have hp0 := (hb1.block _ (by rw [HX2.out]; omega)).trans HX0.out
  have hp1 := (hb1.block _ (by rw [HX2.out]; omega)).trans HX1.out
  have l1 : w.heap.size + 1 + 1 ≤ w1.heap.size := by have := hb1.size; rw [HX2.out] at this; exact this
  have B1 := hid hB1
  have P0 := hid hp0
  have P1 := hid hp1
  clear hb1 HF HB0 HX0 HX1 HX2 hB1 hp0 hp1
  by_cases hz : f = 0
  · have b9 : (f != 0) = false := by simp [hz]
    have HZ := hid hz
    have HCC := hid (HC.out hz)
    have hsl := HCC.out.1
    have lb0 : w.heap.size < w1.heap.size := by omega
    clear hz
    by_cases hx : fx = 0
    · have b8 : (fx != 0) = false := by simp [hx]
      have HX := hid hx
      have HXL := hid (HFL.out hx)
      have hxl := HXL.out.2
      have hpx : px.length ≤ 43 := by rw [HPL.out]; omega
      have HP := hid (HPK.out hxl)
      unfold BPost at HP
      have HM := hid (ob_made w1)
      have hlm : Hid (w1.heap.size ≤ (w1.alloc (.cells #[] 5)).heap.size) := hid (by simp)
      have hBM := hid (B1.out.alloc B1.out.size (.cells #[] 5))
      have HAM := hid (HA2.out _ hBM.out)
      have b0 := blk_cell P0.out (o := 0) (v := .slice a1 s.length c1) rfl
      have b1 := blk_cell P0.out (o := 1) (v := .slice a2 l.length c2) rfl
      clear hx
      go_wp2_with fail
      refine (HI.out _).mono ?_
      rintro e w2 ⟨rfl, hw⟩
      replace hw := hw.symm
      subst hw
      go_upto_region 8 with (first
        | (at_builtin; refine wpL _ rfl _ _ rfl w1.heap.size _ [] rfl HM.out _ l _ rfl HAM.out (by simp; omega) hlm.out ?_; intro p4 a4 c4 w4 hG; have hb4 := hG.low HM.out hlm.out; have B4 := hid (hBM.out.trans (hb4.mono (by omega))); have E4 := hid hG.eq; have O4 := hid hG.own; have K4 := hid ((hb4.block _ (by omega)).trans ((Below.heap_alloc w1 (.cells #[] 5) _ (by omega)).trans P0.out)); have Q4 := hid ((hb4.block _ (by omega)).trans ((Below.heap_alloc w1 (.cells #[] 5) _ (by omega)).trans P1.out)); have l4 : w1.heap.size ≤ w4.heap.size := Nat.le_trans hlm.out hb4.size; clear hG hb4)
        | (go_at_call 50; refine (HP.out _).mono ?_; rintro e w5 ⟨a5, c5, rfl, ho5, hb5⟩; have HA5 := hid ho5.at; have O45 := hid (O4.out.below hb5 (Nat.le_refl _)); have B5 := hid (B4.out.trans (hb5.mono B4.out.size)); have K5 := hid ((hb5.block _ (by omega)).trans K4.out); have Q5 := hid ((hb5.block _ (by omega)).trans Q4.out); have l5 : w1.heap.size ≤ w5.heap.size := Nat.le_trans l4 hb5.size; clear ho5 hb5)
        | (at_builtin; refine wpL _ rfl _ _ rfl w1.heap.size _ p4 rfl O45.out _ px _ rfl HA5.out (by rw [E4.out, List.nil_append]; omega) l5 ?_; intro p6 a6 c6 w6 hG; have hb6 := hG.low O45.out l5; have B6 := hid (B5.out.trans (hb6.mono (by omega))); have E6 := hid hG.eq; have O6 := hid hG.own; have K6 := hid ((hb6.block _ (by omega)).trans K5.out); have Q6 := hid ((hb6.block _ (by omega)).trans Q5.out); have l6 : w1.heap.size ≤ w6.heap.size := Nat.le_trans l5 hb6.size; clear hG hb6))
      have E7 : Hid (p6 = l ++ px) := hid (by rw [E6.out, E4.out, List.nil_append])
      have E8 : Hid (p6.length = l.length + (x.length + 3)) := hid (by rw [E7.out, List.length_append, HPL.out])
      have hp6 : p6.length ≤ 3000 := by rw [E8.out]; omega
      have r0 := blk_cell K6.out (o := 0) (v := .slice a1 s.length c1) rfl
      have r1 := blk_cell K6.out (o := 1) (v := .slice a2 l.length c2) rfl
      by_cases hm : 2400 < s.length + p6.length
      · have q1 : (2400 : Int) < (s.length : Int) + (p6.length : Int) := by omega
        have HKC := hid (HK3.out HZ.out HX.out (by rw [← E8.out]; exact hm))
        have t0 := blk_cell Q6.out (o := 0) (v := .int .i64 0) rfl
        have t1 := blk_cell Q6.out (o := 1) (v := .int .i64 0) rfl
        have t2 := blk_cell Q6.out (o := 2) (v := .slice none 0 0) rfl
        have t3 := blk_cell Q6.out (o := 3) (v := .slice none 0 0) rfl
        have f0 := blk_free (o := 0) Q6.out
        have f1 := blk_free (o := 1) Q6.out
        have f2 := blk_free (o := 2) Q6.out
        have f3 := blk_free (o := 3) Q6.out
        clear hm
        go_wp2
        refine bodyPost_ret (results_cell_row Try.results33 _ _ (w.heap.size + 1) 49 #[.int .i64 (2), .int .i64 0, .slice none 0 0, .slice none 0 0] (0, 0) _ rfl (set4 Q6.out _ _ _ _) Try.underlying49 rfl info4) rfl ?_
        rw [hR.out]
        exact jpost_no (by rw [HKC.out]; decide) (by rw [HKC.out]) (below4 B6.out (by omega) _ _ _ _)
      · have q1 : ¬ (2400 : Int) < (s.length : Int) + (p6.length : Int) := by omega
        have HKC := hid (HK4.out HZ.out HX.out (by rw [← E8.out]; exact hm))
        have HOF := hid (specOf w6.heap.size s p6 (.slice a1 s.length c1) (.slice a6 p6.length c6) w6 h1 (by omega) (Nat.le_refl _) ((HA1.out _ B6.out).mono (by omega)) O6.out.at)
        unfold JPost at HOF
        clear hm
        go_wp2_with fail
        refine HOF.out.mono ?_
        rintro e w7 ⟨a8, k8, a9, k9, rfl, hj7, hb7⟩
        have Q7 := hid ((hb7.block _ (by omega)).trans Q6.out)
        have B7 := hid (B6.out.trans (hb7.mono B6.out.size))
        have J7 := hid hj7
        have t0 := blk_cell Q7.out (o := 0) (v := .int .i64 0) rfl
        have t1 := blk_cell Q7.out (o := 1) (v := .int .i64 0) rfl
        have t2 := blk_cell Q7.out (o := 2) (v := .slice none 0 0) rfl
        have t3 := blk_cell Q7.out (o := 3) (v := .slice none 0 0) rfl
        have f0 := blk_free (o := 0) Q7.out
        have f1 := blk_free (o := 1) Q7.out
        have f2 := blk_free (o := 2) Q7.out
        have f3 := blk_free (o := 3) Q7.out
        clear hj7 hb7
        go_wp2
        refine bodyPost_ret (results_cell_row Try.results33 _ _ (w.heap.size + 1) 49 #[.int .i64 0, .int .i64 (countN s p6 : Int), .slice a8 s.length k8, .slice a9 p6.length k9] (0, 0) _ rfl (set4 Q7.out _ _ _ _) Try.underlying49 rfl info4) rfl ?_
        rw [hR.out, ← E7.out]
        exact jpost_so HKC.out rfl ((jo4 J7.out (by omega)).mono (by omega)) (below4 B7.out (by omega) _ _ _ _)
    · have b8 : (fx != 0) = true := by simpa using hx
      have HX := hid hx
      have HKC := hid (HK2.out HZ.out hx)
      clear hx
      go_wp2_with fail
      refine (HI.out _).mono ?_
      rintro e w2 ⟨rfl, hw⟩
      replace hw := hw.symm
      subst hw
      have t0 := blk_cell P1.out (o := 0) (v := .int .i64 0) rfl
      have t1 := blk_cell P1.out (o := 1) (v := .int .i64 0) rfl
      have t2 := blk_cell P1.out (o := 2) (v := .slice none 0 0) rfl
      have t3 := blk_cell P1.out (o := 3) (v := .slice none 0 0) rfl
      have f0 := blk_free (o := 0) P1.out
      have f1 := blk_free (o := 1) P1.out
      have f2 := blk_free (o := 2) P1.out
      have f3 := blk_free (o := 3) P1.out
      go_wp2
      refine bodyPost_ret (results_cell_row Try.results33 _ _ (w.heap.size + 1) 49 #[.int .i64 (fx), .int .i64 0, .slice none 0 0, .slice none 0 0] (0, 0) _ rfl (set4 P1.out _ _ _ _) Try.underlying49 rfl info4) rfl ?_
      rw [hR.out]
      exact jpost_no (by rw [HKC.out]; exact HX.out) (by rw [HKC.out]) (below4 B1.out (by omega) _ _ _ _)
  · have b9 : (f != 0) = true := by simpa using hz
    have HZ := hid hz
    have HKC := hid (HK1.out hz)
    have t0 := blk_cell P1.out (o := 0) (v := .int .i64 0) rfl
    have t1 := blk_cell P1.out (o := 1) (v := .int .i64 0) rfl
    have t2 := blk_cell P1.out (o := 2) (v := .slice none 0 0) rfl
    have t3 := blk_cell P1.out (o := 3) (v := .slice none 0 0) rfl
    have f0 := blk_free (o := 0) P1.out
    have f1 := blk_free (o := 1) P1.out
    have f2 := blk_free (o := 2) P1.out
    have f3 := blk_free (o := 3) P1.out
    clear hz
    go_wp2
    refine bodyPost_ret (results_cell_row Try.results33 _ _ (w.heap.size + 1) 49 #[.int .i64 (f), .int .i64 0, .slice none 0 0, .slice none 0 0] (0, 0) _ rfl (set4 P1.out _ _ _ _) Try.underlying49 rfl info4) rfl ?_
    rw [hR.out]
    exact jpost_no (by rw [HKC.out]; exact HZ.out) (by rw [HKC.out]) (below4 B1.out (by omega) _ _ _ _)
end Jn
end Go.Proofs.Ytiliahibnhfhoaa
