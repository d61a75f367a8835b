/- The specification's ChartFault and OpenSteps, as they are called. -/
import Derived.Test.YtdmekehlkfbigaaDoorJOpenSteps39
import Derived.Test.YtdmekehlkfbigaaDoorJOpenSteps42
namespace Go.Proofs.YtdmekehlkfbigaaDoor
open Go.RowKit Go.Deep
set_option linter.unusedVariables false
set_option linter.unusedSimpArgs false
namespace Ks
open Ex (inR evalCode evalVal vFault hid specIn)
open St (StepD)
open Ch (RunD)
open Pf
open Pt (kidVals)
open Kc (fA fD fA_eq fD_eq chartC openN openN_succ openN_le openL open_ok open_bad)
set_option maxRecDepth 100000 in
set_option maxHeartbeats 4000000 in
theorem specChart (B : Nat) (ss : List StepD) (v : Value) (r : RunD) (v1 v2 v3 : Value) (w : World) (hsm : St.Small 1048576 ss) (hs : Ch.Small 1048576 r) (ha : St.At w B v ss) (hc : Ch.At w 0 v1 v2 v3 r) :
    Calls Tryd.prog 7 #[v, .agg #[.int .i64 r.status, .int .i64 r.now, v1, v2, v3]] w fun e w' => e = .returned (.int .i64 (chartC ss r)) ∧ Below w.heap.size w w' := by
  obtain ⟨a, cap, rfl⟩ := ha.slice
  obtain ⟨a1, c1, rfl⟩ := hc.vars.slice
  obtain ⟨a2, c2, rfl⟩ := hc.marks.slice
  obtain ⟨a3, c3, rfl⟩ := hc.dues.slice
  obtain ⟨w0, e0⟩ : ∃ w0, w0 = w.alloc (.cells #[.int .i64 r.status, .int .i64 r.now, .slice a1 r.vars.length c1, .slice a2 r.marks.length c2, .slice a3 r.dues.length c3] 31) := ⟨_, rfl⟩
  have hb0 : Below w.heap.size w w0 := by rw [e0]; exact (Below.refl _ w).alloc (Nat.le_refl _) _
  have HF := hid (specChartFault B ss _ w.heap.size r _ _ _ w0 hsm hs (ha.below hb0) ⟨by rw [e0]; exact Ch.new_blk _ _, hc.below hb0⟩)
  have HB0 := hid hb0
  clear ha hc hsm hs hb0
  go_enter Tryd.func7, Tryd.ntmps7
  go_wp2_with fail
  rw [← e0]
  refine HF.out.mono ?_
  rintro e w1 ⟨rfl, hb1⟩
  have hB1 := HB0.out.trans (hb1.mono HB0.out.size)
  go_wp2
  go_ret
  exact ⟨rfl, hB1⟩
set_option maxRecDepth 100000 in
set_option maxHeartbeats 8000000 in
theorem specOpen (B : Nat) (ss : List StepD) (v : Value) (R : Nat) (r : RunD) (v1 v2 v3 : Value) (w : World) (hl : ss.length ≤ 24) (hlm : r.marks.length = ss.length) (ha : St.At w B v ss) (hc : CP w R v1 v2 v3 r) :
    Calls Tryd.prog 28 #[v, .pointer (some ⟨R, 0, none⟩)] w fun e w' => (∃ u, e = .returned u ∧ w'.ownsRow w.heap.size 2 1 u (openN ss (fA r) ss.length).length (kidVals (openN ss (fA r) ss.length))) ∧ Below w.heap.size w w' := by
  obtain ⟨a, cap, rfl⟩ := ha.slice
  obtain ⟨a1, c1, rfl⟩ := hc.row.vars.slice
  obtain ⟨a2, c2, rfl⟩ := hc.row.marks.slice
  obtain ⟨a3, c3, rfl⟩ := hc.row.dues.slice
  have HA := hid ha
  have HC := hid hc
  have HLM := hid hlm
  clear ha hc hlm
  obtain ⟨j0, hj, hy0, hy1, hy2⟩ := info_parts infoI64
  go_enter Tryd.func28, Tryd.ntmps28
  go_wp2_with fail
  go_loopw [5, 6] (fun o x wr => ∃ k : Nat, x = .int .i64 k ∧ k ≤ ss.length ∧ (∃ a5 c5, o = .slice a5 (openN ss (fA r) k).length c5) ∧ Hid (wr.ownsRow w.heap.size 2 1 o (openN ss (fA r) k).length (kidVals (openN ss (fA r) k))) ∧ Hid (Below w.heap.size w wr)) (fun _ x _ => ss.length - (intOf x).toNat)
  case atStart => exact ⟨0, rfl, Nat.zero_le _, ⟨_, _, rfl⟩, hid (World.ownsRow_made w #[] 0 (Nat.le_refl _) (by unfold maxLen; omega) rfl), hid ((Below.refl _ w).alloc (Nat.le_refl _) _)⟩
  case round =>
    obtain ⟨k, rfl, hk, ⟨a5, c5, rfl⟩, HO, HBR⟩ := hrel
    have hz := HBR.out.size
    by_cases hlt : k < ss.length
    · have hC := HC.out.below HBR.out
      have m3 : wr.cell? ⟨R, 3, none⟩ = some (.slice a2 r.marks.length c2) := Ch.blk_cell hC.blk 3
      have hkm : k < r.marks.length := by rw [HLM.out]; exact hlt
      obtain ⟨g2, o2, rfl, hac⟩ := nu_cell hC.row.marks (by omega)
      have n2 := hac _ hkm
      rw [← fA_eq hkm] at n2
      obtain ⟨g, o, vc, ve, rfl, hg, p0, p1, p2, p3, p4, p5, _⟩ := (HA.out.below HBR.out).at hlt
      have q1 : (k : Int) < (ss.length : Int) := by omega
      have q2 : (k : Int) < (r.marks.length : Int) := by omega
      have HN := hid (openN_succ ss (fA r) k)
      rw [PJ_eq hlt] at HN
      have hle := openN_le ss (fA r) k
      have HLF := hid (fun wx => specLeaf ss[k].kind wx)
      clear hac hC hkm p1 p2 p3 p4 p5
      have hown := HO.out
      generalize fA r k = ak at *
      cases hlf : leafK ss[k].kind
      · have HKK : Hid (openN ss (fA r) (k + 1) = openN ss (fA r) k) := hid (by rw [HN.out, hlf]; simp)
        rw [hlf] at HLF
        clear hlf HN
        go_wp2_with (go_at_call 46; refine (HLF.out _).mono ?_; rintro e w2 ⟨rfl, hw2⟩; replace hw2 := hw2.symm; subst hw2)
        refine ⟨⟨k + 1, by simp, by omega, ⟨a5, c5, by rw [HKK.out]⟩, hid ?_, HBR⟩, by simp [intOf]; omega⟩
        rw [HKK.out]
        exact hown
      · rw [hlf] at HLF HN
        cases hon : (ak == 1)
        · have HKK : Hid (openN ss (fA r) (k + 1) = openN ss (fA r) k) := hid (by rw [HN.out, hon]; simp)
          clear hlf HN
          go_wp2_with (go_at_call 46; refine (HLF.out _).mono ?_; rintro e w2 ⟨rfl, hw2⟩; replace hw2 := hw2.symm; subst hw2)
          refine ⟨⟨k + 1, by simp, by omega, ⟨a5, c5, by rw [HKK.out]⟩, hid ?_, HBR⟩, by simp [intOf]; omega⟩
          rw [HKK.out]
          exact hown
        · have HKK : Hid (openN ss (fA r) (k + 1) = openN ss (fA r) k ++ [k]) := hid (by rw [HN.out, hon]; simp)
          clear hlf HN
          generalize openN ss (fA r) k = ks at *
          go_wp2_with (first
            | (go_at_call 46; refine (HLF.out _).mono ?_; rintro e w2 ⟨rfl, hw2⟩; replace hw2 := hw2.symm; subst hw2)
            | (at_builtin; go_must (refine wpList_append_own _ rfl _ _ 23 rfl w.heap.size 2 j0 (.int .i64 0) 1 8 Tryd.underlying23 hj hy0 hy1 hy2 rfl (by decide) _ _ _ rfl (hown.alloc _) ⟨wr.heap.size, 0, none⟩ 1 1 [.int .i64 (k : Int)] rfl rfl (cell_one_new _ _ _) (by simp [Value.oneCell']) (by unfold maxLen; omega) (by omega) (by simp; omega) ?_); intro v' w2 hown' hgrow _; obtain ⟨g9, c9, rfl⟩ := ownsRow_succ hown'))
          have hB2 : Below w.heap.size w w2 := (HBR.out.alloc hz _).grown hgrow (by simp; omega) (fun b e => (Pt.own_lt hown e).1)
          refine ⟨⟨k + 1, by simp, by omega, ⟨some ⟨g9, 0, none⟩, c9, by rw [HKK.out, List.length_append]; rfl⟩, hid ?_, hid hB2⟩, by simp [intOf]; omega⟩
          rw [HKK.out]
          simpa [kidVals] using hown'
    · have hke : k = ss.length := by omega
      have HE := hid hke
      clear hke
      go_wp2
      go_ret
      refine ⟨⟨_, rfl, ?_⟩, HBR.out⟩
      rw [← HE.out]
      exact HO.out
set_option maxRecDepth 100000 in
set_option maxHeartbeats 8000000 in
theorem specOpenSteps (B : Nat) (ss : List StepD) (r : RunD) (v v1 v2 v3 : Value) (w : World) (hsm : St.Small 1048576 ss) (hs : Ch.Small 1048576 r) (ha : St.At w B v ss) (hc : Ch.At w 0 v1 v2 v3 r) :
    Calls Tryd.prog 13 #[v, .agg #[.int .i64 r.status, .int .i64 r.now, v1, v2, v3]] w (IPost (chartC ss r) (openL ss r) w) := by
  obtain ⟨a, cap, rfl⟩ := ha.slice
  obtain ⟨a1, c1, rfl⟩ := hc.vars.slice
  obtain ⟨a2, c2, rfl⟩ := hc.marks.slice
  obtain ⟨a3, c3, rfl⟩ := hc.dues.slice
  obtain ⟨w0, e0⟩ : ∃ w0, w0 = (w.alloc (.cells #[.int .i64 r.status, .int .i64 r.now, .slice a1 r.vars.length c1, .slice a2 r.marks.length c2, .slice a3 r.dues.length c3] 31)).alloc (.cells #[.int .i64 0, .slice none 0 0] 37) := ⟨_, rfl⟩
  have hb0 : Below w.heap.size w w0 := by rw [e0]; exact ((Below.refl _ w).alloc (Nat.le_refl _) _).alloc (by simp) _
  have hk0 : w0.heap[w.heap.size + 1]? = some (.cells #[.int .i64 0, .slice none 0 0] 37) := by rw [e0]; exact Ch.new_at (by simp) _
  have hkc : w0.heap[w.heap.size]? = some (.cells #[.int .i64 r.status, .int .i64 r.now, .slice a1 r.vars.length c1, .slice a2 r.marks.length c2, .slice a3 r.dues.length c3] 31) := by rw [e0, Below.heap_alloc _ _ _ (by simp)]; exact Ch.new_blk _ _
  have HF := hid (specChartFault B ss _ w.heap.size r _ _ _ w0 hsm hs (ha.below hb0) ⟨hkc, hc.below hb0⟩)
  have HCP : Hid (CP w0 w.heap.size (.slice a1 r.vars.length c1) (.slice a2 r.marks.length c2) (.slice a3 r.dues.length c3) r) := hid ⟨hkc, hc.below hb0⟩
  have HA := hid (ha.below hb0)
  have HB0 := hid hb0
  clear ha hc hsm hs hb0 hkc
  unfold IPost
  go_enter Tryd.func13, Tryd.ntmps13
  go_wp2_with fail
  rw [← e0]
  clear e0
  refine HF.out.mono ?_
  rintro e w1 ⟨rfl, hb1⟩
  have B1 := HB0.out.trans (hb1.mono HB0.out.size)
  have hk1 := (hb1.block _ (Ch.blk_lt hk0)).trans hk0
  have l1 : w.heap.size + 1 < w1.heap.size := Ch.blk_lt hk1
  have r0 : w1.cell? ⟨w.heap.size + 1, 0, none⟩ = some (.int .i64 0) := Ch.blk_cell hk1 0
  have r1 : w1.cell? ⟨w.heap.size + 1, 1, none⟩ = some (.slice none 0 0) := Ch.blk_cell hk1 1
  have f0 := Ch.blk_free hk1 0
  have f1 := Ch.blk_free hk1 1
  have HCP1 := hid (HCP.out.below hb1)
  have HA1 := hid (HA.out.below hb1)
  clear HF hk0 hk1 HB0 hb1 HCP HA
  by_cases hz : chartC ss r = 0
  · have b1 : (chartC ss r != 0) = false := by simp [hz]
    have HZ := hid hz
    have HV := hid (open_ok hz)
    have h1 := Kc.of_c hz
    have h2 := Kc.of_num h1.2.1
    have hl : ss.length ≤ 24 := by have := (of_p h1.1).1; omega
    have HSO := hid (specOpen B ss _ _ r _ _ _ w1 hl h2.2.1 HA1.out HCP1.out)
    clear h1 h2 hz
    go_wp2_with fail
    refine HSO.out.mono ?_
    rintro e w2 ⟨⟨u, rfl, ho⟩, hb2⟩
    obtain ⟨x5, c5, rfl⟩ := own_slice ho
    have HO := hid ho
    clear ho
    have B2 := B1.trans (hb2.mono B1.size)
    have l2 : w.heap.size + 1 < w2.heap.size := by have := hb2.size; omega
    have s0 := kept_cell hb2 (by omega) r0
    have s1 := kept_cell hb2 (by omega) r1
    have t0 := kept_free hb2 (by omega) f0
    have t1 := kept_free hb2 (by omega) f1
    go_wp2
    refine bodyPost_ret (v := .agg #[.int .i64 0, .slice x5 (openN ss (fA r) ss.length).length c5]) (by simp [results, Tryd.results13, go_sem, s0, s1]) rfl ⟨⟨_, retI HZ.out.symm, ?_⟩, setB (setB B2 (by omega) _) (by omega) _⟩
    rw [HV.out, intsOf_len, ← kidVals_eq]
    exact own_mono (own_set (own_set (own_mono HO.out (B' := w.heap.size + 2) (by omega)) (by omega)) (by omega)) (by omega)
  · have b1 : (chartC ss r != 0) = true := bne_iff_ne.2 hz
    have HV := hid (open_bad hz)
    clear hz
    go_wp2
    refine bodyPost_ret (v := .agg #[.int .i64 (chartC ss r), .slice none 0 0]) (by simp [results, Tryd.results13, go_sem, r0, r1]) rfl ⟨⟨_, rfl, ?_⟩, setB (setB B1 (by omega) _) (by omega) _⟩
    rw [HV.out]
    exact World.ownsRow_nil _ _ _ _
end Ks
end Go.Proofs.YtdmekehlkfbigaaDoor
