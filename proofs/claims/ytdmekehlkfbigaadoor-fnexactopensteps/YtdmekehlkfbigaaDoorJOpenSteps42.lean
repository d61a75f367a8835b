/- ChartFault and OpenSteps of the program. Condition: the table of rules lies as its initialiser lays it. -/
import Derived.Test.YtdmekehlkfbigaaDoorJOpenSteps41
import Derived.Test.YtdmekehlkfbigaaDoorJOpenSteps7
namespace Go.Proofs.YtdmekehlkfbigaaDoor
open Go.RowKit Go.Deep
set_option linter.unusedVariables false
set_option linter.unusedSimpArgs false
namespace Kc
open Ex (inR evalCode evalVal vFault hid)
open St (StepD)
open Ch (RunD)
open Pf
open Pt (kidVals)
def openN (ss : List StepD) (A : Nat → Int) (n : Nat) : List Nat := (List.range n).filter fun i => leafK (PJ ss i).kind && (A i == 1)
theorem openN_succ (ss : List StepD) (A : Nat → Int) (n : Nat) : openN ss A (n + 1) = openN ss A n ++ (if (leafK (PJ ss n).kind && (A n == 1)) = true then [n] else []) := by
  unfold openN
  rw [List.range_succ, List.filter_append]
  simp [List.filter_cons]
theorem openN_le (ss : List StepD) (A : Nat → Int) (n : Nat) : (openN ss A n).length ≤ n := by
  unfold openN
  have := List.length_filter_le (fun i => leafK (PJ ss i).kind && (A i == 1)) (List.range n)
  simpa using this
def openL (ss : List StepD) (r : RunD) : List Int := if chartC ss r = 0 then intsOf (openN ss (fA r) ss.length) else []
theorem open_ok {ss : List StepD} {r : RunD} (h : chartC ss r = 0) : openL ss r = intsOf (openN ss (fA r) ss.length) := by unfold openL; rw [if_pos h]
theorem open_bad {ss : List StepD} {r : RunD} (h : chartC ss r ≠ 0) : openL ss r = [] := by unfold openL; rw [if_neg h]
theorem openL_len {ss : List StepD} {r : RunD} : (openL ss r).length ≤ ss.length := by
  unfold openL
  split
  · rw [intsOf_len]; exact openN_le _ _ _
  · exact Nat.zero_le _
set_option maxRecDepth 100000 in
set_option maxHeartbeats 4000000 in
theorem implChartFault (ss : List StepD) (r : RunD) (v v1 v2 v3 : Value) (w : World) (hsm : St.Small 1048576 ss) (hs : Ch.Small 1048576 r) (ha : St.At w 0 v ss) (hc : Ch.At w 0 v1 v2 v3 r) (hr : Rul w) :
    Calls Tryd.prog 10 #[v, .agg #[.int .i64 r.status, .int .i64 r.now, v1, v2, v3]] w fun e w' => e = .returned (.int .i64 (chartC ss r)) ∧ Below w.heap.size w w' := by
  obtain ⟨a, cap, rfl⟩ := ha.slice
  obtain ⟨a1, c1, rfl⟩ := hc.vars.slice
  obtain ⟨a2, c2, rfl⟩ := hc.marks.slice
  obtain ⟨a3, c3, rfl⟩ := hc.dues.slice
  obtain ⟨w0, e0⟩ : ∃ w0, w0 = w.alloc (.cells #[.int .i64 r.status, .int .i64 r.now, .slice a1 r.vars.length c1, .slice a2 r.marks.length c2, .slice a3 r.dues.length c3] 31) := ⟨_, rfl⟩
  have hb0 : Below w.heap.size w w0 := by rw [e0]; exact (Below.refl _ w).alloc (Nat.le_refl _) _
  have HF := hid (courseOf ss r _ _ _ _ w0 hsm hs (ha.below hb0) (hc.below hb0) (hr.below hb0 hr.lt))
  have HB0 := hid hb0
  clear ha hc hsm hr hs hb0
  go_enter Tryd.func10, Tryd.ntmps10
  go_wp2_with fail
  rw [← e0]
  refine HF.out.mono ?_
  rintro e w1 ⟨h1, hb1⟩
  have hB1 := HB0.out.trans (hb1.mono HB0.out.size)
  rcases h1 with ⟨hne, rfl⟩ | ⟨hz, wg, R, u, rfl, hk, hle⟩
  · clear hne
    go_wp2
    go_ret
    exact ⟨rfl, hB1⟩
  · have HZ := hid hz
    clear hz hk
    go_wp2
    go_ret
    exact ⟨by rw [HZ.out]; rfl, hB1⟩
set_option maxRecDepth 100000 in
set_option maxHeartbeats 16000000 in
theorem implOpenSteps (ss : List StepD) (r : RunD) (v v1 v2 v3 : Value) (w : World) (hsm : St.Small 1048576 ss) (hs : Ch.Small 1048576 r) (ha : St.At w 0 v ss) (hc : Ch.At w 0 v1 v2 v3 r) (hr : Rul w) :
    Calls Tryd.prog 14 #[v, .agg #[.int .i64 r.status, .int .i64 r.now, v1, v2, v3]] w (IPost (chartC ss r) (openL ss r) w) := by
  obtain ⟨a, cap, rfl⟩ := ha.slice
  obtain ⟨a1, c1, rfl⟩ := hc.vars.slice
  obtain ⟨a2, c2, rfl⟩ := hc.marks.slice
  obtain ⟨a3, c3, rfl⟩ := hc.dues.slice
  obtain ⟨w0, e0⟩ : ∃ w0, w0 = (w.alloc (.cells #[.int .i64 r.status, .int .i64 r.now, .slice a1 r.vars.length c1, .slice a2 r.marks.length c2, .slice a3 r.dues.length c3] 31)).alloc (.cells #[.int .i64 0, .slice none 0 0] 37) := ⟨_, rfl⟩
  have hb0 : Below w.heap.size w w0 := by rw [e0]; exact ((Below.refl _ w).alloc (Nat.le_refl _) _).alloc (by simp) _
  have hk0 : w0.heap[w.heap.size + 1]? = some (.cells #[.int .i64 0, .slice none 0 0] 37) := by rw [e0]; exact Ch.new_at (by simp) _
  have HF := hid (courseOf ss r _ _ _ _ w0 hsm hs (ha.below hb0) (hc.below hb0) (hr.below hb0 hr.lt))
  have HB0 := hid hb0
  clear ha hc hsm hr hs hb0
  obtain ⟨j0, hj, hy0, hy1, hy2⟩ := info_parts infoI64
  unfold IPost
  go_enter Tryd.func14, Tryd.ntmps14
  go_wp2_with fail
  rw [← e0]
  clear e0
  refine HF.out.mono ?_
  rintro e w1 ⟨h1, hb1⟩
  have B1 := HB0.out.trans (hb1.mono HB0.out.size)
  have hk1 := (hb1.block _ (Ch.blk_lt hk0)).trans hk0
  have l1 : w.heap.size + 1 < w1.heap.size := Ch.blk_lt hk1
  have r0 : w1.cell? ⟨w.heap.size + 1, 0, none⟩ = some (.int .i64 0) := Ch.blk_cell hk1 0
  have r1 : w1.cell? ⟨w.heap.size + 1, 1, none⟩ = some (.slice none 0 0) := Ch.blk_cell hk1 1
  have f0 := Ch.blk_free hk1 0
  have f1 := Ch.blk_free hk1 1
  clear HF hk0 hk1 HB0
  rcases h1 with ⟨hne, rfl⟩ | ⟨hz, wg, R, u, rfl, hk, hle⟩
  · have b1 : (chartC ss r != 0) = true := bne_iff_ne.2 hne
    have HV := hid (open_bad hne)
    clear hne hb1
    go_wp2
    refine bodyPost_ret (v := .agg #[.int .i64 (chartC ss r), .slice none 0 0]) (by simp [results, Tryd.results14, go_sem, r0, r1]) rfl ⟨⟨_, rfl, ?_⟩, setB (setB B1 (by omega) _) (by omega) _⟩
    rw [HV.out]
    exact World.ownsRow_nil _ _ _ _
  · have HZ := hid hz
    have HV := hid (open_ok hz)
    have HP := hid (of_c hz).1
    have hl : ss.length ≤ 24 := by have := (of_p HP.out).1; omega
    have hu := hk.c0
    obtain ⟨gu, cu, eu, hgu, _⟩ := hk.steps
    rw [eu] at hu
    have HK := hid hk
    clear hz hk hb1 hle
    go_wp2
    clear hu
    go_loopw [7, 9, 25] (fun o _ x wr => ∃ k : Nat, x = .int .i64 k ∧ k ≤ ss.length ∧ (∃ a5 c5, o = .slice a5 (openN ss (fA r) k).length c5) ∧ Hid (wr.ownsRow w1.heap.size 2 1 o (openN ss (fA r) k).length (kidVals (openN ss (fA r) k))) ∧ Hid (Below w1.heap.size w1 wr)) (fun _ _ x _ => ss.length - (intOf x).toNat)
    case atStart => exact ⟨0, rfl, Nat.zero_le _, ⟨_, _, rfl⟩, hid (World.ownsRow_nil w1 _ _ 1), hid (Below.refl _ _)⟩
    case round =>
      obtain ⟨k, rfl, hk, ⟨a5, c5, rfl⟩, HO, HBR⟩ := hrel
      have hz := HBR.out.size
      by_cases hlt : k < ss.length
      · have hK := HK.out.below HBR.out
        obtain ⟨g', cap', e', hg, hc⟩ := hK.steps
        rw [eu] at e'
        cases e'
        obtain ⟨kv, vc, ve, d0, d1, d2, d3, d4, d5, d6, d7, d8, hpc⟩ := hc k hlt
        obtain ⟨ak, ck, rfl⟩ := hpc.kids.slice
        obtain ⟨ac, cc, rfl⟩ := hpc.cond.slice
        obtain ⟨ae, ce, rfl⟩ := hpc.expr.slice
        have hxA : Below wr.heap.size wr (wr.alloc (.cells #[.int .i64 (k : Int), .int .i64 ((path ss (k + 1)).length : Int), .slice ak (kidsL ss k).length ck, .int .i64 ss[k].kind, .int .i64 ss[k].parent, .string ss[k].name, .int .i64 ss[k].arg, .slice ac ss[k].cond.length cc, .slice ae ss[k].expr.length ce] 70)) := (Below.refl _ wr).alloc (Nat.le_refl _) _
        have q1 : (k : Int) < (ss.length : Int) := by omega
        have HN := hid (openN_succ ss (fA r) k)
        rw [PJ_eq hlt] at HN
        have hle := openN_le ss (fA r) k
        have HLF := hid (fun wx => implLeaf ss[k].kind wx)
        have HON : Hid (Calls Tryd.prog 30 #[.pointer (some ⟨R, 0, none⟩), .int .i64 (k : Int)] (wr.alloc (.cells #[.int .i64 (k : Int), .int .i64 ((path ss (k + 1)).length : Int), .slice ak (kidsL ss k).length ck, .int .i64 ss[k].kind, .int .i64 ss[k].parent, .string ss[k].name, .int .i64 ss[k].arg, .slice ac ss[k].cond.length cc, .slice ae ss[k].expr.length ce] 70)) fun e w' => e = .returned (.bool (fA r k == 1)) ∧ w' = wr.alloc (.cells #[.int .i64 (k : Int), .int .i64 ((path ss (k + 1)).length : Int), .slice ak (kidsL ss k).length ck, .int .i64 ss[k].kind, .int .i64 ss[k].parent, .string ss[k].name, .int .i64 ss[k].arg, .slice ac ss[k].cond.length cc, .slice ae ss[k].expr.length ce] 70)) := hid (isOn wg _ R u ss (csOf r) k (by omega) (hK.below hxA))
        clear hc hpc hK hxA
        have hown := HO.out
        cases hlf : leafK ss[k].kind
        · have HKK : Hid (openN ss (fA r) (k + 1) = openN ss (fA r) k) := hid (by rw [HN.out, hlf]; simp)
          rw [hlf] at HLF
          clear hlf HN HON
          go_wp2_with (go_at_call 29; refine (HLF.out _).mono ?_; rintro e w2 ⟨rfl, hw2⟩; replace hw2 := hw2.symm; subst hw2)
          refine ⟨⟨k + 1, by simp, by omega, ⟨a5, c5, by rw [HKK.out]⟩, hid ?_, hid (HBR.out.alloc hz _)⟩, by simp [intOf]; omega⟩
          rw [HKK.out]
          exact hown.alloc _
        · rw [hlf] at HLF HN
          cases hon : (fA r k == 1)
          · have HKK : Hid (openN ss (fA r) (k + 1) = openN ss (fA r) k) := hid (by rw [HN.out, hon]; simp)
            rw [hon] at HON
            clear hlf HN hon
            go_wp2_with (first | (go_at_call 29; refine (HLF.out _).mono ?_; rintro e w2 ⟨rfl, hw2⟩; replace hw2 := hw2.symm; subst hw2) | (go_at_call 30; refine HON.out.mono ?_; rintro e w2 ⟨rfl, hw2⟩; replace hw2 := hw2.symm; subst hw2))
            refine ⟨⟨k + 1, by simp, by omega, ⟨a5, c5, by rw [HKK.out]⟩, hid ?_, hid (HBR.out.alloc hz _)⟩, by simp [intOf]; omega⟩
            rw [HKK.out]
            exact hown.alloc _
          · have HKK : Hid (openN ss (fA r) (k + 1) = openN ss (fA r) k ++ [k]) := hid (by rw [HN.out, hon]; simp)
            rw [hon] at HON
            clear hlf HN hon
            generalize openN ss (fA r) k = ks at *
            go_wp2_with (first
              | (go_at_call 29; refine (HLF.out _).mono ?_; rintro e w2 ⟨rfl, hw2⟩; replace hw2 := hw2.symm; subst hw2)
              | (go_at_call 30; refine HON.out.mono ?_; rintro e w2 ⟨rfl, hw2⟩; replace hw2 := hw2.symm; subst hw2)
              | (at_builtin; go_must (refine wpList_append_own _ rfl _ _ 23 rfl w1.heap.size 2 j0 (.int .i64 0) 1 8 Tryd.underlying23 hj hy0 hy1 hy2 rfl (by decide) _ _ _ rfl ((hown.alloc _).alloc _) ⟨wr.heap.size + 1, 0, none⟩ 1 1 [.int .i64 (k : Int)] rfl rfl (Pt.cell_one _ _ (by simp) _ _) (by simp [Value.oneCell']) (by unfold maxLen; omega) (by omega) (by simp; omega) ?_); intro v' w2 hown' hgrow _; obtain ⟨g9, c9, rfl⟩ := ownsRow_succ hown'))
            have hB2 : Below w1.heap.size w1 w2 := ((HBR.out.alloc hz _).alloc (by simp; omega) _).grown hgrow (by simp; omega) (fun b e => (Pt.own_lt hown e).1)
            refine ⟨⟨k + 1, by simp, by omega, ⟨some ⟨g9, 0, none⟩, c9, by rw [HKK.out, List.length_append]; rfl⟩, hid ?_, hid hB2⟩, by simp [intOf]; omega⟩
            rw [HKK.out]
            simpa [kidVals] using hown'
      · have hkn : k = ss.length := by omega
        have HKN := hid hkn
        have s0 := kept_cell HBR.out l1 r0
        have s1 := kept_cell HBR.out l1 r1
        have t0 := kept_free HBR.out l1 f0
        have t1 := kept_free HBR.out l1 f1
        have l2 : w.heap.size + 1 < wr.heap.size := Nat.lt_of_lt_of_le l1 HBR.out.size
        have B2 := B1.trans (HBR.out.mono B1.size)
        clear hkn r0 r1 f0 f1
        go_wp2
        refine bodyPost_ret (v := .agg #[.int .i64 0, .slice a5 (openN ss (fA r) k).length c5]) (by simp [results, Tryd.results14, go_sem, s0, s1]) rfl ⟨⟨_, retI HZ.out.symm, ?_⟩, setB (setB B2 (by omega) _) (by omega) _⟩
        rw [HV.out, intsOf_len, ← kidVals_eq, ← HKN.out]
        exact own_mono (own_set (own_set (own_mono HO.out (B' := w.heap.size + 2) (by omega)) (by omega)) (by omega)) (by omega)
end Kc
end Go.Proofs.YtdmekehlkfbigaaDoor
