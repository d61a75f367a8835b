/- LeavesOf, of the specification and of the program. Condition of the second: the table of rules lies as its initialiser lays it. -/
import Derived.Test.YtnbmpofmieagfaaGreatDoorJFnProcs7
namespace Go.Proofs.YtnbmpofmieagfaaGreatDoor
open Go.RowKit
set_option linter.unusedVariables false
namespace Pf
open Ex (hid inR eFault)
open Nd (NodeD)
open St (StepD)
open Tr (Chain cutTo onPath top nf ElemD)
open Pt (kidVals infoI64 info_parts)
open Ints (vals IntsAt)
def intsOf (l : List Nat) : List Int := l.map fun (n : Nat) => (n : Int)
theorem kidVals_eq (l : List Nat) : kidVals l = vals (intsOf l) := by simp [kidVals, vals, intsOf]
theorem intsOf_len (l : List Nat) : (intsOf l).length = l.length := by simp [intsOf]
def leafK (k : Int) : Bool := (k == 2) || (k == 5) || (k == 6)
def leavesN (ss : List StepD) (n : Nat) : List Nat := (List.range n).filter fun i => leafK (PJ ss i).kind
theorem leavesN_succ (ss : List StepD) (n : Nat) : leavesN ss (n + 1) = leavesN ss n ++ (if leafK (PJ ss n).kind = true then [n] else []) := by
  unfold leavesN
  rw [List.range_succ, List.filter_append]
  congr 1
  cases h : leafK (PJ ss n).kind
  · simp [h]
  · simp [h]
theorem leavesN_le (ss : List StepD) (n : Nat) : (leavesN ss n).length ≤ n := by
  unfold leavesN
  have := List.length_filter_le (fun i => leafK (PJ ss i).kind) (List.range n)
  simpa using this
def leavesL (ss : List StepD) : List Int := if pFault ss = 0 then intsOf (leavesN ss ss.length) else []
theorem leaves_ok {ss : List StepD} (h : pFault ss = 0) : leavesL ss = intsOf (leavesN ss ss.length) := by unfold leavesL; rw [if_pos h]
theorem leaves_bad {ss : List StepD} (h : pFault ss ≠ 0) : leavesL ss = [] := by unfold leavesL; rw [if_neg h]
theorem leavesL_len {ss : List StepD} : (leavesL ss).length ≤ ss.length := by
  unfold leavesL
  split
  · rw [intsOf_len]; exact leavesN_le ss ss.length
  · exact Nat.zero_le _
/-- What a function answers that answers a list of numbers. -/
def IPost (c : Int) (l : List Int) (w : World) (e : Ending) (w' : World) : Prop :=
  (∃ u, e = .returned (.agg #[.int .i64 c, u]) ∧ w'.ownsRow (w.heap.size + 1) 2 1 u l.length (vals l)) ∧ Below w.heap.size w w'
theorem retI {c d : Int} {v : Value} (h : c = d) : Ending.returned (.agg #[.int .i64 c, v]) = .returned (.agg #[.int .i64 d, v]) := by rw [h]
theorem own_set {w : World} {B n b c : Nat} {v u : Value} {xs : List Value} (h : w.ownsRow B 2 1 v n xs) (hb : b < B) : (w.setCell ⟨b, c, none⟩ u).ownsRow B 2 1 v n xs := ownsRow_setCell_below h (a := ⟨b, c, none⟩) hb u
theorem own_mono {w : World} {B B' n : Nat} {e : TypeId} {sz : Nat} {v : Value} {xs : List Value} (h : w.ownsRow B e sz v n xs) (hb : B' ≤ B) : w.ownsRow B' e sz v n xs := by
  refine ⟨h.1, ?_⟩
  rcases h.2 with h | ⟨g, cap, cur, rfl, h1, r⟩
  · exact .inl h
  · exact .inr ⟨g, cap, cur, rfl, Nat.le_trans hb h1, r⟩
set_option maxRecDepth 100000 in
set_option maxHeartbeats 400000 in
theorem specLeaf (k : Int) (w : World) : Calls Tryz.prog 33 #[.int .i64 k] w fun e w' => e = .returned (.bool (leafK k)) ∧ w' = w := by
  unfold leafK
  cases h1 : (k == 2)
  · cases h2 : (k == 5)
    · go_enter Tryz.func33, Tryz.ntmps33
      go_wp2
      go_ret
      exact ⟨by simp, rfl⟩
    · go_enter Tryz.func33, Tryz.ntmps33
      go_wp2
      go_ret
      exact ⟨by simp, rfl⟩
  · go_enter Tryz.func33, Tryz.ntmps33
    go_wp2
    go_ret
    exact ⟨by simp, rfl⟩
set_option maxRecDepth 100000 in
set_option maxHeartbeats 400000 in
theorem implLeaf (k : Int) (w : World) : Calls Tryz.prog 25 #[.int .i64 k] w fun e w' => e = .returned (.bool (leafK k)) ∧ w' = w := by
  unfold leafK
  cases h1 : (k == 2)
  · cases h2 : (k == 5)
    · go_enter Tryz.func25, Tryz.ntmps25
      go_wp2
      go_ret
      exact ⟨by simp, rfl⟩
    · go_enter Tryz.func25, Tryz.ntmps25
      go_wp2
      go_ret
      exact ⟨by simp, rfl⟩
  · go_enter Tryz.func25, Tryz.ntmps25
    go_wp2
    go_ret
    exact ⟨by simp, rfl⟩
set_option maxRecDepth 100000 in
set_option maxHeartbeats 8000000 in
theorem implLeavesOf (ss : List StepD) (v : Value) (w : World) (hsm : St.Small 1048576 ss) (ha : St.At w 0 v ss) (hr : Rul w) :
    Calls Tryz.prog 8 #[v] w (IPost (pFault ss) (leavesL ss) w) := by
  obtain ⟨a, cap, rfl⟩ := ha.slice
  have hb0 : Below w.heap.size w (w.alloc (.cells #[.int .i64 0, .slice none 0 0] 29)) := (Below.refl _ w).alloc (Nat.le_refl _) _
  have HF := hid (procSteps ss _ _ hsm (ha.below hb0) (hr.below hb0 hr.lt))
  clear ha hsm hr
  obtain ⟨j0, hj, hy0, hy1, hy2⟩ := info_parts infoI64
  unfold IPost
  go_enter Tryz.func8, Tryz.ntmps8
  go_wp2_with fail
  refine HF.out.mono ?_
  rintro e w1 ⟨⟨u, rfl, hu1, hu2⟩, hb1⟩
  have B1 : Below w.heap.size w w1 := hb0.trans (hb1.mono (by simp))
  simp only [World.size_alloc] at hb1
  have l1 : w.heap.size < w1.heap.size := by have := hb1.size; simp at this; omega
  have r0 := kept_cell hb1 (b := w.heap.size) (o := 0) (v := .int .i64 0) (by omega) (by go_simp)
  have r1 := kept_cell hb1 (b := w.heap.size) (o := 1) (v := .slice none 0 0) (by omega) (by go_simp)
  have f0 := kept_free hb1 (b := w.heap.size) (o := 0) (by omega) (by go_simp)
  have f1 := kept_free hb1 (b := w.heap.size) (o := 1) (by omega) (by go_simp)
  clear HF
  by_cases hf : pFault ss = 0
  · have b1 : (pFault ss != 0) = false := by simp [hf]
    have HP := hid (of_p hf)
    have hl : ss.length ≤ 24 := by have := HP.out.1; omega
    have HV := hid (leaves_ok hf)
    have hPA := hu2 hf
    have HFZ := hid hf
    obtain ⟨gu, cu, rfl, _⟩ := hPA
    have HPA := hid (hu2 hf)
    clear hf hu1 hu2
    go_wp2
    go_loopw [5, 7, 19] (fun o _ x wr => ∃ k : Nat, x = .int .i64 k ∧ k ≤ ss.length ∧ (∃ a5 c5, o = .slice a5 (leavesN ss k).length c5) ∧ Hid (wr.ownsRow w1.heap.size 2 1 o (leavesN ss k).length (kidVals (leavesN ss k))) ∧ Hid (Below w1.heap.size w1 wr)) (fun _ _ x _ => ss.length - (intOf x).toNat)
    case atStart => exact ⟨0, rfl, Nat.zero_le _, ⟨_, _, rfl⟩, hid (World.ownsRow_nil w1 _ _ 1), hid (Below.refl _ _)⟩
    case round =>
      obtain ⟨k, rfl, hk, ⟨a5, c5, rfl⟩, HO, HBR⟩ := hrel
      have hz := HBR.out.size
      by_cases hlt : k < ss.length
      · have hP := HPA.out.below HBR.out
        obtain ⟨g', cap', e', hg, hc⟩ := hP
        cases e'
        obtain ⟨kv, vc, ve, d0, d1, d2, d3, d4, d5, d6, d7, d8, hpc⟩ := hc k hlt
        obtain ⟨ak, ck, rfl⟩ := hpc.kids.slice
        obtain ⟨ac, cc, rfl⟩ := hpc.cond.slice
        obtain ⟨ae, ce, rfl⟩ := hpc.expr.slice
        have q1 : (k : Int) < (ss.length : Int) := by omega
        have HN := hid (leavesN_succ ss k)
        rw [PJ_eq hlt] at HN
        have hle := leavesN_le ss k
        have HLF := hid (fun wx => implLeaf ss[k].kind wx)
        clear hc hpc
        have hown := HO.out
        cases hlf : leafK ss[k].kind
        · have HK : Hid (leavesN ss (k + 1) = leavesN ss k) := hid (by rw [HN.out, hlf]; simp)
          rw [hlf] at HLF
          clear hlf HN
          go_wp2_with (go_at_call 25; refine (HLF.out _).mono ?_; rintro e w2 ⟨rfl, hw2⟩; replace hw2 := hw2.symm; subst hw2)
          refine ⟨⟨k + 1, by simp, by omega, ⟨a5, c5, by rw [HK.out]⟩, hid ?_, hid (HBR.out.alloc hz _)⟩, by simp [intOf]; omega⟩
          rw [HK.out]
          exact hown.alloc _
        · have HK : Hid (leavesN ss (k + 1) = leavesN ss k ++ [k]) := hid (by rw [HN.out, hlf]; simp)
          rw [hlf] at HLF
          clear hlf HN
          generalize leavesN ss k = ks at *
          go_wp2_with (first
            | (go_at_call 25; refine (HLF.out _).mono ?_; rintro e w2 ⟨rfl, hw2⟩; replace hw2 := hw2.symm; subst hw2)
            | (at_builtin; go_must (refine wpList_append_own _ rfl _ _ 27 rfl w1.heap.size 2 j0 (.int .i64 0) 1 8 Tryz.underlying27 hj hy0 hy1 hy2 rfl (by decide) _ _ _ rfl ((hown.alloc _).alloc _) ⟨wr.heap.size + 1, 0, none⟩ 1 1 [.int .i64 (k : Int)] rfl rfl (Pt.cell_one _ _ (by simp) _ _) (by simp [Value.oneCell']) (by unfold maxLen; omega) (by omega) (by simp; omega) ?_); intro v' w2 hown' hgrow _; obtain ⟨g9, c9, rfl⟩ := ownsRow_succ hown'))
          have hB2 : Below w1.heap.size w1 w2 := ((HBR.out.alloc hz _).alloc (by simp; omega) _).grown hgrow (by simp; omega) (fun b e => (Pt.own_lt hown e).1)
          refine ⟨⟨k + 1, by simp, by omega, ⟨some ⟨g9, 0, none⟩, c9, by rw [HK.out, List.length_append]; rfl⟩, hid ?_, hid hB2⟩, by simp [intOf]; omega⟩
          rw [HK.out]
          simpa [kidVals] using hown'
      · have hkn : k = ss.length := by omega
        have HK := hid hkn
        have s0 := kept_cell HBR.out l1 r0
        have s1 := kept_cell HBR.out l1 r1
        have t0 := kept_free HBR.out l1 f0
        have t1 := kept_free HBR.out l1 f1
        have l2 : w.heap.size < wr.heap.size := Nat.lt_of_lt_of_le l1 HBR.out.size
        have B2 := B1.trans (HBR.out.mono B1.size)
        clear hkn r0 r1 f0 f1
        go_wp2
        refine bodyPost_ret (v := .agg #[.int .i64 0, .slice a5 (leavesN ss k).length c5]) (by simp [results, Tryz.results8, go_sem, s0, s1]) rfl ⟨⟨_, retI HFZ.out.symm, ?_⟩, setB (setB B2 (Nat.le_refl _) _) (Nat.le_refl _) _⟩
        rw [HV.out, intsOf_len, ← kidVals_eq, ← HK.out]
        exact own_set (own_set (own_mono HO.out (by omega)) (by omega)) (by omega)
  · have b1 : (pFault ss != 0) = true := bne_iff_ne.2 hf
    have HV := hid (leaves_bad hf)
    obtain rfl := hu1 hf
    clear hf hu1 hu2
    go_wp2
    refine bodyPost_ret (v := .agg #[.int .i64 (pFault ss), .slice none 0 0]) (by simp [results, Tryz.results8, go_sem, r0, r1]) rfl ⟨⟨_, rfl, ?_⟩, setB (setB B1 (Nat.le_refl _) _) (Nat.le_refl _) _⟩
    rw [HV.out]
    exact World.ownsRow_nil _ _ _ _
set_option maxRecDepth 100000 in
set_option maxHeartbeats 8000000 in
theorem specLeavesOf (B : Nat) (ss : List StepD) (v : Value) (w : World) (hsm : St.Small 1048576 ss) (ha : St.At w B v ss) :
    Calls Tryz.prog 12 #[v] w (IPost (pFault ss) (leavesL ss) w) := by
  obtain ⟨a, cap, rfl⟩ := ha.slice
  have hb0 : Below w.heap.size w (w.alloc (.cells #[.int .i64 0, .slice none 0 0] 29)) := (Below.refl _ w).alloc (Nat.le_refl _) _
  have HF := hid (specFault B ss _ _ hsm (ha.below hb0))
  have HA := hid ha
  clear ha hsm
  obtain ⟨j0, hj, hy0, hy1, hy2⟩ := info_parts infoI64
  unfold IPost
  go_enter Tryz.func12, Tryz.ntmps12
  go_wp2_with fail
  refine HF.out.mono ?_
  rintro e w1 ⟨rfl, hb1⟩
  have B1 : Below w.heap.size w w1 := hb0.trans (hb1.mono (by simp))
  simp only [World.size_alloc] at hb1
  have l1 : w.heap.size < w1.heap.size := by have := hb1.size; simp at this; omega
  have r0 := kept_cell hb1 (b := w.heap.size) (o := 0) (v := .int .i64 0) (by omega) (by go_simp)
  have r1 := kept_cell hb1 (b := w.heap.size) (o := 1) (v := .slice none 0 0) (by omega) (by go_simp)
  have f0 := kept_free hb1 (b := w.heap.size) (o := 0) (by omega) (by go_simp)
  have f1 := kept_free hb1 (b := w.heap.size) (o := 1) (by omega) (by go_simp)
  clear HF
  by_cases hf : pFault ss = 0
  · have b1 : (pFault ss != 0) = false := by simp [hf]
    have HP := hid (of_p hf)
    have hl : ss.length ≤ 24 := by have := HP.out.1; omega
    have HV := hid (leaves_ok hf)
    have HFZ := hid hf
    have hb2 : Below w1.heap.size w1 (w1.alloc (.cells #[.int .i64 0, .slice none 0 0] 29)) := (Below.refl _ w1).alloc (Nat.le_refl _) _
    have HB2 := hid hb2
    have HX : Hid ((w1.alloc (.cells #[.int .i64 0, .slice none 0 0] 29)).heap[w1.heap.size]? = some (.cells #[.int .i64 0, .slice none 0 0] 29 (0, 0))) := hid (World.alloc_heap_new w1 _)
    clear hf hb2
    go_wp2
    go_loopw [5] (fun x wr => ∃ (k : Nat) (a5 : Option Addr) (c5 : Nat), x = .int .i64 k ∧ k ≤ ss.length ∧ Hid (wr.heap[w1.heap.size]? = some (.cells #[.int .i64 0, .slice a5 (leavesN ss k).length c5] 29 (0, 0))) ∧ Hid (wr.ownsRow (w1.heap.size + 1) 2 1 (.slice a5 (leavesN ss k).length c5) (leavesN ss k).length (kidVals (leavesN ss k))) ∧ Hid (Below w1.heap.size w1 wr)) (fun x _ => ss.length - (intOf x).toNat)
    case atStart => exact ⟨0, none, 0, rfl, Nat.zero_le _, HX, hid (World.ownsRow_nil _ _ _ 1), HB2⟩
    case round =>
      obtain ⟨k, a5, c5, rfl, hk, HC, HO, HBR⟩ := hrel
      have hz := HBR.out.size
      have hcl : w1.heap.size < wr.heap.size := (Array.getElem?_eq_some_iff.1 HC.out).1
      have m0 : wr.cell? ⟨w1.heap.size, 0, none⟩ = some (.int .i64 0) := by simp [World.cell?, HC.out]
      have m1 : wr.cell? ⟨w1.heap.size, 1, none⟩ = some (.slice a5 (leavesN ss k).length c5) := by simp [World.cell?, HC.out]
      by_cases hlt : k < ss.length
      · obtain ⟨g, o, vc, ve, rfl, hg, d0, d1, d2, d3, d4, d5, _⟩ := (HA.out.below (B1.trans (HBR.out.mono B1.size))).at hlt
        have q1 : (k : Int) < (ss.length : Int) := by omega
        have HN := hid (leavesN_succ ss k)
        rw [PJ_eq hlt] at HN
        have hle := leavesN_le ss k
        have HLF := hid (fun wx => specLeaf ss[k].kind wx)
        clear d1 d2 d3 d4 d5
        have hown := HO.out
        cases hlf : leafK ss[k].kind
        · have HK : Hid (leavesN ss (k + 1) = leavesN ss k) := hid (by rw [HN.out, hlf]; simp)
          rw [hlf] at HLF
          clear hlf HN
          go_wp2_with (go_at_call 33; refine (HLF.out _).mono ?_; rintro e w2 ⟨rfl, hw2⟩; replace hw2 := hw2.symm; subst hw2)
          refine ⟨⟨k + 1, a5, c5, by simp, by omega, hid ?_, hid ?_, HBR⟩, by simp [intOf]; omega⟩
          · rw [HK.out]; exact HC.out
          · rw [HK.out]; exact HO.out
        · have HK : Hid (leavesN ss (k + 1) = leavesN ss k ++ [k]) := hid (by rw [HN.out, hlf]; simp)
          rw [hlf] at HLF
          clear hlf HN
          have hne : (Value.slice a5 (leavesN ss k).length c5).ownBlock ≠ some w1.heap.size := fun e => by have := (Pt.own_lt hown e).1; omega
          have HNE := hid hne
          clear hne
          generalize leavesN ss k = ks at *
          have hC1 : (wr.alloc (.cells #[.int .i64 (k : Int)] 2)).heap[w1.heap.size]? = some (.cells #[.int .i64 0, .slice a5 ks.length c5] 29 (0, 0)) := by
            rw [((Below.refl wr.heap.size wr).alloc (Nat.le_refl _) (.cells #[.int .i64 (k : Int)] 2)).block _ hcl]
            exact HC.out
          have HC1 := hid hC1
          have hcl1 : w1.heap.size < (wr.alloc (.cells #[.int .i64 (k : Int)] 2)).heap.size := by simp; omega
          clear hC1
          go_wp2_with (first
            | (go_at_call 33; refine (HLF.out _).mono ?_; rintro e w2 ⟨rfl, hw2⟩; replace hw2 := hw2.symm; subst hw2)
            | (at_builtin; go_must (refine wpList_append_own _ rfl _ _ 27 rfl (w1.heap.size + 1) 2 j0 (.int .i64 0) 1 8 Tryz.underlying27 hj hy0 hy1 hy2 rfl (by decide) _ _ _ rfl (hown.alloc _) ⟨wr.heap.size, 0, none⟩ 1 1 [.int .i64 (k : Int)] rfl rfl (cell_one_new _ _ _) (by simp [Value.oneCell']) (by unfold maxLen; omega) (by omega) (by simp; omega) ?_); intro v' w2 hown' hgrow _; obtain ⟨g9, c9, rfl⟩ := ownsRow_succ hown'; have hC2 : w2.heap[w1.heap.size]? = some (.cells #[.int .i64 0, .slice a5 ks.length c5] 29 (0, 0)) := (hgrow.block _ hcl1 (fun e => HNE.out e.symm)).trans HC1.out; have p0 : w2.cell? ⟨w1.heap.size, 0, none⟩ = some (.int .i64 0) := (by simp [World.cell?, hC2]); have p1 : w2.cell? ⟨w1.heap.size, 1, none⟩ = some (.slice a5 ks.length c5) := (by simp [World.cell?, hC2]); have p2 : w2.frozen? ⟨w1.heap.size, 1, none⟩ = false := (by simp [World.frozen?, hC2]); have hw2l : w1.heap.size < w2.heap.size := (Array.getElem?_eq_some_iff.1 hC2).1))
          have hB2 : Below w1.heap.size w1 w2 := (HBR.out.alloc hz _).grown hgrow (by simp; omega) (fun b e => by have := (Pt.own_lt hown e).1; omega)
          refine ⟨⟨k + 1, some ⟨g9, 0, none⟩, c9, by simp, by omega, hid ?_, hid ?_, hid (setB hB2 (Nat.le_refl _) _)⟩, by simp [intOf]; omega⟩
          · rw [HK.out, List.length_append]
            simp [World.setCell, Array.getElem?_modify, hC2]
          · rw [HK.out]
            refine own_set ?_ (by omega)
            simpa [kidVals] using hown'
      · have hkn : k = ss.length := by omega
        have HK := hid hkn
        have s0 := kept_cell HBR.out l1 r0
        have s1 := kept_cell HBR.out l1 r1
        have t0 := kept_free HBR.out l1 f0
        have t1 := kept_free HBR.out l1 f1
        have l2 : w.heap.size < wr.heap.size := Nat.lt_of_lt_of_le l1 HBR.out.size
        have B2 := B1.trans (HBR.out.mono B1.size)
        clear hkn r0 r1 f0 f1
        go_wp2
        refine bodyPost_ret (v := .agg #[.int .i64 0, .slice a5 (leavesN ss k).length c5]) (by simp [results, Tryz.results12, go_sem, s0, s1]) rfl ⟨⟨_, retI HFZ.out.symm, ?_⟩, setB (setB B2 (Nat.le_refl _) _) (Nat.le_refl _) _⟩
        rw [HV.out, intsOf_len, ← kidVals_eq, ← HK.out]
        exact own_set (own_set (own_mono HO.out (by omega)) (by omega)) (by omega)
  · have b1 : (pFault ss != 0) = true := bne_iff_ne.2 hf
    have HV := hid (leaves_bad hf)
    clear hf
    go_wp2
    refine bodyPost_ret (v := .agg #[.int .i64 (pFault ss), .slice none 0 0]) (by simp [results, Tryz.results12, go_sem, r0, r1]) rfl ⟨⟨_, rfl, ?_⟩, setB (setB B1 (Nat.le_refl _) _) (Nat.le_refl _) _⟩
    rw [HV.out]
    exact World.ownsRow_nil _ _ _ _
end Pf
end Go.Proofs.YtnbmpofmieagfaaGreatDoor
