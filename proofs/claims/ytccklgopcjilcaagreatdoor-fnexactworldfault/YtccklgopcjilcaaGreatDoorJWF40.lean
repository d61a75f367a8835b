/- Laid together: KfI, KfG, KfH, KfJ. -/
import Derived.Test.YtccklgopcjilcaaGreatDoorJWF39
import Derived.ChangeKeysEq
import Derived.Deep.RegionHeld3
/- The numbers of a chart, asked by the program. -/
namespace Go.Proofs.YtccklgopcjilcaaGreatDoor
open Go.RowKit Go.Deep
set_option linter.unusedVariables false
namespace Kc
open Ex (inR evalCode evalVal vFault hid)
open St (StepD)
open Ch (RunD)
open Pf
set_option maxRecDepth 100000 in
set_option maxHeartbeats 1000000 in
theorem isTime (x : Int) (w : World) : Calls Tryz.prog 145 #[.int .i64 x] w fun e w' => e = .returned (.bool (inR x 0 1000000)) ∧ w' = w := by
  by_cases h1 : (0 : Int) ≤ x
  · by_cases h2 : x ≤ 1000000
    · have HV : Hid (inR x 0 1000000 = true) := hid (Ex.inR_iff.2 ⟨h1, h2⟩)
      go_enter Tryz.func145, Tryz.ntmps145
      go_wp2
      go_ret
      exact ⟨by rw [HV.out]; rfl, rfl⟩
    · have HV : Hid (inR x 0 1000000 = false) := hid (Ex.inR_not.2 (by omega))
      go_enter Tryz.func145, Tryz.ntmps145
      go_wp2
      go_ret
      exact ⟨by rw [HV.out]; rfl, rfl⟩
  · have HV : Hid (inR x 0 1000000 = false) := hid (Ex.inR_not.2 (by omega))
    go_enter Tryz.func145, Tryz.ntmps145
    go_wp2
    go_ret
    exact ⟨by rw [HV.out]; rfl, rfl⟩
set_option maxRecDepth 100000 in
set_option maxHeartbeats 2000000 in
theorem stateFault (B : Nat) (st now : Int) (vars : List Int) (v : Value) (w : World) (hl : vars.length ≤ 1048576) (ha : Nu.At w B v vars) :
    Calls Tryz.prog 163 #[.int .i64 st, .int .i64 now, v] w fun e w' => e = .returned (.int .i64 (stateC st now vars)) ∧ Below w.heap.size w w' := by
  have HT := hid (fun w' => isTime now w')
  have HV := hid (Ex.implVarsB B vars v w hl ha)
  obtain ⟨a, cap, rfl⟩ := ha.slice
  clear ha
  cases h1 : inR st 1 3
  · have HX := hid (st_status (now := now) (vars := vars) h1)
    have h1' := Ex.inR_not.1 h1
    by_cases q1 : st < 1
    · clear h1 h1'
      go_enter Tryz.func163, Tryz.ntmps163
      go_wp2
      go_ret
      exact ⟨by rw [HX.out]; rfl, Below.refl _ _⟩
    · have q2 : (3 : Int) < st := by omega
      clear h1 h1'
      go_enter Tryz.func163, Tryz.ntmps163
      go_wp2
      go_ret
      exact ⟨by rw [HX.out]; rfl, Below.refl _ _⟩
  · have h1' := Ex.inR_iff.1 h1
    have q1 : ¬ st < 1 := by omega
    have q2 : ¬ (3 : Int) < st := by omega
    cases h2 : inR now 0 1000000
    · have HX := hid (st_now (vars := vars) h1 h2)
      rw [h2] at HT
      clear h1 h1' h2
      go_enter Tryz.func163, Tryz.ntmps163
      go_wp2_with (go_at_call 145; refine (HT.out _).mono ?_; rintro e w2 ⟨rfl, hw2⟩; replace hw2 := hw2.symm; subst hw2)
      go_ret
      exact ⟨by rw [HX.out]; rfl, Below.refl _ _⟩
    · have HX := hid (st_vars (vars := vars) h1 h2)
      rw [h2] at HT
      clear h1 h1' h2
      go_enter Tryz.func163, Tryz.ntmps163
      go_wp2_with (first | (go_at_call 145; refine (HT.out _).mono ?_; rintro e w2 ⟨rfl, hw2⟩; replace hw2 := hw2.symm; subst hw2) | (go_at_call 199; refine HV.out.mono ?_; rintro e w2 ⟨rfl, hb2⟩))
      go_ret
      exact ⟨by rw [HX.out]; rfl, by assumption⟩
set_option maxRecDepth 100000 in
set_option maxHeartbeats 2000000 in
theorem allWithin (B : Nat) (l : List Int) (m : Int) (v : Value) (w : World) (hl : l.length ≤ 1048576) (ha : Nu.At w B v l) :
    Calls Tryz.prog 164 #[v, .int .i64 m] w fun e w' => e = .returned (.bool (within l m)) ∧ w' = w := by
  obtain ⟨a, cap, rfl⟩ := ha.slice
  have HA := hid ha
  clear ha
  go_enter Tryz.func164, Tryz.ntmps164
  go_wp2
  go_loop [6, 9] (fun _ x => ∃ i : Nat, x = .int .i64 i ∧ i ≤ l.length ∧ Hid (within (l.take i) m = true)) (fun _ x => l.length - (intOf x).toNat)
  case atStart => exact ⟨0, rfl, Nat.zero_le _, hid rfl⟩
  case round =>
    obtain ⟨i, rfl, hi, HW⟩ := hrel
    by_cases hlt : i < l.length
    · obtain ⟨g, o, rfl, hg, hc⟩ := HA.out.at hlt
      have q1 : (i : Int) < (l.length : Int) := by omega
      have HN := hid (within_take (m := m) hlt)
      have HBD := hid (within_bad (m := m) hlt)
      generalize l[i] = x at *
      cases hx : inR x 0 m
      · have HF := hid (HBD.out hx)
        have h2 := Ex.inR_not.1 hx
        by_cases q2 : x < 0
        · clear h2 hx HBD HN
          go_wp2
          go_ret
          exact ⟨by rw [HF.out]; rfl, rfl⟩
        · have q3 : m < x := by omega
          clear h2 hx HBD HN
          go_wp2
          go_ret
          exact ⟨by rw [HF.out]; rfl, rfl⟩
      · have h2 := Ex.inR_iff.1 hx
        have q2 : ¬ x < 0 := by omega
        have q3 : ¬ m < x := by omega
        have HW2 : Hid (within (l.take (i + 1)) m = true) := hid (by rw [HN.out, HW.out, hx]; rfl)
        clear h2 hx HBD HN
        go_wp2
        exact ⟨⟨i + 1, by simp, by omega, HW2⟩, by simp [intOf]; omega⟩
    · have HF : Hid (within l m = true) := hid (by have := HW.out; rwa [List.take_of_length_le (by omega)] at this)
      have q1 : ¬ (i : Int) < (l.length : Int) := by omega
      go_wp2
      go_ret
      exact ⟨by rw [HF.out]; rfl, rfl⟩
set_option maxRecDepth 100000 in
set_option maxHeartbeats 4000000 in
theorem numbersFault (r : RunD) (sa : Option Addr) (n sc : Nat) (v1 v2 v3 : Value) (w : World) (hn : n ≤ 24) (hs : Ch.Small 1048576 r) (ha : Ch.At w 0 v1 v2 v3 r) :
    Calls Tryz.prog 123 #[.slice sa n sc, .agg #[.int .i64 r.status, .int .i64 r.now, v1, v2, v3]] w fun e w' => e = .returned (.int .i64 (numC n r)) ∧ Below w.heap.size w w' := by
  obtain ⟨a1, c1, rfl⟩ := ha.vars.slice
  obtain ⟨a2, c2, rfl⟩ := ha.marks.slice
  obtain ⟨a3, c3, rfl⟩ := ha.dues.slice
  have s1 := hs.vars
  have s2 := hs.marks
  have s3 := hs.dues
  obtain ⟨w0, e0⟩ : ∃ w0, w0 = w.alloc (.cells #[.int .i64 r.status, .int .i64 r.now, .slice a1 r.vars.length c1, .slice a2 r.marks.length c2, .slice a3 r.dues.length c3] 112) := ⟨_, rfl⟩
  have hb0 : Below w.heap.size w w0 := by rw [e0]; exact (Below.refl _ w).alloc (Nat.le_refl _) _
  have hk0 : w0.heap[w.heap.size]? = some (.cells #[.int .i64 r.status, .int .i64 r.now, .slice a1 r.vars.length c1, .slice a2 r.marks.length c2, .slice a3 r.dues.length c3] 112) := by rw [e0]; exact Ch.new_blk _ _
  have HS := hid (stateFault 0 r.status r.now r.vars _ w0 (by omega) (ha.vars.below hb0))
  have HA2 := hid (ha.marks.below hb0)
  have HA3 := hid (ha.dues.below hb0)
  have HB0 := hid hb0
  clear ha hb0 hs
  go_enter Tryz.func123, Tryz.ntmps123
  go_wp2_with fail
  rw [← e0]
  refine HS.out.mono ?_
  rintro e w1 ⟨rfl, hb1⟩
  have hk1 := (hb1.block _ (Ch.blk_lt hk0)).trans hk0
  have d0 : w1.cell? ⟨w.heap.size, 0, none⟩ = some (.int .i64 r.status) := Ch.blk_cell hk1 0
  have d1 : w1.cell? ⟨w.heap.size, 1, none⟩ = some (.int .i64 r.now) := Ch.blk_cell hk1 1
  have d3 : w1.cell? ⟨w.heap.size, 3, none⟩ = some (.slice a2 r.marks.length c2) := Ch.blk_cell hk1 3
  have d4 : w1.cell? ⟨w.heap.size, 4, none⟩ = some (.slice a3 r.dues.length c3) := Ch.blk_cell hk1 4
  have HB1 := hid (HB0.out.trans (hb1.mono HB0.out.size))
  have HM := hid (fun w' (e : w' = w1) => allWithin 0 r.marks 2 (.slice a2 r.marks.length c2) w' (by omega) (by rw [e]; exact HA2.out.below hb1))
  have HD := hid (fun w' (e : w' = w1) => allWithin 0 r.dues (r.now + 99) (.slice a3 r.dues.length c3) w' (by omega) (by rw [e]; exact HA3.out.below hb1))
  clear HS HA2 HA3 hb1 hk1 hk0 e0
  by_cases h0 : stateC r.status r.now r.vars = 0
  · have b0 : (stateC r.status r.now r.vars != 0) = false := by simp [h0]
    obtain ⟨_, hnow, _⟩ := of_state h0
    have hnow' := Ex.inR_iff.1 hnow
    clear hnow
    by_cases h1 : r.marks.length = n ∧ r.dues.length = n
    · have b1 : ((r.marks.length : Int) != (n : Int)) = false := by simp [h1.1]
      have b2 : ((r.dues.length : Int) != (n : Int)) = false := by simp [h1.2]
      have HX1 := hid (num_range h0 h1.1 h1.2)
      have HX2 := hid (num_ok h0 h1.1 h1.2)
      clear h0 h1
      cases h2 : within r.marks 2
      · have HX := hid (HX1.out (by rw [h2]; rfl))
        rw [h2] at HM
        clear h2 HX1 HX2
        go_wp2_with (go_at_call 164; refine (HM.out _ rfl).mono ?_; rintro e w2 ⟨rfl, hw2⟩; replace hw2 := hw2.symm; subst hw2)
        go_ret
        exact ⟨by rw [HX.out]; rfl, HB1.out⟩
      · rw [h2] at HM
        cases h3 : within r.dues (r.now + 99)
        · have HX := hid (HX1.out (by rw [h2, h3]; rfl))
          rw [h3] at HD
          clear h2 h3 HX1 HX2
          go_wp2_with fail
          refine (HM.out _ rfl).mono ?_
          rintro e w2 ⟨rfl, hw2⟩
          replace hw2 := hw2.symm
          subst hw2
          go_wp2_with fail
          refine (HD.out _ rfl).mono ?_
          rintro e w2 ⟨rfl, hw2⟩
          replace hw2 := hw2.symm
          subst hw2
          go_wp2
          go_ret
          exact ⟨by rw [HX.out]; rfl, HB1.out⟩
        · have HX := hid (HX2.out h2 h3)
          rw [h3] at HD
          clear h2 h3 HX1 HX2
          go_wp2_with fail
          refine (HM.out _ rfl).mono ?_
          rintro e w2 ⟨rfl, hw2⟩
          replace hw2 := hw2.symm
          subst hw2
          go_wp2_with fail
          refine (HD.out _ rfl).mono ?_
          rintro e w2 ⟨rfl, hw2⟩
          replace hw2 := hw2.symm
          subst hw2
          go_wp2
          go_ret
          exact ⟨by rw [HX.out]; rfl, HB1.out⟩
    · have HX := hid (num_len h0 h1)
      clear HM HD
      by_cases h2 : r.marks.length = n
      · have b1 : ((r.marks.length : Int) != (n : Int)) = false := by simp [h2]
        have b2 : ((r.dues.length : Int) != (n : Int)) = true := bne_iff_ne.2 (fun e => h1 ⟨h2, by omega⟩)
        clear h0 h1 h2
        go_wp2
        go_ret
        exact ⟨by rw [HX.out]; rfl, HB1.out⟩
      · have b1 : ((r.marks.length : Int) != (n : Int)) = true := bne_iff_ne.2 (fun e => h2 (by omega))
        clear h0 h1 h2
        go_wp2
        go_ret
        exact ⟨by rw [HX.out]; rfl, HB1.out⟩
  · have b0 : (stateC r.status r.now r.vars != 0) = true := bne_iff_ne.2 h0
    have HX := hid (num_state (n := n) h0)
    clear h0 HM HD
    go_wp2
    go_ret
    exact ⟨by rw [HX.out]; rfl, HB1.out⟩
end Kc
end Go.Proofs.YtccklgopcjilcaaGreatDoor
/- Whether a chart goes together, asked by the program. -/
namespace Go.Proofs.YtccklgopcjilcaaGreatDoor
open Go.RowKit Go.Deep
set_option linter.unusedVariables false
namespace Kc
open Ex (inR evalCode evalVal vFault hid)
open St (StepD)
open Ch (RunD)
open Pf
theorem kids_at {w : World} {v : Value} {l : List Nat} (h : KidsAt w v l) (h0 : 0 < l.length) : ∃ bk cap, v = .slice (some ⟨bk, 0, none⟩) l.length cap ∧ bk < w.heap.size ∧ l.length ≤ cap ∧ cap ≤ maxLen ∧ ∀ i (h : i < l.length), w.cell? ⟨bk, i, none⟩ = some (.int .i64 (l[i] : Int)) := by
  obtain ⟨B, ho⟩ := h
  obtain ⟨_, ⟨_, h1⟩ | ⟨g, cap, cur, rfl, hbg, hg, hle, hm, hs, hcur⟩⟩ := ho
  · omega
  · refine ⟨g, cap, rfl, (Array.getElem?_eq_some_iff.1 hg).1, by simpa using hle, hm, fun i hi => ?_⟩
    have h2 : (Pt.kidVals l)[i]? = some (.int .i64 (l[i] : Int)) := by simp [Pt.kidVals, hi]
    rw [← hcur, List.getElem?_take, if_pos (by omega)] at h2
    simp only [World.cell?, hg, Option.isSome_none, Bool.false_eq_true, if_false]
    simpa using h2
theorem kid24 {ss : List StepD} {j x : Nat} (hl : ss.length ≤ 24) (h : x ∈ kidsL ss j) : x < 24 := by have := (kid_mem.1 h).1; omega
set_option maxRecDepth 100000 in
set_option maxHeartbeats 4000000 in
theorem countKids (wg w : World) (R : Nat) (u : Value) (ss : List StepD) (s : CS) (j : Nat) (hj : j < ss.length) (hl : ss.length ≤ 24) (kv vc ve : Value) (d : Int) (v : Int) (hc : PCells w ss j hj kv vc ve) (h : KAt wg w R u ss s) :
    Calls Tryz.prog 200 #[.pointer (some ⟨R, 0, none⟩), .agg #[.int .i64 (j : Int), .int .i64 d, kv, .int .i64 ss[j].kind, .int .i64 ss[j].parent, .string ss[j].name, .int .i64 ss[j].arg, vc, ve], .int .i64 v] w fun e w' => e = .returned (.int .i64 (cntK s.acts (kidsL ss j) v : Int)) ∧ Below w.heap.size w w' := by
  have hks := hc.kids
  obtain ⟨ak, ck, rfl⟩ := hks.slice
  obtain ⟨ac, cc, rfl⟩ := hc.cond.slice
  obtain ⟨ae, ce, rfl⟩ := hc.expr.slice
  have hin : Hid (∀ x ∈ kidsL ss j, x < 24) := hid (fun x hx => kid24 hl hx)
  have hlen : (kidsL ss j).length ≤ 24 := by have := kidsN_le ss ss.length j; unfold kidsL; omega
  obtain ⟨w0, e0⟩ : ∃ w0, w0 = w.alloc (.cells #[.int .i64 (j : Int), .int .i64 d, .slice ak (kidsL ss j).length ck, .int .i64 ss[j].kind, .int .i64 ss[j].parent, .string ss[j].name, .int .i64 ss[j].arg, .slice ac ss[j].cond.length cc, .slice ae ss[j].expr.length ce] 231) := ⟨_, rfl⟩
  have hb0 : Below w.heap.size w w0 := by rw [e0]; exact (Below.refl _ w).alloc (Nat.le_refl _) _
  have HB0 := hid hb0
  have HK := hid (h.below hb0)
  have HKS := hid (hks.below hb0)
  have k2 : w0.cell? ⟨w.heap.size, 2, none⟩ = some (.slice ak (kidsL ss j).length ck) := by rw [e0]; exact Ch.blk_cell (Ch.new_blk _ _) 2
  clear hc h hks hb0
  generalize kidsL ss j = ks at *
  go_enter Tryz.func200, Tryz.ntmps200
  go_wp2
  rw [← e0]
  clear e0
  go_loop [7, 9, 14] (fun c _ x => ∃ i : Nat, x = .int .i64 i ∧ i ≤ ks.length ∧ ∃ m : Nat, c = .int .i64 m ∧ m ≤ i ∧ Hid (m = cntK s.acts (ks.take i) v)) (fun _ _ x => ks.length - (intOf x).toNat)
  case atStart => exact ⟨0, rfl, Nat.zero_le _, 0, rfl, Nat.le_refl _, hid rfl⟩
  case round =>
    obtain ⟨i, rfl, hi, m, rfl, hm, HM⟩ := hrel
    by_cases hlt : i < ks.length
    · obtain ⟨bk, cap, e, hbk, _, _, hcell⟩ := kids_at HKS.out (by omega)
      cases e
      have c1 := hcell i hlt
      have hx := hin.out _ (List.getElem_mem hlt)
      have c2 := HK.out.cA hx
      have q1 : (i : Int) < (ks.length : Int) := by omega
      have q2 : (0 : Int) ≤ (ks[i] : Int) := by omega
      have q3 : (ks[i] : Int) < 24 := by omega
      have HN : Hid (cntK s.acts (ks.take (i + 1)) v = cntK s.acts (ks.take i) v + if s.acts ks[i] = v then 1 else 0) := hid (by rw [List.take_succ_eq_append_getElem hlt, cntK_snoc])
      clear hcell
      generalize ks[i] = x at *
      by_cases hv : s.acts x = v
      · have b1 : (s.acts x == v) = true := by simp [hv]
        have HX : Hid (m + 1 = cntK s.acts (ks.take (i + 1)) v) := hid (by rw [HN.out, HM.out, if_pos hv])
        clear hv HN HM
        go_wp2
        exact ⟨⟨i + 1, by simp, by omega, m + 1, by simp, by omega, HX⟩, by simp [intOf]; omega⟩
      · have b1 : (s.acts x == v) = false := by simp [hv]
        have HX : Hid (m = cntK s.acts (ks.take (i + 1)) v) := hid (by rw [HN.out, HM.out, if_neg hv]; rfl)
        clear hv HN HM
        go_wp2
        exact ⟨⟨i + 1, by simp, by omega, m, rfl, by omega, HX⟩, by simp [intOf]; omega⟩
    · have q1 : ¬ (i : Int) < (ks.length : Int) := by omega
      have HX : Hid (m = cntK s.acts ks v) := hid (by have := HM.out; rwa [List.take_of_length_le (by omega)] at this)
      clear HM
      go_wp2
      go_ret
      exact ⟨by rw [← HX.out]; rfl, HB0.out⟩
end Kc
end Go.Proofs.YtccklgopcjilcaaGreatDoor
/- Whether a chart goes together, asked by the program. -/
namespace Go.Proofs.YtccklgopcjilcaaGreatDoor
open Go.RowKit Go.Deep
set_option linter.unusedVariables false
set_option linter.unusedSimpArgs false
namespace Kc
open Ex (inR evalCode evalVal vFault hid)
open St (StepD)
open Ch (RunD)
open Pf
/-- The block of a step with its place. -/
def PBlk (w : World) (b : Nat) (cs : Array Value) : Prop := w.heap[b]? = some (.cells cs 231)
theorem PBlk.below {w w' : World} {b : Nat} {cs : Array Value} (h : PBlk w b cs) (hb : Below w.heap.size w w') : PBlk w' b cs := (hb.block b (Ch.blk_lt h)).trans h
theorem PBlk.drew {w : World} {b : Nat} {cs : Array Value} (h : PBlk w b cs) : PBlk w.drew b cs := h
theorem PBlk.cell {w : World} {b : Nat} {cs : Array Value} (h : PBlk w b cs) (i : Nat) : w.cell? ⟨b, i, none⟩ = cs[i]? := Ch.blk_cell h i
set_option maxRecDepth 100000 in
set_option maxHeartbeats 8000000 in
theorem hasRightKids (wg w : World) (R : Nat) (u : Value) (ss : List StepD) (s : CS) (j : Nat) (hj : j < ss.length) (hl : ss.length ≤ 24) (kv vc ve : Value) (d : Int) (hc : PCells w ss j hj kv vc ve) (h : KAt wg w R u ss s) :
    Calls Tryz.prog 166 #[.pointer (some ⟨R, 0, none⟩), .agg #[.int .i64 (j : Int), .int .i64 d, kv, .int .i64 ss[j].kind, .int .i64 ss[j].parent, .string ss[j].name, .int .i64 ss[j].arg, vc, ve]] w fun e w' => e = .returned (.bool (rightKids ss s.acts j)) ∧ Below w.heap.size w w' := by
  have HC : Hid (∀ (v : Int) wx, Below w.heap.size w wx → Calls Tryz.prog 200 #[.pointer (some ⟨R, 0, none⟩), .agg #[.int .i64 (j : Int), .int .i64 d, kv, .int .i64 ss[j].kind, .int .i64 ss[j].parent, .string ss[j].name, .int .i64 ss[j].arg, vc, ve], .int .i64 v] wx fun e w' => e = .returned (.int .i64 (cntK s.acts (kidsL ss j) v : Int)) ∧ Below wx.heap.size wx w') := hid (fun v wx hb => countKids wg wx R u ss s j hj hl kv vc ve d v (hc.below hb) (h.below hb))
  have HO : Hid (∀ wx, Below w.heap.size w wx → Calls Tryz.prog 165 #[.pointer (some ⟨R, 0, none⟩), .int .i64 (j : Int)] wx fun e w' => e = .returned (.bool (s.acts j == 1)) ∧ w' = wx) := hid (fun wx hb => isOn wg wx R u ss s j (by omega) (h.below hb))
  obtain ⟨ak, ck, rfl⟩ := hc.kids.slice
  obtain ⟨ac, cc, rfl⟩ := hc.cond.slice
  obtain ⟨ae, ce, rfl⟩ := hc.expr.slice
  have hlen : (kidsL ss j).length ≤ 24 := by have := kidsN_le ss ss.length j; unfold kidsL; omega
  have ho1 := cntK_le s.acts (kidsL ss j) 1
  have ho2 := cntK_le s.acts (kidsL ss j) 2
  have HV : Hid (rightKids ss s.acts j = if (kidsL ss j).length = 0 then true else if s.acts j ≠ 1 then (cntK s.acts (kidsL ss j) 1 == 0) && (cntK s.acts (kidsL ss j) 2 == 0) else if ss[j].kind = 4 then decide (0 < cntK s.acts (kidsL ss j) 1) && (cntK s.acts (kidsL ss j) 1 + cntK s.acts (kidsL ss j) 2 == (kidsL ss j).length) else (cntK s.acts (kidsL ss j) 1 == 1) && (cntK s.acts (kidsL ss j) 2 == 0)) := hid (by unfold rightKids; rw [PJ_eq hj])
  obtain ⟨w0, e0⟩ : ∃ w0, w0 = w.alloc (.cells #[.int .i64 (j : Int), .int .i64 d, .slice ak (kidsL ss j).length ck, .int .i64 ss[j].kind, .int .i64 ss[j].parent, .string ss[j].name, .int .i64 ss[j].arg, .slice ac ss[j].cond.length cc, .slice ae ss[j].expr.length ce] 231) := ⟨_, rfl⟩
  have hb0 : Below w.heap.size w w0 := by rw [e0]; exact (Below.refl _ w).alloc (Nat.le_refl _) _
  have hk0 : PBlk w0 w.heap.size #[.int .i64 (j : Int), .int .i64 d, .slice ak (kidsL ss j).length ck, .int .i64 ss[j].kind, .int .i64 ss[j].parent, .string ss[j].name, .int .i64 ss[j].arg, .slice ac ss[j].cond.length cc, .slice ae ss[j].expr.length ce] := by rw [e0]; exact Ch.new_blk _ _
  have HK0d : Hid (PBlk w0.drew w.heap.size #[.int .i64 (j : Int), .int .i64 d, .slice ak (kidsL ss j).length ck, .int .i64 ss[j].kind, .int .i64 ss[j].parent, .string ss[j].name, .int .i64 ss[j].arg, .slice ac ss[j].cond.length cc, .slice ae ss[j].expr.length ce]) := hid hk0.drew
  have hB0 := hb0.drew
  clear hc h hk0 hb0
  generalize rightKids ss s.acts j = res at *
  go_enter Tryz.func166, Tryz.ntmps166
  go_wp2
  rw [← e0]
  clear e0
  refine wp_region_held_drew (S := fun wx => PBlk wx w.heap.size #[.int .i64 (j : Int), .int .i64 d, .slice ak (kidsL ss j).length ck, .int .i64 ss[j].kind, .int .i64 ss[j].parent, .string ss[j].name, .int .i64 ss[j].arg, .slice ac ss[j].cond.length cc, .slice ae ss[j].expr.length ce]) (by kernel_rfl) HK0d.out (fun hHeld => ?_)
  refine wpAnyH_take (i := 0) (v := .pointer (some ⟨R, 0, none⟩)) rfl (by kernel_rfl) (by kernel_rfl) (by kernel_rfl) (fun _ _ _ h => h) (Or.inl ⟨by rfl, by intro w hSw; (try dsimp only at hSw); go_simp⟩) (by assumption) ?_
  simp only [Act.put, List.setIfInBounds_toArray, List.set_cons_zero, List.set_cons_succ]
  refine wpAnyH_take (i := 1) (v := .agg #[.int .i64 (j : Int), .int .i64 d, .slice ak (kidsL ss j).length ck, .int .i64 ss[j].kind, .int .i64 ss[j].parent, .string ss[j].name, .int .i64 ss[j].arg, .slice ac ss[j].cond.length cc, .slice ae ss[j].expr.length ce]) rfl (by kernel_rfl) (by kernel_rfl) (by kernel_rfl) (fun _ _ _ h => h) (Or.inl ⟨by rfl, by intro w hSw; (try dsimp only at hSw); have m := fun i => PBlk.cell hSw i; have m0 := m 0; have m1 := m 1; have m2 := m 2; have m3 := m 3; have m4 := m 4; have m5 := m 5; have m6 := m 6; have m7 := m 7; have m8 := m 8; clear m hSw; go_simp⟩) (by assumption) ?_
  simp only [Act.put, List.setIfInBounds_toArray, List.set_cons_zero, List.set_cons_succ]
  refine wpAnyH_take (i := 3) (v := .pointer (some ⟨R, 0, none⟩)) rfl (by kernel_rfl) (by kernel_rfl) (by kernel_rfl) (fun _ _ _ h => h) (Or.inl ⟨by rfl, by intro w hSw; (try dsimp only at hSw); go_simp⟩) (by assumption) ?_
  simp only [Act.put, List.setIfInBounds_toArray, List.set_cons_zero, List.set_cons_succ]
  refine wpAnyH_take (i := 4) (v := .agg #[.int .i64 (j : Int), .int .i64 d, .slice ak (kidsL ss j).length ck, .int .i64 ss[j].kind, .int .i64 ss[j].parent, .string ss[j].name, .int .i64 ss[j].arg, .slice ac ss[j].cond.length cc, .slice ae ss[j].expr.length ce]) rfl (by kernel_rfl) (by kernel_rfl) (by kernel_rfl) (fun _ _ _ h => h) (Or.inl ⟨by rfl, by intro w hSw; (try dsimp only at hSw); have m := fun i => PBlk.cell hSw i; have m0 := m 0; have m1 := m 1; have m2 := m 2; have m3 := m 3; have m4 := m 4; have m5 := m 5; have m6 := m 6; have m7 := m 7; have m8 := m 8; clear m hSw; go_simp⟩) (by assumption) ?_
  simp only [Act.put, List.setIfInBounds_toArray, List.set_cons_zero, List.set_cons_succ]
  refine wpAnyH_ready (rs := [2]) (by kernel_rfl) (by simp) ?_
  refine AllReadyH.cons rfl (fun K hK => ?_) AllReadyH.nil
  go_simp
  go_at_call 200
  refine (HC.out 1 _ hB0).mono ?_
  rintro e w1 ⟨rfl, hb1⟩
  have hB1 := hB0.trans (hb1.mono hB0.size)
  have HK1 := hid (HK0d.out.below hb1)
  clear hb1
  go_wp2_with fail
  refine hK.out _ _ HK1.out (fun hHeld => ?_)
  clear hK K
  try simp only [Act.put, List.setIfInBounds_toArray, List.set_cons_zero, List.set_cons_succ]
  refine wpAnyH_ready (rs := [5]) (by kernel_rfl) (by simp) ?_
  refine AllReadyH.cons rfl (fun K hK => ?_) AllReadyH.nil
  go_simp
  go_at_call 200
  refine (HC.out 2 _ hB1).mono ?_
  rintro e w2 ⟨rfl, hb2⟩
  have hB2 := hB1.trans (hb2.mono hB1.size)
  have HK2 := hid (HK1.out.below hb2)
  clear hb2
  go_wp2_with fail
  refine hK.out _ _ HK2.out (fun hHeld => ?_)
  clear hK K
  try simp only [Act.put, List.setIfInBounds_toArray, List.set_cons_zero, List.set_cons_succ]
  refine wpAnyH_take (i := 6) (v := .int .i64 (cntK s.acts (kidsL ss j) 1 : Int)) rfl (by kernel_rfl) (by kernel_rfl) (by kernel_rfl) (fun _ _ _ h => h) (Or.inl ⟨by rfl, by intro w hSw; (try dsimp only at hSw); go_simp⟩) (by assumption) ?_
  simp only [Act.put, List.setIfInBounds_toArray, List.set_cons_zero, List.set_cons_succ]
  refine wpAnyH_take (i := 7) (v := .int .i64 (cntK s.acts (kidsL ss j) 2 : Int)) rfl (by kernel_rfl) (by kernel_rfl) (by kernel_rfl) (fun _ _ _ h => h) (Or.inl ⟨by rfl, by intro w hSw; (try dsimp only at hSw); go_simp⟩) (by assumption) ?_
  simp only [Act.put, List.setIfInBounds_toArray, List.set_cons_zero, List.set_cons_succ]
  refine wpAnyH_done (by kernel_rfl) ?_ _
  clear HC HK0d HK1
  have d0 : w2.cell? ⟨w.heap.size, 0, none⟩ = _ := HK2.out.cell 0
  have d2 : w2.cell? ⟨w.heap.size, 2, none⟩ = _ := HK2.out.cell 2
  have d3 : w2.cell? ⟨w.heap.size, 3, none⟩ = _ := HK2.out.cell 3
  have HON := hid (HO.out _ hB2)
  clear HK2 HO hHeld hB0 hB1
  generalize cntK s.acts (kidsL ss j) 1 = on at *
  generalize cntK s.acts (kidsL ss j) 2 = ov at *
  generalize (kidsL ss j).length = n at *
  by_cases h0 : n = 0
  · have b0 : ((n : Int) == 0) = true := by simp [h0]
    have HX : Hid (res = true) := hid (by rw [HV.out, if_pos h0])
    clear HV h0
    go_wp2
    go_ret
    exact ⟨by rw [HX.out]; rfl, hB2⟩
  have b0 : ((n : Int) == 0) = false := by simp [h0]
  rw [if_neg h0] at HV
  clear h0
  by_cases h1 : s.acts j = 1
  · have e1 : (s.acts j == 1) = true := by simp [h1]
    rw [e1] at HON
    rw [if_neg (by simp [h1])] at HV
    clear e1 h1
    by_cases h4 : ss[j].kind = 4
    · have b4 : (ss[j].kind == 4) = true := by simp [h4]
      rw [if_pos h4] at HV
      clear h4
      by_cases hp : 0 < on
      · have q1 : (0 : Int) < (on : Int) := by omega
        have HX : Hid (res = (((on : Int) + (ov : Int)) == (n : Int))) := hid (by
          rw [HV.out, decide_eq_true hp, Bool.true_and, Bool.eq_iff_iff]
          simp
          omega)
        clear HV hp
        go_wp2_with (go_at_call 165; refine HON.out.mono ?_; rintro e w3 ⟨rfl, hw3⟩; replace hw3 := hw3.symm; subst hw3)
        go_ret
        exact ⟨by rw [HX.out]; rfl, hB2⟩
      · have q1 : ¬ (0 : Int) < (on : Int) := by omega
        have HX : Hid (res = false) := hid (by rw [HV.out, decide_eq_false hp]; rfl)
        clear HV hp
        go_wp2_with (go_at_call 165; refine HON.out.mono ?_; rintro e w3 ⟨rfl, hw3⟩; replace hw3 := hw3.symm; subst hw3)
        go_ret
        exact ⟨by rw [HX.out]; rfl, hB2⟩
    · have b4 : (ss[j].kind == 4) = false := by simp [h4]
      rw [if_neg h4] at HV
      clear h4
      by_cases hp : on = 1
      · have q1 : ((on : Int) == 1) = true := by simp [hp]
        have HX : Hid (res = ((ov : Int) == 0)) := hid (by rw [HV.out, hp, Bool.eq_iff_iff]; simp)
        clear HV hp
        go_wp2_with (go_at_call 165; refine HON.out.mono ?_; rintro e w3 ⟨rfl, hw3⟩; replace hw3 := hw3.symm; subst hw3)
        go_ret
        exact ⟨by rw [HX.out]; rfl, hB2⟩
      · have q1 : ((on : Int) == 1) = false := beq_eq_false_iff_ne.2 (by omega)
        have HX : Hid (res = false) := hid (by rw [HV.out, beq_eq_false_iff_ne.2 hp]; rfl)
        clear HV hp
        go_wp2_with (go_at_call 165; refine HON.out.mono ?_; rintro e w3 ⟨rfl, hw3⟩; replace hw3 := hw3.symm; subst hw3)
        go_ret
        exact ⟨by rw [HX.out]; rfl, hB2⟩
  · have e1 : (s.acts j == 1) = false := by simp [h1]
    rw [e1] at HON
    rw [if_pos h1] at HV
    clear e1 h1
    by_cases hp : on = 0
    · have q1 : ((on : Int) == 0) = true := by simp [hp]
      have HX : Hid (res = ((ov : Int) == 0)) := hid (by rw [HV.out, hp, Bool.eq_iff_iff]; simp)
      clear HV hp
      go_wp2_with (go_at_call 165; refine HON.out.mono ?_; rintro e w3 ⟨rfl, hw3⟩; replace hw3 := hw3.symm; subst hw3)
      go_ret
      exact ⟨by rw [HX.out]; rfl, hB2⟩
    · have q1 : ((on : Int) == 0) = false := beq_eq_false_iff_ne.2 (by omega)
      have HX : Hid (res = false) := hid (by rw [HV.out, beq_eq_false_iff_ne.2 hp]; rfl)
      clear HV hp
      go_wp2_with (go_at_call 165; refine HON.out.mono ?_; rintro e w3 ⟨rfl, hw3⟩; replace hw3 := hw3.symm; subst hw3)
      go_ret
      exact ⟨by rw [HX.out]; rfl, hB2⟩
end Kc
end Go.Proofs.YtccklgopcjilcaaGreatDoor
/- Whether a chart goes together, asked by the program. -/
namespace Go.Proofs.YtccklgopcjilcaaGreatDoor
open Go.RowKit Go.Deep
set_option linter.unusedVariables false
set_option linter.unusedSimpArgs false
namespace Kc
open Ex (inR evalCode evalVal vFault hid)
open St (StepD)
open Ch (RunD)
open Pf
set_option maxRecDepth 100000 in
set_option maxHeartbeats 8000000 in
theorem hasRightDue (wg w : World) (R : Nat) (u : Value) (ss : List StepD) (s : CS) (j : Nat) (hj : j < ss.length) (hp : pFault ss = 0) (kv vc ve : Value) (d : Int) (hc : PCells w ss j hj kv vc ve) (h : KAt wg w R u ss s) :
    Calls Tryz.prog 167 #[.pointer (some ⟨R, 0, none⟩), .agg #[.int .i64 (j : Int), .int .i64 d, kv, .int .i64 ss[j].kind, .int .i64 ss[j].parent, .string ss[j].name, .int .i64 ss[j].arg, vc, ve]] w fun e w' => e = .returned (.bool (rightDue ss s.acts s.dues j)) ∧ Below w.heap.size w w' := by
  have hl : ss.length ≤ 24 := by have := (of_p hp).1; omega
  have HO : Hid (∀ (k : Nat) wx, k < 24 → Below w.heap.size w wx → Calls Tryz.prog 165 #[.pointer (some ⟨R, 0, none⟩), .int .i64 (k : Int)] wx fun e w' => e = .returned (.bool (s.acts k == 1)) ∧ w' = wx) := hid (fun k wx hk hb => isOn wg wx R u ss s k hk (h.below hb))
  have hks := hc.kids
  obtain ⟨ak, ck, rfl⟩ := hc.kids.slice
  obtain ⟨ac, cc, rfl⟩ := hc.cond.slice
  obtain ⟨ae, ce, rfl⟩ := hc.expr.slice
  have HG := hid (kids_guard hp hj)
  have HKI := hid (fun (hh : 0 < (kidsL ss j).length) => kid24 hl (kid_in hh))
  have HV : Hid (rightDue ss s.acts s.dues j = if ss[j].kind = 6 then (s.dues j != 0) == (s.acts j == 1) else if ss[j].kind = 8 then (s.dues j != 0) == (s.acts (kid ss j 0) == 1) else !(s.dues j != 0)) := hid (by unfold rightDue; rw [PJ_eq hj])
  rw [PJ_eq hj] at HG
  obtain ⟨w0, e0⟩ : ∃ w0, w0 = w.alloc (.cells #[.int .i64 (j : Int), .int .i64 d, .slice ak (kidsL ss j).length ck, .int .i64 ss[j].kind, .int .i64 ss[j].parent, .string ss[j].name, .int .i64 ss[j].arg, .slice ac ss[j].cond.length cc, .slice ae ss[j].expr.length ce] 231) := ⟨_, rfl⟩
  have hb0 : Below w.heap.size w w0 := by rw [e0]; exact (Below.refl _ w).alloc (Nat.le_refl _) _
  have hk0 : PBlk w0 w.heap.size #[.int .i64 (j : Int), .int .i64 d, .slice ak (kidsL ss j).length ck, .int .i64 ss[j].kind, .int .i64 ss[j].parent, .string ss[j].name, .int .i64 ss[j].arg, .slice ac ss[j].cond.length cc, .slice ae ss[j].expr.length ce] := by rw [e0]; exact Ch.new_blk _ _
  have HKS := hid (hks.below hb0)
  have d0 : w0.cell? ⟨w.heap.size, 0, none⟩ = _ := hk0.cell 0
  have d2 : w0.cell? ⟨w.heap.size, 2, none⟩ = _ := hk0.cell 2
  have d3 : w0.cell? ⟨w.heap.size, 3, none⟩ = _ := hk0.cell 3
  have cd := (h.below hb0).cD (i := j) (by omega)
  have q1 : (0 : Int) ≤ (j : Int) := by omega
  have q2 : (j : Int) < 24 := by omega
  have hB0 := hb0.drew
  clear hc h hk0 hb0 hks
  generalize rightDue ss s.acts s.dues j = res at *
  go_enter Tryz.func167, Tryz.ntmps167
  go_wp2
  rw [← e0]
  clear e0
  go_region
  by_cases h6 : ss[j].kind = 6
  · have b6 : (ss[j].kind == 6) = true := by simp [h6]
    rw [if_pos h6] at HV
    have HON := hid (HO.out j _ (by omega) hB0)
    clear h6 HO HG HKI
    go_wp2_with (go_at_call 165; refine HON.out.mono ?_; rintro e w3 ⟨rfl, hw3⟩; replace hw3 := hw3.symm; subst hw3)
    go_ret
    exact ⟨by rw [HV.out]; rfl, hB0⟩
  · have b6 : (ss[j].kind == 6) = false := by simp [h6]
    rw [if_neg h6] at HV
    clear h6
    by_cases h8 : ss[j].kind = 8
    · have b8 : (ss[j].kind == 8) = true := by simp [h8]
      rw [if_pos h8] at HV
      have h2 := HG.out h8
      obtain ⟨bk, cap, e, hbk, _, _, hcell⟩ := kids_at HKS.out (by omega)
      cases e
      have c0 := hcell 0 (by omega)
      have hk24 := HKI.out (by omega)
      have ek : kid ss j 0 = (kidsL ss j)[0]'(by omega) := by unfold kid; rw [List.getD_eq_getElem?_getD, List.getElem?_eq_getElem (by omega)]; rfl
      rw [← ek] at c0
      have q3 : (0 : Int) < ((kidsL ss j).length : Int) := by omega
      have HON := hid (HO.out (kid ss j 0) _ hk24 hB0)
      clear hcell ek h2 h8 HO HG HKI HKS
      generalize kid ss j 0 = k0 at *
      go_wp2_with (go_at_call 165; refine HON.out.mono ?_; rintro e w3 ⟨rfl, hw3⟩; replace hw3 := hw3.symm; subst hw3)
      go_ret
      exact ⟨by rw [HV.out]; rfl, hB0⟩
    · have b8 : (ss[j].kind == 8) = false := by simp [h8]
      rw [if_neg h8] at HV
      clear h8 HO HG HKI
      go_wp2
      go_ret
      exact ⟨by rw [HV.out]; rfl, hB0⟩
end Kc
end Go.Proofs.YtccklgopcjilcaaGreatDoor
