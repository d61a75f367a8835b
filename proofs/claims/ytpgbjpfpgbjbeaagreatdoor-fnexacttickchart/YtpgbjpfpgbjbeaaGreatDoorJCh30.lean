/- Laid together: ExI, ExJ. -/
import Derived.Test.YtpgbjpfpgbjbeaaGreatDoorJCh7
import Derived.Deep.RegionHeld3
/- The specification's EvalExpr. -/
namespace Go.Proofs.YtpgbjpfpgbjbeaaGreatDoor
open Go.RowKit
set_option linter.unusedVariables false
namespace Ex
open Nd (NodeD)
set_option maxRecDepth 100000 in
set_option maxHeartbeats 8000000 in
theorem specEval (B B2 : Nat) (ns : List NodeD) (vars : List Int) (v v2 : Value) (w : World) (h0 : 0 < ns.length) (hl : ns.length ≤ 16) (hok : ∀ k, k < ns.length → nCode (NJ ns k) k = 0) (hv : vFault vars = 0) (ha : Nd.At w B v ns) (ha2 : Nu.At w B2 v2 vars) :
    Calls Tryz.prog 66 #[v, v2] w fun e w' => (∃ x, e = .returned (.tuple #[.int .i64 x, .bool (evOk ns vars)]) ∧ (evOk ns vars = true → x = (evs ns vars ns.length).getD (ns.length - 1) 0)) ∧ Below w.heap.size w w' := by
  obtain ⟨a, cap, rfl⟩ := ha.slice
  obtain ⟨a2, cap2, rfl⟩ := ha2.slice
  have HA := hid ha
  have HA2 := hid ha2
  have HN := hid hok
  have HVF := hid hv
  have H4 := hid (of_v hv).1
  have hv4 : vars.length ≤ 4 := by have := H4.out; omega
  clear ha ha2 hok hv
  obtain ⟨j0, hj, hy0, hy1, hy2⟩ := info_parts infoI64
  go_enter Tryz.func66, Tryz.ntmps66
  go_wp2
  go_loopw [6, 7, 8, 9, 10, 11] (fun t x _ _ _ _ wr => ∃ (i : Nat), x = .int .i64 i ∧ i ≤ ns.length ∧ (∃ a5 c5, t = .slice a5 i c5) ∧ Hid (wr.ownsRow w.heap.size 2 1 t i (iVals (evs ns vars i))) ∧ Hid (∀ j, j < i → evBad ns vars j = false) ∧ Below w.heap.size w wr) (fun _ x _ _ _ _ _ => ns.length - (intOf x).toNat)
  case atStart => exact ⟨0, rfl, Nat.zero_le _, ⟨_, _, rfl⟩, World.ownsRow_made w #[] 0 (Nat.le_refl _) (by unfold maxLen; omega) rfl, hid (fun j h => by omega), (Below.refl _ w).alloc (Nat.le_refl _) _⟩
  case round =>
    obtain ⟨i, rfl, hi, ⟨a5, c5, rfl⟩, HO, HB, hbel⟩ := hrel
    have hz := hbel.size
    have hown := HO.out
    have hel := evs_len ns vars i
    by_cases hlt : i < ns.length
    · obtain ⟨g, o, rfl, hg, c0, c1, c2, c3⟩ := (HA.out.below hbel).at hlt
      have q1 : (i : Int) < (ns.length : Int) := by omega
      have hn := HN.out i hlt
      have HNJ := hid (NJ_eq hlt)
      rw [HNJ.out] at hn
      have hkd := inR_iff.1 (of_n hn).1
      have HBS : Hid (evBad ns vars i = false → ∀ j, j < i + 1 → evBad ns vars j = false) := hid (fun h j hj => by
        by_cases e : j = i
        · rw [e]; exact h
        · exact HB.out j (by omega))
      have HSU : Hid (iVals (evs ns vars (i + 1)) = iVals (evs ns vars i) ++ [.int .i64 (valAt ns vars (evs ns vars i) i)]) := hid (by rw [evs, iVals_snoc])
      have HIN := hid (evs_in HN.out HVF.out (Nat.le_of_lt hlt) HB.out)
      by_cases k2 : 2 < ns[i].kind
      · have hnl := n_left hn k2
        obtain ⟨l, hle⟩ : ∃ l : Nat, ns[i].left = (l : Int) := ⟨ns[i].left.toNat, by omega⟩
        have hnr : 0 ≤ ns[i].right ∧ ns[i].right < i := by
          by_cases k10 : ns[i].kind = 10
          · rw [v_not hn k10]; omega
          · exact n_right hn (inR_iff.2 (by omega))
        obtain ⟨r, hre⟩ : ∃ r : Nat, ns[i].right = (r : Int) := ⟨ns[i].right.toNat, by omega⟩
        have hli : l < i := by omega
        have hri : r < i := by omega
        obtain ⟨g5, rfl, hg5⟩ := owns_some hown (by omega)
        have m1 := i_cell hown hel hli
        have m2 := i_cell hown hel hri
        have ql : (l : Int) < (i : Int) := by omega
        have qr : (r : Int) < (i : Int) := by omega
        have tb : (ns[i].kind == 2) = false := beq_eq_false_iff_ne.2 (by omega)
        have HVA : Hid (valAt ns vars (evs ns vars i) i = oneVal ns[i].kind ((evs ns vars i).getD l 0) ((evs ns vars i).getD r 0)) := hid (by
          unfold valAt
          rw [HNJ.out, if_neg (by omega), if_pos k2, hle, hre, Int.toNat_natCast, Int.toNat_natCast])
        have HBV : Hid (evBad ns vars i = !oneOk ns[i].kind ((evs ns vars i).getD l 0) ((evs ns vars i).getD r 0)) := hid (by
          unfold evBad
          rw [HNJ.out, hle, hre, Int.toNat_natCast, Int.toNat_natCast]
          simp [k2])
        have b1 := getD_in HIN.out (j := l) (by omega)
        have b2 := getD_in HIN.out (j := r) (by omega)
        generalize (evs ns vars i).getD l 0 = xa at *
        generalize (evs ns vars i).getD r 0 = xb at *
        have HO1 := hid (fun w' => specOne ns[i].kind xa xb w' (by omega) b1.1 b1.2 b2.1 b2.2)
        rw [hle] at c2
        rw [hre] at c3
        clear hnl hnr hle hre hn hkd HIN
        cases hoo : oneOk ns[i].kind xa xb
        · have HB0 : Hid (evBad ns vars i = true) := hid (by rw [HBV.out, hoo]; rfl)
          have HV := hid (evOk_bad hlt HB0.out)
          rw [hoo] at HO1
          clear hoo HBV HVA
          generalize oneVal ns[i].kind xa xb = xo at *
          generalize ns[i] = nd at *
          go_wp2
          have hBA : Below wr.heap.size wr (wr.alloc (.cells #[.int .i64 nd.kind, .int .i64 nd.value, .int .i64 (l : Int), .int .i64 (r : Int)] 110)) := (Below.refl _ wr).alloc (Nat.le_refl _) _
          have p0 : (wr.alloc (.cells #[.int .i64 nd.kind, .int .i64 nd.value, .int .i64 (l : Int), .int .i64 (r : Int)] 110)).cell? ⟨wr.heap.size, 0, none⟩ = some (.int .i64 nd.kind) := by go_simp
          have p2 : (wr.alloc (.cells #[.int .i64 nd.kind, .int .i64 nd.value, .int .i64 (l : Int), .int .i64 (r : Int)] 110)).cell? ⟨wr.heap.size, 2, none⟩ = some (.int .i64 (l : Int)) := by go_simp
          have p3 : (wr.alloc (.cells #[.int .i64 nd.kind, .int .i64 nd.value, .int .i64 (l : Int), .int .i64 (r : Int)] 110)).cell? ⟨wr.heap.size, 3, none⟩ = some (.int .i64 (r : Int)) := by go_simp
          have m1' : (wr.alloc (.cells #[.int .i64 nd.kind, .int .i64 nd.value, .int .i64 (l : Int), .int .i64 (r : Int)] 110)).cell? ⟨g5, l, none⟩ = some (.int .i64 xa) := kept_cell hBA hg5 m1
          have m2' : (wr.alloc (.cells #[.int .i64 nd.kind, .int .i64 nd.value, .int .i64 (l : Int), .int .i64 (r : Int)] 110)).cell? ⟨g5, r, none⟩ = some (.int .i64 xb) := kept_cell hBA hg5 m2
          have hownA := hown.alloc (.cells #[.int .i64 nd.kind, .int .i64 nd.value, .int .i64 (l : Int), .int .i64 (r : Int)] 110)
          have hsA : (wr.alloc (.cells #[.int .i64 nd.kind, .int .i64 nd.value, .int .i64 (l : Int), .int .i64 (r : Int)] 110)).heap.size = wr.heap.size + 1 := by simp
          have hbA : Below w.heap.size w (wr.alloc (.cells #[.int .i64 nd.kind, .int .i64 nd.value, .int .i64 (l : Int), .int .i64 (r : Int)] 110)) := hbel.alloc hz _
          generalize wr.alloc (.cells #[.int .i64 nd.kind, .int .i64 nd.value, .int .i64 (l : Int), .int .i64 (r : Int)] 110) = WA at *
          clear m1 m2 c0 c1 c2 c3
          go_region_held3 (fun wx => wx.cell? ⟨wr.heap.size, 0, none⟩ = some (.int .i64 nd.kind) ∧ wx.cell? ⟨wr.heap.size, 2, none⟩ = some (.int .i64 (l : Int)) ∧ wx.cell? ⟨wr.heap.size, 3, none⟩ = some (.int .i64 (r : Int)) ∧ wx.cell? ⟨g5, l, none⟩ = some (.int .i64 xa) ∧ wx.cell? ⟨g5, r, none⟩ = some (.int .i64 xb)) (refine ⟨?_, ?_, ?_, ?_, ?_⟩ <;> first | assumption | (simp [*]; done)) (first | (go_at_call 95; refine (HO1.out _).mono ?_; rintro e w4 ⟨rfl, rfl⟩))
          go_wp2
          go_ret2
          exact ⟨⟨_, by rw [HV.out]; rfl, fun h => by rw [HV.out] at h; cases h⟩, hbA.drew⟩
        · have HB0 : Hid (evBad ns vars i = false) := hid (by rw [HBV.out, hoo]; rfl)
          rw [hoo] at HO1
          clear hoo HBV
          generalize oneVal ns[i].kind xa xb = xo at *
          generalize ns[i] = nd at *
          go_wp2
          have hBA : Below wr.heap.size wr (wr.alloc (.cells #[.int .i64 nd.kind, .int .i64 nd.value, .int .i64 (l : Int), .int .i64 (r : Int)] 110)) := (Below.refl _ wr).alloc (Nat.le_refl _) _
          have p0 : (wr.alloc (.cells #[.int .i64 nd.kind, .int .i64 nd.value, .int .i64 (l : Int), .int .i64 (r : Int)] 110)).cell? ⟨wr.heap.size, 0, none⟩ = some (.int .i64 nd.kind) := by go_simp
          have p2 : (wr.alloc (.cells #[.int .i64 nd.kind, .int .i64 nd.value, .int .i64 (l : Int), .int .i64 (r : Int)] 110)).cell? ⟨wr.heap.size, 2, none⟩ = some (.int .i64 (l : Int)) := by go_simp
          have p3 : (wr.alloc (.cells #[.int .i64 nd.kind, .int .i64 nd.value, .int .i64 (l : Int), .int .i64 (r : Int)] 110)).cell? ⟨wr.heap.size, 3, none⟩ = some (.int .i64 (r : Int)) := by go_simp
          have m1' : (wr.alloc (.cells #[.int .i64 nd.kind, .int .i64 nd.value, .int .i64 (l : Int), .int .i64 (r : Int)] 110)).cell? ⟨g5, l, none⟩ = some (.int .i64 xa) := kept_cell hBA hg5 m1
          have m2' : (wr.alloc (.cells #[.int .i64 nd.kind, .int .i64 nd.value, .int .i64 (l : Int), .int .i64 (r : Int)] 110)).cell? ⟨g5, r, none⟩ = some (.int .i64 xb) := kept_cell hBA hg5 m2
          have hownA := hown.alloc (.cells #[.int .i64 nd.kind, .int .i64 nd.value, .int .i64 (l : Int), .int .i64 (r : Int)] 110)
          have hsA : (wr.alloc (.cells #[.int .i64 nd.kind, .int .i64 nd.value, .int .i64 (l : Int), .int .i64 (r : Int)] 110)).heap.size = wr.heap.size + 1 := by simp
          have hbA : Below w.heap.size w (wr.alloc (.cells #[.int .i64 nd.kind, .int .i64 nd.value, .int .i64 (l : Int), .int .i64 (r : Int)] 110)) := hbel.alloc hz _
          generalize wr.alloc (.cells #[.int .i64 nd.kind, .int .i64 nd.value, .int .i64 (l : Int), .int .i64 (r : Int)] 110) = WA at *
          clear m1 m2 c0 c1 c2 c3
          go_region_held3 (fun wx => wx.cell? ⟨wr.heap.size, 0, none⟩ = some (.int .i64 nd.kind) ∧ wx.cell? ⟨wr.heap.size, 2, none⟩ = some (.int .i64 (l : Int)) ∧ wx.cell? ⟨wr.heap.size, 3, none⟩ = some (.int .i64 (r : Int)) ∧ wx.cell? ⟨g5, l, none⟩ = some (.int .i64 xa) ∧ wx.cell? ⟨g5, r, none⟩ = some (.int .i64 xb)) (refine ⟨?_, ?_, ?_, ?_, ?_⟩ <;> first | assumption | (simp [*]; done)) (first | (go_at_call 95; refine (HO1.out _).mono ?_; rintro e w4 ⟨rfl, rfl⟩))
          have hownD : WA.drew.ownsRow w.heap.size 2 1 (.slice (some ⟨g5, 0, none⟩) i c5) i (iVals (evs ns vars i)) := hownA
          go_wp2_with (at_builtin; go_must (refine wpList_append_own _ rfl _ _ 23 rfl w.heap.size 2 j0 (.int .i64 0) 1 8 Tryz.underlying23 hj hy0 hy1 hy2 rfl (by decide) _ _ _ rfl (hownD.alloc _) ⟨_, 0, none⟩ 1 1 [.int .i64 xo] rfl rfl (cell_one _ _ (by first | rfl | (show _ = WA.heap.size; omega) | (simp; done)) _ _) (by simp [Value.oneCell']) (by unfold maxLen; omega) (by first | omega | (simp; omega)) (by first | omega | (simp; omega)) ?_); intro v' w3 hown' hgrow _; obtain ⟨g9, c9, rfl⟩ := ownsRow_succ hown')
          have hB3 : Below w.heap.size w w3 := ((hbA.drew).alloc (by simp; omega) _).grown hgrow (by simp; omega) (fun b e => (own_lt hown e).1)
          refine ⟨⟨i + 1, by simp, by omega, ⟨_, _, rfl⟩, hid ?_, hid (HBS.out HB0.out), hB3⟩, by simp [intOf]; omega⟩
          rw [HSU.out, HVA.out]
          exact hown'
      · have tk2 : ¬ 2 < ns[i].kind := k2
        have HB0 : Hid (evBad ns vars i = false) := hid (by unfold evBad; rw [HNJ.out]; simp [k2])
        by_cases k22 : ns[i].kind = 2
        · have tb : (ns[i].kind == 2) = true := beq_iff_eq.2 k22
          have hvr := v_var hn k22
          obtain ⟨m, hme⟩ : ∃ m : Nat, ns[i].value = (m : Int) := ⟨ns[i].value.toNat, by omega⟩
          have hm4 : m < vars.length := by have := H4.out; omega
          obtain ⟨g7, o7, rfl, hg7, n0⟩ := (HA2.out.below hbel).at hm4
          have qm : (m : Int) < (vars.length : Int) := by omega
          have HVA : Hid (valAt ns vars (evs ns vars i) i = vars[m]) := hid (by
            unfold valAt
            rw [HNJ.out, if_pos k22, hme, Int.toNat_natCast, List.getD_eq_getElem?_getD, List.getElem?_eq_getElem hm4]
            rfl)
          rw [hme] at c1
          clear hn hkd hvr hme k22 HIN
          generalize vars[m] = xo at *
          generalize ns[i] = nd at *
          go_wp2_with (at_builtin; go_must (refine wpList_append_own _ rfl _ _ 23 rfl w.heap.size 2 j0 (.int .i64 0) 1 8 Tryz.underlying23 hj hy0 hy1 hy2 rfl (by decide) _ _ _ rfl ((hown.alloc _).alloc _) ⟨_, 0, none⟩ 1 1 [.int .i64 xo] rfl rfl (cell_one _ _ (by simp) _ _) (by simp [Value.oneCell']) (by unfold maxLen; omega) (by first | omega | (simp; omega)) (by first | omega | (simp; omega)) ?_); intro v' w3 hown' hgrow _; obtain ⟨g9, c9, rfl⟩ := ownsRow_succ hown')
          have hB3 : Below w.heap.size w w3 := ((hbel.alloc hz _).alloc (by simp; omega) _).grown hgrow (by simp; omega) (fun b e => (own_lt hown e).1)
          refine ⟨⟨i + 1, by simp, by omega, ⟨_, _, rfl⟩, hid ?_, hid (HBS.out HB0.out), hB3⟩, by simp [intOf]; omega⟩
          rw [HSU.out, HVA.out]
          exact hown'
        · have tb : (ns[i].kind == 2) = false := beq_eq_false_iff_ne.2 k22
          have HVA : Hid (valAt ns vars (evs ns vars i) i = ns[i].value) := hid (by
            unfold valAt
            rw [HNJ.out, if_neg k22, if_neg k2])
          clear hn hkd k22 HIN
          generalize ns[i] = nd at *
          go_wp2_with (at_builtin; go_must (refine wpList_append_own _ rfl _ _ 23 rfl w.heap.size 2 j0 (.int .i64 0) 1 8 Tryz.underlying23 hj hy0 hy1 hy2 rfl (by decide) _ _ _ rfl ((hown.alloc _).alloc _) ⟨_, 0, none⟩ 1 1 [.int .i64 nd.value] rfl rfl (cell_one _ _ (by simp) _ _) (by simp [Value.oneCell']) (by unfold maxLen; omega) (by first | omega | (simp; omega)) (by first | omega | (simp; omega)) ?_); intro v' w3 hown' hgrow _; obtain ⟨g9, c9, rfl⟩ := ownsRow_succ hown')
          have hB3 : Below w.heap.size w w3 := ((hbel.alloc hz _).alloc (by simp; omega) _).grown hgrow (by simp; omega) (fun b e => (own_lt hown e).1)
          refine ⟨⟨i + 1, by simp, by omega, ⟨_, _, rfl⟩, hid ?_, hid (HBS.out HB0.out), hB3⟩, by simp [intOf]; omega⟩
          rw [HSU.out, HVA.out]
          exact hown'
    · have hin : i = ns.length := by omega
      have HV := hid (evOk_all (ns := ns) (vars := vars) (fun j hj => HB.out j (by omega)))
      obtain ⟨g5, rfl, hg5⟩ := owns_some hown (by omega)
      have m1 := i_cell hown hel (j := i - 1) (by omega)
      have HIN : Hid ((evs ns vars i).getD (i - 1) 0 = (evs ns vars ns.length).getD (ns.length - 1) 0) := hid (by rw [hin])
      have hcast : (i : Int) - 1 = ((i - 1 : Nat) : Int) := by omega
      have q1 : ((i - 1 : Nat) : Int) < (i : Int) := by omega
      have q2 : ¬ (i : Int) < (ns.length : Int) := by omega
      clear hin
      go_wp2
      go_ret2
      exact ⟨⟨_, by rw [HV.out]; rfl, fun _ => HIN.out⟩, hbel⟩
end Ex
end Go.Proofs.YtpgbjpfpgbjbeaaGreatDoor
/- The specification's EvalExpr, as it is called. -/
namespace Go.Proofs.YtpgbjpfpgbjbeaaGreatDoor
open Go.RowKit
set_option linter.unusedVariables false
namespace Ex
open Nd (NodeD)
end Ex
end Go.Proofs.YtpgbjpfpgbjbeaaGreatDoor
