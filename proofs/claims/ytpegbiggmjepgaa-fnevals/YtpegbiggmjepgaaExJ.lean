/- The specification's EvalExpr, as it is called. -/
import Derived.Test.YtpegbiggmjepgaaExI
namespace Go.Proofs.Ytpegbiggmjepgaa
open Go.RowKit
set_option linter.unusedVariables false
namespace Ex
open Nd (NodeD)
set_option maxRecDepth 100000 in
set_option maxHeartbeats 2000000 in
theorem specEvalExpr (B B2 : Nat) (ns : List NodeD) (vars : List Int) (v v2 : Value) (w : World) (hl : ns.length ≤ 1048576) (hl2 : vars.length ≤ 1048576) (ha : Nd.At w B v ns) (ha2 : Nu.At w B2 v2 vars) :
    Calls Try.prog 8 #[v, v2] w fun e w' => e = .returned (.agg #[.int .i64 (evalCode ns vars), .int .i64 (evalVal ns vars)]) ∧ Below w.heap.size w w' := by
  obtain ⟨a, cap, rfl⟩ := ha.slice
  obtain ⟨a2, cap2, rfl⟩ := ha2.slice
  have hb0 : Below w.heap.size w (w.alloc (.cells #[.int .i64 0, .int .i64 0] 29)) := (Below.refl _ w).alloc (Nat.le_refl _) _
  have HF := hid (specType B ns _ (w.alloc (.cells #[.int .i64 0, .int .i64 0] 29)) hl (ha.below hb0))
  have HA := hid ha
  have HA2 := hid ha2
  clear ha ha2
  go_enter Try.func8, Try.ntmps8
  go_wp2_with fail
  refine HF.out.mono ?_
  rintro e w1 ⟨rfl, hb1⟩
  have B1 : Below w.heap.size w w1 := hb0.trans (hb1.mono (by simp))
  simp only [World.size_alloc] at hb1
  have l1 : w.heap.size < w1.heap.size := by have := hb1.size; simp at this; omega
  have r0 := kept_cell hb1 (b := w.heap.size) (o := 0) (v := .int .i64 0) (by omega) (by go_simp)
  have r1 := kept_cell hb1 (b := w.heap.size) (o := 1) (v := .int .i64 0) (by omega) (by go_simp)
  have f0 := kept_free hb1 (b := w.heap.size) (o := 0) (by omega) (by go_simp)
  have f1 := kept_free hb1 (b := w.heap.size) (o := 1) (by omega) (by go_simp)
  by_cases ht : typeCode ns = 0
  · have b1 : (typeCode ns != 0) = false := by simp [ht]
    obtain ⟨h0, h16, hok⟩ := of_e (of_type ht)
    have HTZ := hid ht
    have HOK := hid hok
    have HVS := hid (specVars B2 vars _ w1 hl2 (HA2.out.below B1))
    clear ht hok
    by_cases hv : vFault vars = 0
    · have b2 : (vFault vars != 0) = false := by simp [hv]
      have HVZ := hid hv
      have HEV := hid (specEval B B2 ns vars _ _ w1 h0 h16 HOK.out hv (HA.out.below B1) (HA2.out.below B1))
      clear hv
      generalize typeVal ns = tv at *
      generalize htc : typeCode ns = tc at *
      generalize hvc : vFault vars = vc at *
      go_wp2_with (first | (go_at_call 20; refine HVS.out.mono ?_; rintro e w2 ⟨rfl, rfl⟩))
      refine HEV.out.mono ?_
      rintro e w3 ⟨⟨x, rfl, hx⟩, hb3⟩
      have l3 : w.heap.size < w3.heap.size := by have := hb3.size; omega
      have u0 := kept_cell hb3 l1 r0
      have u1 := kept_cell hb3 l1 r1
      have x0 := kept_free hb3 l1 f0
      have x1 := kept_free hb3 l1 f1
      have B3 := B1.trans (hb3.mono B1.size)
      cases hoo : evOk ns vars
      · have HV := hid (ev_bad (htc.trans HTZ.out) (hvc.trans HVZ.out) hoo)
        clear hx hoo
        go_wp2
        exact bodyPost_ret (v := .agg #[.int .i64 8, .int .i64 0]) (by simp [results, Try.results8, go_sem, u0, u1]) rfl ⟨ret_two HV.out.1.symm HV.out.2.symm, setB (setB B3 (Nat.le_refl _) _) (Nat.le_refl _) _⟩
      · have HV := hid (ev_ok (htc.trans HTZ.out) (hvc.trans HVZ.out) hoo)
        have HX := hid (hx hoo)
        clear hx hoo
        go_wp2
        exact bodyPost_ret (v := .agg #[.int .i64 0, .int .i64 x]) (by simp [results, Try.results8, go_sem, u0, u1]) rfl ⟨ret_two HV.out.1.symm (HX.out.trans HV.out.2.symm), setB (setB B3 (Nat.le_refl _) _) (Nat.le_refl _) _⟩
    · have HV := hid (ev_vars HTZ.out hv)
      have b2 : (vFault vars != 0) = true := by simpa using hv
      clear hv
      generalize vFault vars = vc at *
      go_wp2_with (first | (go_at_call 20; refine HVS.out.mono ?_; rintro e w2 ⟨rfl, rfl⟩))
      exact bodyPost_ret (v := .agg #[.int .i64 vc, .int .i64 0]) (by simp [results, Try.results8, go_sem, r0, r1]) rfl ⟨ret_two HV.out.1.symm HV.out.2.symm, setB (setB B1 (Nat.le_refl _) _) (Nat.le_refl _) _⟩
  · have HV := hid (ev_type (vars := vars) ht)
    have b1 : (typeCode ns != 0) = true := by simpa using ht
    clear ht
    generalize typeCode ns = tc at *
    go_wp2
    exact bodyPost_ret (v := .agg #[.int .i64 tc, .int .i64 0]) (by simp [results, Try.results8, go_sem, r0, r1]) rfl ⟨ret_two HV.out.1.symm HV.out.2.symm, setB (setB B1 (Nat.le_refl _) _) (Nat.le_refl _) _⟩
end Ex
end Go.Proofs.Ytpegbiggmjepgaa
