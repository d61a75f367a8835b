/- Whether the law's marks hold, in steps that a function has made itself; marks, holds and comparison of a ProcResult. -/
import Derived.Test.YtedgobdnjemegaaDoorJPlainOf26
import Derived.Test.YtedgobdnjemegaaDoorJPlainOf23
import Derived.Deep.RegionHeld3
namespace Go.Proofs.YtedgobdnjemegaaDoor
open Go.RowKit
set_option linter.unusedVariables false
namespace Sk
open Ex (hid nvals)
open Nd (NodeD)
open St (StepD)
open Nst (own)
open Mk (mt markText markText')
open Nk (Amid mkN mkN_len kept_cell heldNodes)
open So (SJ SJ_eq scell nsub SAt SOwn subs sub_even sub_odd nodes_own)
theorem mt_ne (k : Nat) : ((mt k).toList != (mt k).toList) = false := by simp
set_option maxRecDepth 100000 in
set_option maxHeartbeats 8000000 in
theorem heldSteps (B k0 : Nat) (ss : List StepD) (v : Value) (w : World) (hn : ss.length ≤ 64) (h0 : 0 < k0) (hk0 : k0 ≤ 1000000) (hm : ∀ j, j < ss.length → (SJ ss j).cond.length ≤ 64 ∧ (SJ ss j).expr.length ≤ 64) (ha : St.At w B v (mkS k0 ss)) :
    Calls Tryd.prog 26 #[v, .int .i64 (k0 : Int)] w fun e w' => e = .returned (.int .i64 (kAt k0 ss ss.length : Int)) ∧ Below w.heap.size w w' := by
  obtain ⟨a, cap, rfl⟩ := ha.slice
  have HA := hid ha
  have HM := hid hm
  have HK := hid (fun i (hi : i ≤ ss.length) => kAt_le (k0 := k0) hm i hi)
  have HP := hid (kAt_pos h0 ss)
  have hml := mkS_len k0 ss
  have HML := hid hml
  clear ha hm hml
  go_enter Tryd.func26, Tryd.ntmps26
  go_wp2
  go_loopw [1, 5] (fun q i wr => ∃ (j : Nat), i = .int .i64 j ∧ q = .int .i64 (kAt k0 ss j : Int) ∧ j ≤ ss.length ∧ Hid (Below w.heap.size w wr)) (fun _ i _ => ss.length - (intOf i).toNat)
  case atStart => exact ⟨0, rfl, by simp [kAt], Nat.zero_le _, hid (Below.refl _ _)⟩
  case round =>
    obtain ⟨j, rfl, rfl, hj, HB⟩ := hrel
    by_cases hlt : j < ss.length
    · have q1 : (j : Int) < ((mkS k0 ss).length : Int) := by have := HML.out; omega
      have hlt2 : j < (mkS k0 ss).length := by have := HML.out; omega
      obtain ⟨g, o, vc, ve, rfl, hg, c0, c1, c2, c3, c4, c5, hvc, hve⟩ := (HA.out.below HB.out).at (i := j) hlt2
      rw [mkS_get] at c0 c1 c2 c3 hvc hve
      have hkj := HK.out j (by omega)
      have hpj := HP.out j
      have hmj := (HM.out j hlt).1
      have hmj2 := (HM.out j hlt).2
      have HKS : Hid (kAt k0 ss (j + 1) = kAt k0 ss j + 4 + 4 * (SJ ss j).cond.length + 4 * (SJ ss j).expr.length) := hid rfl
      replace c0 : wr.cell? ⟨g, o + j * 6, none⟩ = some (.int .i64 (kAt k0 ss j : Int)) := c0
      replace c1 : wr.cell? ⟨g, o + j * 6 + 1, none⟩ = some (.int .i64 ((kAt k0 ss j + 1 : Nat) : Int)) := c1
      replace c2 : wr.cell? ⟨g, o + j * 6 + 2, none⟩ = some (.string (mt (kAt k0 ss j + 2))) := c2
      replace c3 : wr.cell? ⟨g, o + j * 6 + 3, none⟩ = some (.int .i64 ((kAt k0 ss j + 3 : Nat) : Int)) := c3
      replace hvc : Nd.At wr B vc (mkN (kAt k0 ss j + 4) (SJ ss j).cond.length) := hvc
      replace hve : Nd.At wr B ve (mkN (kAt k0 ss j + 4 + 4 * (SJ ss j).cond.length) (SJ ss j).expr.length) := hve
      obtain ⟨a2, cap2, rfl⟩ := hvc.slice
      obtain ⟨a3, cap3, rfl⟩ := hve.slice
      have HVC := hid hvc
      have HVE := hid hve
      generalize hkk : kAt k0 ss j = k at *
      clear hkk hvc hve
      have HM1 := hid (fun wx => markText' ((k : Int) + 1 + 1) wx (by omega) (by omega))
      rw [show ((k : Int) + 1 + 1).toNat = k + 2 by omega] at HM1
      have hn1 := mt_ne (k + 2)
      have b0 : ((k : Int) != (k : Int)) = false := by simp
      have b1 : (((k + 1 : Nat) : Int) != (k : Int) + 1) = false := by simp
      have b2 : ((k : Int) + 1 != (k : Int) + 1) = false := by simp
      go_wp2_with fail
      have t0 : wr.drew.cell? ⟨g, o + j * 6 + 2, none⟩ = some (.string (mt (k + 2))) := c2
      have t3d : wr.drew.cell? ⟨g, o + j * 6 + 3, none⟩ = some (.int .i64 ((k + 3 : Nat) : Int)) := c3
      have t4d : wr.drew.cell? ⟨g, o + j * 6 + 4, none⟩ = some (.slice a2 (mkN (k + 4) (SJ ss j).cond.length).length cap2) := c4
      have t5d : wr.drew.cell? ⟨g, o + j * 6 + 5, none⟩ = some (.slice a3 (mkN (k + 4 + 4 * (SJ ss j).cond.length) (SJ ss j).expr.length).length cap3) := c5
      have hgd : g < wr.drew.heap.size := hg
      have HBd : Hid (Below w.heap.size w wr.drew) := hid HB.out.drew
      have hDr : Below wr.heap.size wr wr.drew := (Below.refl _ wr).drew
      have hWd : w.heap.size ≤ wr.drew.heap.size := HB.out.size
      refine wp_region_held_drew (S := fun wx => wx.cell? ⟨g, o + j * 6 + 2, none⟩ = some (.string (mt (k + 2))) ∧ Below w.heap.size w wx) (by kernel_rfl) ⟨t0, HBd.out⟩ (fun hHeld => ?_)
      refine wpAnyH_take (i := 0) (oi := { dst := some 30, op := Go.Op.move (Go.Operand.tmp 0), type := 24, pos := "exact.go:707", after := #[], guard := none }) (v := .slice (some ⟨g, o, none⟩) (mkS k0 ss).length cap) rfl (by kernel_rfl) (by kernel_rfl) (by kernel_rfl) (fun _ _ _ h => h) (Or.inl ⟨by rfl, by intro w hSw; (try dsimp only at hSw); go_simp⟩) (by assumption) ?_
      simp only [Act.put, List.setIfInBounds_toArray, List.set_cons_zero, List.set_cons_succ]
      refine wpAnyH_take (i := 1) (oi := { dst := some 31, op := Go.Op.move (Go.Operand.tmp 5), type := 3, pos := "exact.go:707", after := #[], guard := none }) (v := .int .i64 (j : Int)) rfl (by kernel_rfl) (by kernel_rfl) (by kernel_rfl) (fun _ _ _ h => h) (Or.inl ⟨by rfl, by intro w hSw; (try dsimp only at hSw); go_simp⟩) (by assumption) ?_
      simp only [Act.put, List.setIfInBounds_toArray, List.set_cons_zero, List.set_cons_succ]
      refine wpAnyH_take (i := 2) (oi := { dst := some 32, op := Go.Op.indexAddr 24 (Go.Operand.tmp 30) (Go.Operand.tmp 31), type := 0, pos := "exact.go:707", after := #[{ on := 0, ground := Go.Ground.data }, { on := 1, ground := Go.Ground.data }], guard := none }) (v := .pointer (some ⟨g, o + j * 6, none⟩)) rfl (by kernel_rfl) (by kernel_rfl) (by kernel_rfl) (fun _ _ _ h => h) (Or.inl ⟨by rfl, by intro w hSw; (try dsimp only at hSw); go_simp⟩) (by assumption) ?_
      simp only [Act.put, List.setIfInBounds_toArray, List.set_cons_zero, List.set_cons_succ]
      refine wpAnyH_take (i := 3) (oi := { dst := some 33, op := Go.Op.fieldAddr 43 (Go.Operand.tmp 32) 2, type := 0, pos := "exact.go:707", after := #[{ on := 2, ground := Go.Ground.data }], guard := none }) (v := .pointer (some ⟨g, o + j * 6 + 2, none⟩)) rfl (by kernel_rfl) (by kernel_rfl) (by kernel_rfl) (fun _ _ _ h => h) (Or.inl ⟨by rfl, by intro w hSw; (try dsimp only at hSw); go_simp⟩) (by assumption) ?_
      simp only [Act.put, List.setIfInBounds_toArray, List.set_cons_zero, List.set_cons_succ]
      refine wpAnyH_take (i := 4) (oi := { dst := some 34, op := Go.Op.load 9 (Go.Operand.tmp 33), type := 9, pos := "exact.go:707", after := #[{ on := 3, ground := Go.Ground.data }], guard := none }) (v := .string (mt (k + 2))) rfl (by kernel_rfl) (by kernel_rfl) (by kernel_rfl) (fun _ _ _ h => h) (Or.inl ⟨by rfl, by intro w hSw; (try dsimp only at hSw); go_simp⟩) (by assumption) ?_
      simp only [Act.put, List.setIfInBounds_toArray, List.set_cons_zero, List.set_cons_succ]
      refine wpAnyH_take (i := 5) (oi := { dst := some 35, op := Go.Op.move (Go.Operand.tmp 1), type := 3, pos := "exact.go:707", after := #[], guard := none }) (v := .int .i64 ((k : Int) + 1 + 1)) rfl (by kernel_rfl) (by kernel_rfl) (by kernel_rfl) (fun _ _ _ h => h) (Or.inl ⟨by rfl, by intro w hSw; (try dsimp only at hSw); go_simp⟩) (by assumption) ?_
      simp only [Act.put, List.setIfInBounds_toArray, List.set_cons_zero, List.set_cons_succ]
      refine wpAnyH_ready (rs := [6]) (by kernel_rfl) (by simp) ?_
      refine AllReadyH.cons (o := { dst := some 36, op := Go.Op.call { callee := Go.Callee.value (Go.Operand.func 24), args := #[Go.Operand.tmp 35], argTypes := #[3] }, type := 9, pos := "exact.go:707", after := #[{ on := 5, ground := Go.Ground.data }], guard := none }) rfl (fun K hK => ?_) AllReadyH.nil
      go_simp
      go_at_call 24
      refine (HM1.out _).mono ?_
      rintro e w1 ⟨rfl, hb1⟩
      have g0 := kept_cell hb1 hgd t0
      have HB1 := hid (HBd.out.trans (hb1.mono hWd))
      have hbr : Below wr.heap.size wr w1 := hDr.trans hb1
      have l1 : wr.heap.size ≤ w1.heap.size := hb1.size
      have t3 := kept_cell hb1 hgd t3d
      have t4 := kept_cell hb1 hgd t4d
      have t5 := kept_cell hb1 hgd t5d
      clear hb1
      go_wp2_with fail
      refine hK.out _ _ ⟨g0, HB1.out⟩ (fun hHeld => ?_)
      clear hK K
      try simp only [Act.put, List.setIfInBounds_toArray, List.set_cons_zero, List.set_cons_succ]
      refine wpAnyH_take (i := 7) (oi := { dst := some 37, op := Go.Op.binOp Go.BinOp.neq 9 (Go.Operand.tmp 34) (Go.Operand.tmp 36) 9, type := 4, pos := "exact.go:707", after := #[{ on := 4, ground := Go.Ground.data }, { on := 6, ground := Go.Ground.data }], guard := none }) (v := .bool false) rfl (by kernel_rfl) (by kernel_rfl) (by kernel_rfl) (fun _ _ _ h => h) (Or.inl ⟨by rfl, by intro w hSw; (try dsimp only at hSw); go_simp⟩) (by assumption) ?_
      simp only [Act.put, List.setIfInBounds_toArray, List.set_cons_zero, List.set_cons_succ]
      refine wpAnyH_done (by kernel_rfl) ?_ _
      have HHC := hid (heldNodes B (SJ ss j).cond.length (k + 4) _ w1 (by omega) (by omega) (HVC.out.below hbr))
      rw [show ((k + 4 : Nat) : Int) = (k : Int) + 1 + 1 + 1 + 1 by omega] at HHC
      have b3 : (((k + 3 : Nat) : Int) != (k : Int) + 1 + 1 + 1) = false := by simp; omega
      have b4 : ((k : Int) + 3 != (k : Int) + 1 + 1 + 1) = false := by simp; omega
      have hg1 : g < w1.heap.size := Nat.lt_of_lt_of_le hg l1
      go_wp2_with fail
      refine HHC.out.mono ?_
      rintro e w2 ⟨rfl, hb2⟩
      have HB2 := hid (HB1.out.trans (hb2.mono HB1.out.size))
      have HHE := hid (heldNodes B (SJ ss j).expr.length (k + 4 + 4 * (SJ ss j).cond.length) _ w2 (by omega) (by omega) ((HVE.out.below hbr).below hb2))
      have t52 := kept_cell hb2 hg1 t5
      have b5 : ¬ ((k + 4 + 4 * (SJ ss j).cond.length : Nat) : Int) < 0 := by omega
      clear hb2 HHC
      go_wp2_with fail
      refine HHE.out.mono ?_
      rintro e w3 ⟨rfl, hb3⟩
      have HB3 := hid (HB2.out.trans (hb3.mono HB2.out.size))
      have b6 : ¬ ((k + 4 + 4 * (SJ ss j).cond.length + 4 * (SJ ss j).expr.length : Nat) : Int) < 0 := by omega
      clear hb3 HHE
      go_wp2
      exact ⟨⟨j + 1, by simp, by rw [HKS.out]; simp, by omega, HB3⟩, by simp [intOf]; omega⟩
    · obtain rfl : j = ss.length := by omega
      have q1 : ¬ (ss.length : Int) < ((mkS k0 ss).length : Int) := by have := HML.out; omega
      go_wp2
      go_ret
      exact ⟨rfl, HB.out⟩
/-- The answer's steps lie in blocks of that range. -/
def SIn (w : World) (B C0 : Nat) (v : Value) (ss : List StepD) : Prop := ∃ C E, SAt w B v ss C E ∧ (∀ b, own v b → b < C0) ∧ ∀ j, j < ss.length → ∀ b, own (C j) b ∨ own (E j) b → b < C0
theorem into {w : World} {B : Nat} {v : Value} {ss : List StepD} (h : SOwn w B v ss) : SIn w B w.heap.size v ss := by
  obtain ⟨C, E, h⟩ := h
  refine ⟨C, E, h, fun b hb => (Nst.own_lt h.row hb).2, fun j hj b hb => ?_⟩
  rcases hb with hb | hb
  · exact (Nst.own_lt (SAt.cond h hj) hb).2
  · exact (Nst.own_lt (SAt.expr h hj) hb).2
theorem SIn.own {w : World} {B C0 : Nat} {v : Value} {ss : List StepD} (h : SIn w B C0 v ss) : SOwn w B v ss := by
  obtain ⟨C, E, h, _⟩ := h; exact ⟨C, E, h⟩
theorem SIn.keep {w w' : World} {B C0 : Nat} {v : Value} {ss : List StepD} (h : SIn w B C0 v ss) (hb : ∀ b, B ≤ b → b < C0 → w'.heap[b]? = w.heap[b]?) : SIn w' B C0 v ss := by
  obtain ⟨C, E, h, h1, h2⟩ := h
  refine ⟨C, E, h.kept (fun b hv => hb b (Nst.own_lt h.row hv).1 (h1 b hv)) (fun i hi b hv => ?_), h1, h2⟩
  have hs := h.sub i hi
  have hB := (Nst.own_lt hs hv).1
  by_cases e : i % 2 = 0
  · have hv2 : Nst.own (C (i / 2)) b := by simpa only [subs, e, if_true, nsub] using hv
    exact hb b hB (h2 (i / 2) (by omega) b (.inl hv2))
  · have hv2 : Nst.own (E (i / 2)) b := by simpa only [subs, e, if_false, nsub] using hv
    exact hb b hB (h2 (i / 2) (by omega) b (.inr hv2))
theorem SIn.below {w w' : World} {B C0 : Nat} {v : Value} {ss : List StepD} (h : SIn w B C0 v ss) (hC : C0 ≤ w.heap.size) (hb : Below w.heap.size w w') : SIn w' B C0 v ss := h.keep (fun b _ hl => hb.block b (by omega))
theorem markSteps (B C0 k0 : Nat) (ss : List StepD) (v : Value) (w : World) (hn : ss.length ≤ 64) (h0 : 0 < k0) (hk0 : k0 ≤ 1000000) (hm : ∀ j, j < ss.length → (SJ ss j).cond.length ≤ 64 ∧ (SJ ss j).expr.length ≤ 64) (h : SIn w B C0 v ss) :
    Calls Tryd.prog 11 #[v, .int .i64 (k0 : Int)] w fun e w' => e = .returned (.int .i64 (kAt k0 ss ss.length : Int)) ∧ SOwn w' B v (mkS k0 ss) ∧ Amid w w' B C0 := by
  obtain ⟨C, E, h, h1, h2⟩ := h
  rcases Nat.eq_zero_or_pos ss.length with e | e
  · have e2 : ss = [] := List.eq_nil_of_length_eq_zero e
    subst e2
    obtain ⟨a, cap, rfl⟩ := Nst.own_slice h.row
    have H := hid h
    clear h h1 h2
    go_enter Tryd.func11, Tryd.ntmps11
    go_wp2
    refine wp_loop_rounds 2 ?_
    rw [rounds_succ]
    go_wp2
    go_ret
    exact ⟨by simp [kAt], ⟨C, E, H.out⟩, Amid.refl _ _ _⟩
  · obtain ⟨g, cap, rfl, _⟩ := Nst.own_some h.row e
    exact markSteps1 B C0 g cap k0 ss C E w hn h0 hk0 hm h (h1 g rfl) h2
set_option maxRecDepth 100000 in
set_option maxHeartbeats 2000000 in
theorem markRes (B C0 k0 : Nat) (c : Int) (ss : List StepD) (v : Value) (w : World) (hC : C0 ≤ w.heap.size) (hn : ss.length ≤ 64) (h0 : 0 < k0) (hk0 : k0 ≤ 1000000) (hm : ∀ j, j < ss.length → (SJ ss j).cond.length ≤ 64 ∧ (SJ ss j).expr.length ≤ 64) (h : SIn w B C0 v ss) :
    Calls Tryd.prog 12 #[.agg #[.int .i64 c, v], .int .i64 (k0 : Int)] w fun e w' => e = .returned (.int .i64 (kAt k0 ss ss.length : Int)) ∧ SOwn w' B v (mkS k0 ss) ∧ Amid w w' B C0 := by
  have hx : Below w.heap.size w (w.alloc (.cells #[.int .i64 c, v] 26)) := (Below.refl _ w).alloc (Nat.le_refl _) _
  have HM := hid (markSteps B C0 k0 ss v _ hn h0 hk0 hm (h.below hC hx))
  obtain ⟨a, cap, rfl⟩ := h.own.slice
  have HX := hid hx
  clear h hx hm
  go_enter Tryd.func12, Tryd.ntmps12
  go_wp2_with fail
  refine HM.out.mono ?_
  rintro e w1 ⟨rfl, ho, hA⟩
  have HO := hid ho
  have HA := hid hA
  clear ho hA
  go_wp2
  go_ret
  exact ⟨rfl, HO.out, (Amid.of_below HX.out).trans HA.out⟩
set_option maxRecDepth 100000 in
set_option maxHeartbeats 2000000 in
theorem heldRes (B k0 : Nat) (c : Int) (ss : List StepD) (v : Value) (w : World) (hn : ss.length ≤ 64) (h0 : 0 < k0) (hk0 : k0 ≤ 1000000) (hm : ∀ j, j < ss.length → (SJ ss j).cond.length ≤ 64 ∧ (SJ ss j).expr.length ≤ 64) (h : St.At w B v (mkS k0 ss)) :
    Calls Tryd.prog 13 #[.agg #[.int .i64 c, v], .int .i64 (k0 : Int)] w fun e w' => e = .returned (.int .i64 (kAt k0 ss ss.length : Int)) ∧ Below w.heap.size w w' := by
  have hx : Below w.heap.size w (w.alloc (.cells #[.int .i64 c, v] 26)) := (Below.refl _ w).alloc (Nat.le_refl _) _
  have HM := hid (heldSteps B k0 ss v _ hn h0 hk0 hm (h.below hx))
  obtain ⟨a, cap, rfl⟩ := h.slice
  have HX := hid hx
  clear h hx hm
  generalize hkk : kAt k0 ss ss.length = kk at *
  clear hkk
  have b1 : ¬ (kk : Int) < 0 := by omega
  go_enter Tryd.func13, Tryd.ntmps13
  go_wp2_with fail
  refine HM.out.mono ?_
  rintro e w1 ⟨rfl, hb⟩
  have HB := hid hb
  clear hb
  go_wp2
  go_ret
  exact ⟨rfl, HX.out.trans (HB.out.mono HX.out.size)⟩
set_option maxRecDepth 100000 in
set_option maxHeartbeats 2000000 in
theorem eqRes (B1 B2 : Nat) (c : Int) (ss : List StepD) (v1 v2 : Value) (w : World) (hl : St.Small 1048576 ss) (h1 : St.At w B1 v1 ss) (h2 : St.At w B2 v2 ss) :
    Calls Tryd.prog 9 #[.agg #[.int .i64 c, v1], .agg #[.int .i64 c, v2]] w fun e w' => e = .returned (.bool true) ∧ Below w.heap.size w w' := by
  have hx : Below w.heap.size w ((w.alloc (.cells #[.int .i64 c, v1] 26)).alloc (.cells #[.int .i64 c, v2] 26)) := ((Below.refl _ w).alloc (Nat.le_refl _) _).alloc (by simp) _
  have HM := hid (St.eqS B1 B2 ss v1 v2 _ hl (h1.below hx) (h2.below hx))
  obtain ⟨a, cap, rfl⟩ := h1.slice
  obtain ⟨a2, cap2, rfl⟩ := h2.slice
  have HX := hid hx
  clear h1 h2 hx
  have e1 : (c != c) = false := by simp
  go_enter Tryd.func9, Tryd.ntmps9
  go_wp2_with fail
  refine HM.out.mono ?_
  rintro e w1 ⟨rfl, hb⟩
  have HB := hid hb
  clear hb
  go_wp2
  go_ret
  exact ⟨rfl, HX.out.trans (HB.out.mono HX.out.size)⟩
end Sk
end Go.Proofs.YtedgobdnjemegaaDoor
