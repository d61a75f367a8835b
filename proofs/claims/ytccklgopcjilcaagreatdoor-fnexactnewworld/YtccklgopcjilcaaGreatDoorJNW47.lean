/- Laid together: SkB, EoM. -/
import Derived.Test.YtccklgopcjilcaaGreatDoorJNW46
import Derived.Test.YtccklgopcjilcaaGreatDoorJNW18
import Derived.Deep.RegionHeld3
import Derived.Test.YtccklgopcjilcaaGreatDoorJNW22
/- Whether the law's marks hold, in steps that a function has made itself; marks, holds and comparison of a ProcResult. -/
namespace Go.Proofs.YtccklgopcjilcaaGreatDoor
open Go.RowKit
set_option linter.unusedVariables false
namespace Sk
open Ex (hid nvals)
open Nd (NodeD)
open St (StepD)
open Nst (own)
open Mk (mt markText markText')
open Nk (Amid mkN mkN_len kept_cell heldNodes)
open So (SJ SJ_eq scell nsub SAt SOwn subs sub_even sub_odd nodes_own)
theorem mt_ne (k : Nat) : ((mt k).toList != (mt k).toList) = false := by simp
set_option maxRecDepth 100000 in
set_option maxHeartbeats 8000000 in
theorem heldSteps (B k0 : Nat) (ss : List StepD) (v : Value) (w : World) (hn : ss.length ≤ 64) (h0 : 0 < k0) (hk0 : k0 ≤ 1000000) (hm : ∀ j, j < ss.length → (SJ ss j).cond.length ≤ 64 ∧ (SJ ss j).expr.length ≤ 64) (ha : St.At w B v (mkS k0 ss)) :
    Calls Tryz.prog 169 #[v, .int .i64 (k0 : Int)] w fun e w' => e = .returned (.int .i64 (kAt k0 ss ss.length : Int)) ∧ Below w.heap.size w w' := by
  obtain ⟨a, cap, rfl⟩ := ha.slice
  have HA := hid ha
  have HM := hid hm
  have HK := hid (fun i (hi : i ≤ ss.length) => kAt_le (k0 := k0) hm i hi)
  have HP := hid (kAt_pos h0 ss)
  have hml := mkS_len k0 ss
  have HML := hid hml
  clear ha hm hml
  go_enter Tryz.func169, Tryz.ntmps169
  go_wp2
  go_loopw [1, 5] (fun q i wr => ∃ (j : Nat), i = .int .i64 j ∧ q = .int .i64 (kAt k0 ss j : Int) ∧ j ≤ ss.length ∧ Hid (Below w.heap.size w wr)) (fun _ i _ => ss.length - (intOf i).toNat)
  case atStart => exact ⟨0, rfl, by simp [kAt], Nat.zero_le _, hid (Below.refl _ _)⟩
  case round =>
    obtain ⟨j, rfl, rfl, hj, HB⟩ := hrel
    by_cases hlt : j < ss.length
    · have q1 : (j : Int) < ((mkS k0 ss).length : Int) := by have := HML.out; omega
      have hlt2 : j < (mkS k0 ss).length := by have := HML.out; omega
      obtain ⟨g, o, vc, ve, rfl, hg, c0, c1, c2, c3, c4, c5, hvc, hve⟩ := (HA.out.below HB.out).at (i := j) hlt2
      rw [mkS_get] at c0 c1 c2 c3 hvc hve
      have hkj := HK.out j (by omega)
      have hpj := HP.out j
      have hmj := (HM.out j hlt).1
      have hmj2 := (HM.out j hlt).2
      have HKS : Hid (kAt k0 ss (j + 1) = kAt k0 ss j + 4 + 4 * (SJ ss j).cond.length + 4 * (SJ ss j).expr.length) := hid rfl
      replace c0 : wr.cell? ⟨g, o + j * 6, none⟩ = some (.int .i64 (kAt k0 ss j : Int)) := c0
      replace c1 : wr.cell? ⟨g, o + j * 6 + 1, none⟩ = some (.int .i64 ((kAt k0 ss j + 1 : Nat) : Int)) := c1
      replace c2 : wr.cell? ⟨g, o + j * 6 + 2, none⟩ = some (.string (mt (kAt k0 ss j + 2))) := c2
      replace c3 : wr.cell? ⟨g, o + j * 6 + 3, none⟩ = some (.int .i64 ((kAt k0 ss j + 3 : Nat) : Int)) := c3
      replace hvc : Nd.At wr B vc (mkN (kAt k0 ss j + 4) (SJ ss j).cond.length) := hvc
      replace hve : Nd.At wr B ve (mkN (kAt k0 ss j + 4 + 4 * (SJ ss j).cond.length) (SJ ss j).expr.length) := hve
      obtain ⟨a2, cap2, rfl⟩ := hvc.slice
      obtain ⟨a3, cap3, rfl⟩ := hve.slice
      have HVC := hid hvc
      have HVE := hid hve
      generalize hkk : kAt k0 ss j = k at *
      clear hkk hvc hve
      have HM1 := hid (fun wx => markText' ((k : Int) + 1 + 1) wx (by omega) (by omega))
      rw [show ((k : Int) + 1 + 1).toNat = k + 2 by omega] at HM1
      have hn1 := mt_ne (k + 2)
      have b0 : ((k : Int) != (k : Int)) = false := by simp
      have b1 : (((k + 1 : Nat) : Int) != (k : Int) + 1) = false := by simp
      have b2 : ((k : Int) + 1 != (k : Int) + 1) = false := by simp
      go_wp2_with fail
      have t0 : wr.drew.cell? ⟨g, o + j * 6 + 2, none⟩ = some (.string (mt (k + 2))) := c2
      have t3d : wr.drew.cell? ⟨g, o + j * 6 + 3, none⟩ = some (.int .i64 ((k + 3 : Nat) : Int)) := c3
      have t4d : wr.drew.cell? ⟨g, o + j * 6 + 4, none⟩ = some (.slice a2 (mkN (k + 4) (SJ ss j).cond.length).length cap2) := c4
      have t5d : wr.drew.cell? ⟨g, o + j * 6 + 5, none⟩ = some (.slice a3 (mkN (k + 4 + 4 * (SJ ss j).cond.length) (SJ ss j).expr.length).length cap3) := c5
      have hgd : g < wr.drew.heap.size := hg
      have HBd : Hid (Below w.heap.size w wr.drew) := hid HB.out.drew
      have hDr : Below wr.heap.size wr wr.drew := (Below.refl _ wr).drew
      have hWd : w.heap.size ≤ wr.drew.heap.size := HB.out.size
      refine wp_region_held_drew (S := fun wx => wx.cell? ⟨g, o + j * 6 + 2, none⟩ = some (.string (mt (k + 2))) ∧ Below w.heap.size w wx) (by kernel_rfl) ⟨t0, HBd.out⟩ (fun hHeld => ?_)
      refine wpAnyH_take (i := 0) (oi := { dst := some 30, op := Go.Op.move (Go.Operand.tmp 0), type := 87, pos := "exact.go:707", after := #[], guard := none }) (v := .slice (some ⟨g, o, none⟩) (mkS k0 ss).length cap) rfl (by kernel_rfl) (by kernel_rfl) (by kernel_rfl) (fun _ _ _ h => h) (Or.inl ⟨by rfl, by intro w hSw; (try dsimp only at hSw); go_simp⟩) (by assumption) ?_
      simp only [Act.put, List.setIfInBounds_toArray, List.set_cons_zero, List.set_cons_succ]
      refine wpAnyH_take (i := 1) (oi := { dst := some 31, op := Go.Op.move (Go.Operand.tmp 5), type := 3, pos := "exact.go:707", after := #[], guard := none }) (v := .int .i64 (j : Int)) rfl (by kernel_rfl) (by kernel_rfl) (by kernel_rfl) (fun _ _ _ h => h) (Or.inl ⟨by rfl, by intro w hSw; (try dsimp only at hSw); go_simp⟩) (by assumption) ?_
      simp only [Act.put, List.setIfInBounds_toArray, List.set_cons_zero, List.set_cons_succ]
      refine wpAnyH_take (i := 2) (oi := { dst := some 32, op := Go.Op.indexAddr 87 (Go.Operand.tmp 30) (Go.Operand.tmp 31), type := 0, pos := "exact.go:707", after := #[{ on := 0, ground := Go.Ground.data }, { on := 1, ground := Go.Ground.data }], guard := none }) (v := .pointer (some ⟨g, o + j * 6, none⟩)) rfl (by kernel_rfl) (by kernel_rfl) (by kernel_rfl) (fun _ _ _ h => h) (Or.inl ⟨by rfl, by intro w hSw; (try dsimp only at hSw); go_simp⟩) (by assumption) ?_
      simp only [Act.put, List.setIfInBounds_toArray, List.set_cons_zero, List.set_cons_succ]
      refine wpAnyH_take (i := 3) (oi := { dst := some 33, op := Go.Op.fieldAddr 164 (Go.Operand.tmp 32) 2, type := 0, pos := "exact.go:707", after := #[{ on := 2, ground := Go.Ground.data }], guard := none }) (v := .pointer (some ⟨g, o + j * 6 + 2, none⟩)) rfl (by kernel_rfl) (by kernel_rfl) (by kernel_rfl) (fun _ _ _ h => h) (Or.inl ⟨by rfl, by intro w hSw; (try dsimp only at hSw); go_simp⟩) (by assumption) ?_
      simp only [Act.put, List.setIfInBounds_toArray, List.set_cons_zero, List.set_cons_succ]
      refine wpAnyH_take (i := 4) (oi := { dst := some 34, op := Go.Op.load 9 (Go.Operand.tmp 33), type := 9, pos := "exact.go:707", after := #[{ on := 3, ground := Go.Ground.data }], guard := none }) (v := .string (mt (k + 2))) rfl (by kernel_rfl) (by kernel_rfl) (by kernel_rfl) (fun _ _ _ h => h) (Or.inl ⟨by rfl, by intro w hSw; (try dsimp only at hSw); go_simp⟩) (by assumption) ?_
      simp only [Act.put, List.setIfInBounds_toArray, List.set_cons_zero, List.set_cons_succ]
      refine wpAnyH_take (i := 5) (oi := { dst := some 35, op := Go.Op.move (Go.Operand.tmp 1), type := 3, pos := "exact.go:707", after := #[], guard := none }) (v := .int .i64 ((k : Int) + 1 + 1)) rfl (by kernel_rfl) (by kernel_rfl) (by kernel_rfl) (fun _ _ _ h => h) (Or.inl ⟨by rfl, by intro w hSw; (try dsimp only at hSw); go_simp⟩) (by assumption) ?_
      simp only [Act.put, List.setIfInBounds_toArray, List.set_cons_zero, List.set_cons_succ]
      refine wpAnyH_ready (rs := [6]) (by kernel_rfl) (by simp) ?_
      refine AllReadyH.cons (o := { dst := some 36, op := Go.Op.call { callee := Go.Callee.value (Go.Operand.func 101), args := #[Go.Operand.tmp 35], argTypes := #[3] }, type := 9, pos := "exact.go:707", after := #[{ on := 5, ground := Go.Ground.data }], guard := none }) rfl (fun K hK => ?_) AllReadyH.nil
      go_simp
      go_at_call 101
      refine (HM1.out _).mono ?_
      rintro e w1 ⟨rfl, hb1⟩
      have g0 := kept_cell hb1 hgd t0
      have HB1 := hid (HBd.out.trans (hb1.mono hWd))
      have hbr : Below wr.heap.size wr w1 := hDr.trans hb1
      have l1 : wr.heap.size ≤ w1.heap.size := hb1.size
      have t3 := kept_cell hb1 hgd t3d
      have t4 := kept_cell hb1 hgd t4d
      have t5 := kept_cell hb1 hgd t5d
      clear hb1
      go_wp2_with fail
      refine hK.out _ _ ⟨g0, HB1.out⟩ (fun hHeld => ?_)
      clear hK K
      try simp only [Act.put, List.setIfInBounds_toArray, List.set_cons_zero, List.set_cons_succ]
      refine wpAnyH_take (i := 7) (oi := { dst := some 37, op := Go.Op.binOp Go.BinOp.neq 9 (Go.Operand.tmp 34) (Go.Operand.tmp 36) 9, type := 4, pos := "exact.go:707", after := #[{ on := 4, ground := Go.Ground.data }, { on := 6, ground := Go.Ground.data }], guard := none }) (v := .bool false) rfl (by kernel_rfl) (by kernel_rfl) (by kernel_rfl) (fun _ _ _ h => h) (Or.inl ⟨by rfl, by intro w hSw; (try dsimp only at hSw); go_simp⟩) (by assumption) ?_
      simp only [Act.put, List.setIfInBounds_toArray, List.set_cons_zero, List.set_cons_succ]
      refine wpAnyH_done (by kernel_rfl) ?_ _
      have HHC := hid (heldNodes B (SJ ss j).cond.length (k + 4) _ w1 (by omega) (by omega) (HVC.out.below hbr))
      rw [show ((k + 4 : Nat) : Int) = (k : Int) + 1 + 1 + 1 + 1 by omega] at HHC
      have b3 : (((k + 3 : Nat) : Int) != (k : Int) + 1 + 1 + 1) = false := by simp; omega
      have b4 : ((k : Int) + 3 != (k : Int) + 1 + 1 + 1) = false := by simp; omega
      have hg1 : g < w1.heap.size := Nat.lt_of_lt_of_le hg l1
      go_wp2_with fail
      refine HHC.out.mono ?_
      rintro e w2 ⟨rfl, hb2⟩
      have HB2 := hid (HB1.out.trans (hb2.mono HB1.out.size))
      have HHE := hid (heldNodes B (SJ ss j).expr.length (k + 4 + 4 * (SJ ss j).cond.length) _ w2 (by omega) (by omega) ((HVE.out.below hbr).below hb2))
      have t52 := kept_cell hb2 hg1 t5
      have b5 : ¬ ((k + 4 + 4 * (SJ ss j).cond.length : Nat) : Int) < 0 := by omega
      clear hb2 HHC
      go_wp2_with fail
      refine HHE.out.mono ?_
      rintro e w3 ⟨rfl, hb3⟩
      have HB3 := hid (HB2.out.trans (hb3.mono HB2.out.size))
      have b6 : ¬ ((k + 4 + 4 * (SJ ss j).cond.length + 4 * (SJ ss j).expr.length : Nat) : Int) < 0 := by omega
      clear hb3 HHE
      go_wp2
      exact ⟨⟨j + 1, by simp, by rw [HKS.out]; simp, by omega, HB3⟩, by simp [intOf]; omega⟩
    · obtain rfl : j = ss.length := by omega
      have q1 : ¬ (ss.length : Int) < ((mkS k0 ss).length : Int) := by have := HML.out; omega
      go_wp2
      go_ret
      exact ⟨rfl, HB.out⟩
/-- The answer's steps lie in blocks of that range. -/
def SIn (w : World) (B C0 : Nat) (v : Value) (ss : List StepD) : Prop := ∃ C E, SAt w B v ss C E ∧ (∀ b, own v b → b < C0) ∧ ∀ j, j < ss.length → ∀ b, own (C j) b ∨ own (E j) b → b < C0
theorem into {w : World} {B : Nat} {v : Value} {ss : List StepD} (h : SOwn w B v ss) : SIn w B w.heap.size v ss := by
  obtain ⟨C, E, h⟩ := h
  refine ⟨C, E, h, fun b hb => (Nst.own_lt h.row hb).2, fun j hj b hb => ?_⟩
  rcases hb with hb | hb
  · exact (Nst.own_lt (SAt.cond h hj) hb).2
  · exact (Nst.own_lt (SAt.expr h hj) hb).2
theorem SIn.own {w : World} {B C0 : Nat} {v : Value} {ss : List StepD} (h : SIn w B C0 v ss) : SOwn w B v ss := by
  obtain ⟨C, E, h, _⟩ := h; exact ⟨C, E, h⟩
theorem SIn.keep {w w' : World} {B C0 : Nat} {v : Value} {ss : List StepD} (h : SIn w B C0 v ss) (hb : ∀ b, B ≤ b → b < C0 → w'.heap[b]? = w.heap[b]?) : SIn w' B C0 v ss := by
  obtain ⟨C, E, h, h1, h2⟩ := h
  refine ⟨C, E, h.kept (fun b hv => hb b (Nst.own_lt h.row hv).1 (h1 b hv)) (fun i hi b hv => ?_), h1, h2⟩
  have hs := h.sub i hi
  have hB := (Nst.own_lt hs hv).1
  by_cases e : i % 2 = 0
  · have hv2 : Nst.own (C (i / 2)) b := by simpa only [subs, e, if_true, nsub] using hv
    exact hb b hB (h2 (i / 2) (by omega) b (.inl hv2))
  · have hv2 : Nst.own (E (i / 2)) b := by simpa only [subs, e, if_false, nsub] using hv
    exact hb b hB (h2 (i / 2) (by omega) b (.inr hv2))
theorem SIn.below {w w' : World} {B C0 : Nat} {v : Value} {ss : List StepD} (h : SIn w B C0 v ss) (hC : C0 ≤ w.heap.size) (hb : Below w.heap.size w w') : SIn w' B C0 v ss := h.keep (fun b _ hl => hb.block b (by omega))
theorem markStepsP (B C0 k0 : Nat) (ss : List StepD) (v : Value) (C E : Nat → Value) (w : World) (hn : ss.length ≤ 64) (h0 : 0 < k0) (hk0 : k0 ≤ 1000000) (hm : ∀ j, j < ss.length → (SJ ss j).cond.length ≤ 64 ∧ (SJ ss j).expr.length ≤ 64) (h : SAt w B v ss C E) (h1 : ∀ b, own v b → b < C0) (h2 : ∀ j, j < ss.length → ∀ b, own (C j) b ∨ own (E j) b → b < C0) :
    Calls Tryz.prog 52 #[v, .int .i64 (k0 : Int)] w fun e w' => e = .returned (.int .i64 (kAt k0 ss ss.length : Int)) ∧ SAt w' B v (mkS k0 ss) C E ∧ Amid w w' B C0 := by
  rcases Nat.eq_zero_or_pos ss.length with e | e
  · have e2 : ss = [] := List.eq_nil_of_length_eq_zero e
    subst e2
    obtain ⟨a, cap, rfl⟩ := Nst.own_slice h.row
    have H := hid h
    clear h h1 h2
    go_enter Tryz.func52, Tryz.ntmps52
    go_wp2
    refine wp_loop_rounds 2 ?_
    rw [rounds_succ]
    go_wp2
    go_ret
    exact ⟨by simp [kAt], H.out, Amid.refl _ _ _⟩
  · obtain ⟨g, cap, rfl, _⟩ := Nst.own_some h.row e
    exact markSteps1 B C0 g cap k0 ss C E w hn h0 hk0 hm h (h1 g rfl) h2
theorem markSteps (B C0 k0 : Nat) (ss : List StepD) (v : Value) (w : World) (hn : ss.length ≤ 64) (h0 : 0 < k0) (hk0 : k0 ≤ 1000000) (hm : ∀ j, j < ss.length → (SJ ss j).cond.length ≤ 64 ∧ (SJ ss j).expr.length ≤ 64) (h : SIn w B C0 v ss) :
    Calls Tryz.prog 52 #[v, .int .i64 (k0 : Int)] w fun e w' => e = .returned (.int .i64 (kAt k0 ss ss.length : Int)) ∧ SOwn w' B v (mkS k0 ss) ∧ Amid w w' B C0 := by
  obtain ⟨C, E, h, h1, h2⟩ := h
  exact (markStepsP B C0 k0 ss v C E w hn h0 hk0 hm h h1 h2).mono (fun e w' ⟨a, b, c⟩ => ⟨a, ⟨C, E, b⟩, c⟩)
end Sk
end Go.Proofs.YtccklgopcjilcaaGreatDoor
/- The law's marks in the processes of an engine that a function has made itself, and whether they hold. -/
namespace Go.Proofs.YtccklgopcjilcaaGreatDoor
open Go.RowKit Go.Deep
set_option linter.unusedVariables false
namespace Eo
open Ex (hid)
open Nst (own flat own_lt own_kept)
open So (SAt SJ)
open St (StepD)
open Sk (kAt kAt_le kAt_pos mkS mkS_len)
open Nk (Amid)
/-- Nothing has turned but blocks of S. -/
structure Chg (S : Nat → Prop) (w w' : World) : Prop where
  os : w'.os = w.os
  tape : w'.tape = w.tape
  output : w'.output = w.output
  size : w.heap.size ≤ w'.heap.size
  block : ∀ b, b < w.heap.size → ¬ S b → w'.heap[b]? = w.heap[b]?
theorem Chg.refl (S : Nat → Prop) (w : World) : Chg S w w := ⟨rfl, rfl, rfl, Nat.le_refl _, fun _ _ _ => rfl⟩
theorem Chg.trans {S : Nat → Prop} {w w1 w2 : World} (h : Chg S w w1) (k : Chg S w1 w2) : Chg S w w2 :=
  ⟨k.os.trans h.os, k.tape.trans h.tape, k.output.trans h.output, Nat.le_trans h.size k.size, fun b hb hs => (k.block b (Nat.lt_of_lt_of_le hb h.size) hs).trans (h.block b hb hs)⟩
theorem Chg.mono {S T : Nat → Prop} {w w' : World} (h : Chg S w w') (hs : ∀ b, S b → T b) : Chg T w w' := ⟨h.os, h.tape, h.output, h.size, fun b hb ht => h.block b hb (fun e => ht (hs b e))⟩
theorem Chg.of_below {S : Nat → Prop} {w w' : World} (h : Below w.heap.size w w') : Chg S w w' := ⟨h.os, h.tape, h.output, h.size, fun b hb _ => h.block b hb⟩
theorem Chg.below {S : Nat → Prop} {W w w' : World} (hb : Below W.heap.size W w) (h : Chg S w w') (hs : ∀ b, S b → W.heap.size ≤ b) : Below W.heap.size W w' :=
  ⟨h.os.trans hb.os, h.tape.trans hb.tape, h.output.trans hb.output, Nat.le_trans hb.size h.size, fun b hl => (h.block b (Nat.lt_of_lt_of_le hl hb.size) (fun e => by have := hs b e; omega)).trans (hb.block b hl)⟩
theorem chg_amid {S : Nat → Prop} {w w' : World} {lo hi : Nat} (h : Amid w w' lo hi) (hs : ∀ b, lo ≤ b → b < hi → S b) : Chg S w w' :=
  ⟨h.os, h.tape, h.output, h.size, fun b hb hn => h.block b hb (by
    rcases Nat.lt_or_ge b lo with h1 | h1
    · exact .inl h1
    · rcases Nat.lt_or_ge b hi with h2 | h2
      · exact absurd (hs b h1 h2) hn
      · exact .inr h2)⟩
def Few (ss : List StepD) : Prop := ss.length ≤ 64 ∧ ∀ j, j < ss.length → (SJ ss j).cond.length ≤ 64 ∧ (SJ ss j).expr.length ≤ 64
structure FewP (ps : List (List StepD)) : Prop where
  len : ps.length ≤ 3
  each : ∀ j, j < ps.length → Few (PJs ps j)
def kP (k0 : Nat) (ps : List (List StepD)) : Nat → Nat
  | 0 => k0
  | i + 1 => kAt (kP k0 ps i) (PJs ps i) (PJs ps i).length
theorem kP_pos {k0 : Nat} (h : 0 < k0) (ps : List (List StepD)) : ∀ i, 0 < kP k0 ps i
  | 0 => h
  | i + 1 => kAt_pos (kP_pos h ps i) _ _
theorem kP_le {k0 : Nat} {ps : List (List StepD)} (hf : FewP ps) : ∀ i, i ≤ ps.length → kP k0 ps i ≤ k0 + 33024 * i
  | 0, _ => by simp [kP]
  | i + 1, h => by
    have h1 := kP_le (k0 := k0) hf i (by omega)
    have h2 := hf.each i (by omega)
    have h3 := kAt_le (k0 := kP k0 ps i) (n := (PJs ps i).length) h2.2 (PJs ps i).length (Nat.le_refl _)
    have := h2.1
    rw [kP]; omega
def mkP (k0 : Nat) (ps : List (List StepD)) : List (List StepD) := (List.range ps.length).map (fun i => mkS (kP k0 ps i) (PJs ps i))
theorem mkP_len (k0 : Nat) (ps : List (List StepD)) : (mkP k0 ps).length = ps.length := by simp [mkP]
theorem mkP_J {k0 : Nat} {ps : List (List StepD)} {i : Nat} (h : i < ps.length) : PJs (mkP k0 ps) i = mkS (kP k0 ps i) (PJs ps i) := by
  rw [PJs_eq (by rw [mkP_len]; exact h)]; simp [mkP]
abbrev InI (n : Nat) (lo hi : Nat → Nat) (b : Nat) : Prop := ∃ i, i < n ∧ lo i ≤ b ∧ b < hi i
set_option maxRecDepth 100000 in
set_option maxHeartbeats 8000000 in
theorem markP (B k0 : Nat) (ps : List (List StepD)) (v : Value) (pv : Nat → Value) (C E : Nat → Nat → Value) (lo hi : Nat → Nat) (w : World) (hf : FewP ps) (h0 : 0 < k0) (hk0 : k0 ≤ 800000) (h : PRow w B v ps pv C E lo hi) :
    Calls Tryz.prog 15 #[v, .int .i64 (k0 : Int)] w fun e w' => e = .returned (.int .i64 (kP k0 ps ps.length : Int)) ∧ PRow w' B v (mkP k0 ps) pv C E lo hi ∧ Chg (InI ps.length lo hi) w w' := by
  obtain ⟨a, cap, rfl⟩ := Nst.own_slice h.row
  have HF := hid hf
  have H := hid h
  have hl3 := hf.len
  have HK := hid (fun i (hi : i ≤ ps.length) => kP_le (k0 := k0) hf i hi)
  have HP := hid (kP_pos h0 ps)
  clear h hf
  go_enter Tryz.func15, Tryz.ntmps15
  go_wp2
  go_loopw [1, 5] (fun q i wr => ∃ (j : Nat), i = .int .i64 j ∧ q = .int .i64 (kP k0 ps j : Int) ∧ j ≤ ps.length ∧ Hid (∀ i, i < ps.length → PIn wr (lo i) (hi i) (pv i) (if i < j then mkS (kP k0 ps i) (PJs ps i) else PJs ps i) (C i) (E i)) ∧ Hid (Chg (InI ps.length lo hi) w wr)) (fun _ i _ => ps.length - (intOf i).toNat)
  case atStart => exact ⟨0, rfl, rfl, Nat.zero_le _, hid (fun i hi => by rw [if_neg (by omega)]; exact H.out.pin i hi), hid (Chg.refl _ _)⟩
  case round =>
    obtain ⟨j, rfl, rfl, hj, HI, HC⟩ := hrel
    have HRW : Hid (wr.ownsRow B 89 1 (.slice a ps.length cap) ps.length (flat (fun j => [pv j]) ps.length)) := hid (own_kept H.out.row (fun b e => HC.out.block b (own_lt H.out.row e).2 (fun ⟨i, h1, h2, h3⟩ => by have := H.out.out b e i h1; omega)))
    by_cases hlt : j < ps.length
    · have q1 : (j : Int) < (ps.length : Int) := by omega
      obtain ⟨g, cap2, e1, hB, hg, hc, hm⟩ := Nst.own_some HRW.out (by omega)
      cases e1
      have hrow := HRW.out
      have c0 : wr.cell? ⟨g, j, none⟩ = some (pv j) := by
        have h1 := hrow.cellAt (j * 1) (by omega)
        have h2 := Nst.flat_get (f := fun j => [pv j]) (z := 1) (n := ps.length) (j := j) (c := 0) (fun _ _ => rfl) hlt (by omega)
        rw [Nat.mul_one] at h1
        rw [Nat.mul_one, Nat.add_zero] at h2
        rw [h1, h2]; rfl
      have hin := HI.out j hlt
      rw [if_neg (Nat.lt_irrefl j)] at hin
      obtain ⟨x1, x2, hx⟩ := Nst.own_slice hin.at'.row
      rw [hx] at c0
      have h2 := HF.out.each j hlt
      have hkj := HK.out j (by omega)
      have HM := hid (Sk.markStepsP (lo j) (hi j) (kP k0 ps j) (PJs ps j) (pv j) (C j) (E j) wr h2.1 (HP.out j) (by omega) h2.2 hin.at' hin.row hin.sub)
      rw [hx] at HM
      have HX := hid hx
      have HROW := hid hin.row
      have HSUB := hid hin.sub
      clear hin hx hrow h2
      go_wp2_with fail
      refine HM.out.mono ?_
      rintro e w1 ⟨rfl, hs, ham⟩
      have HC1 : Hid (Chg (InI ps.length lo hi) w w1) := hid (HC.out.trans (chg_amid ham (fun b h1 h2 => ⟨j, hlt, h1, h2⟩)))
      have HI1 : Hid (∀ i, i < ps.length → PIn w1 (lo i) (hi i) (pv i) (if i < j + 1 then mkS (kP k0 ps i) (PJs ps i) else PJs ps i) (C i) (E i)) := hid (fun i hi' => by
        by_cases e : i = j
        · subst e
          rw [if_pos (Nat.lt_succ_self i)]
          refine ⟨by rw [HX.out]; exact hs, HROW.out, fun x hx b hb => HSUB.out x (by rw [mkS_len] at hx; exact hx) b hb⟩
        · have h3 := (HI.out i hi').kept (w' := w1) (fun b h1 h2 h3 => ham.block b h3 (by have := H.out.sep i j hi' hlt e; omega))
          by_cases e2 : i < j
          · rw [if_pos e2] at h3; rw [if_pos (by omega)]; exact h3
          · rw [if_neg e2] at h3; rw [if_neg (by omega)]; exact h3)
      clear hs ham HM
      go_wp2
      exact ⟨⟨j + 1, by simp, by simp [kP], by omega, HI1, HC1⟩, by simp [intOf]; omega⟩
    · obtain rfl : j = ps.length := by omega
      have HE : Hid (PRow wr B (.slice a ps.length cap) (mkP k0 ps) pv C E lo hi) := hid (by
        refine ⟨by rw [mkP_len]; exact HRW.out, fun i hi' => ?_, fun i hi' => ?_, fun i i2 hi' hi2 => ?_, fun b e i hi' => ?_⟩
        · rw [mkP_len] at hi'
          have := HI.out i hi'
          rw [if_pos hi'] at this
          rw [mkP_J hi']; exact this
        · rw [mkP_len] at hi'
          have := H.out.base i hi'
          have := HC.out.size
          omega
        · rw [mkP_len] at hi' hi2; exact H.out.sep i i2 hi' hi2
        · rw [mkP_len] at hi'; exact H.out.out b e i hi')
      go_wp2
      go_ret
      exact ⟨rfl, HE.out, HC.out⟩
set_option maxRecDepth 100000 in
set_option maxHeartbeats 8000000 in
theorem heldP (B k0 : Nat) (ps : List (List StepD)) (v : Value) (w : World) (hf : FewP ps) (h0 : 0 < k0) (hk0 : k0 ≤ 800000) (ha : Ep.At w B v (mkP k0 ps)) :
    Calls Tryz.prog 127 #[v, .int .i64 (k0 : Int)] w fun e w' => e = .returned (.int .i64 (kP k0 ps ps.length : Int)) ∧ Below w.heap.size w w' := by
  obtain ⟨a, cap, rfl⟩ := ha.slice
  have HA := hid ha
  have HF := hid hf
  have hl3 := hf.len
  have HK := hid (fun i (hi : i ≤ ps.length) => kP_le (k0 := k0) hf i hi)
  have HP := hid (kP_pos h0 ps)
  have HML := hid (mkP_len k0 ps)
  clear ha hf
  go_enter Tryz.func127, Tryz.ntmps127
  go_wp2
  go_loopw [1, 5] (fun q i wr => ∃ (j : Nat), i = .int .i64 j ∧ q = .int .i64 (kP k0 ps j : Int) ∧ j ≤ ps.length ∧ Hid (Below w.heap.size w wr)) (fun _ i _ => ps.length - (intOf i).toNat)
  case atStart => exact ⟨0, rfl, rfl, Nat.zero_le _, hid (Below.refl _ _)⟩
  case round =>
    obtain ⟨j, rfl, rfl, hj, HB⟩ := hrel
    by_cases hlt : j < ps.length
    · have hlt2 : j < (mkP k0 ps).length := by rw [HML.out]; exact hlt
      have q1 : (j : Int) < ((mkP k0 ps).length : Int) := by omega
      obtain ⟨g, o, x1, rfl, hg, c0, hst⟩ := (HA.out.below HB.out).at hlt2
      obtain ⟨s1, s2, rfl⟩ := hst.slice
      have hmk := mkP_J (k0 := k0) hlt
      rw [PJs_eq hlt2] at hmk
      have h2 := HF.out.each j hlt
      have hkj := HK.out j (by omega)
      have HM := hid (Sk.heldSteps B (kP k0 ps j) (PJs ps j) _ wr h2.1 (HP.out j) (by omega) h2.2 (by rw [← hmk]; exact hst))
      have hkn := HK.out (j + 1) (by omega)
      have hpn := HP.out (j + 1)
      have b6 : ¬ ((kAt (kP k0 ps j) (PJs ps j) (PJs ps j).length : Nat) : Int) < 0 := by omega
      clear hst hmk h2
      go_wp2_with fail
      refine HM.out.mono ?_
      rintro e w1 ⟨rfl, hb1⟩
      have HB1 := hid (HB.out.trans (hb1.mono HB.out.size))
      clear hb1 HM
      go_wp2
      exact ⟨⟨j + 1, by simp, by simp [kP], by omega, HB1⟩, by simp [intOf]; omega⟩
    · obtain rfl : j = ps.length := by omega
      have q1 : ¬ (ps.length : Int) < ((mkP k0 ps).length : Int) := by have := HML.out; omega
      go_wp2
      go_ret
      exact ⟨rfl, HB.out⟩
end Eo
end Go.Proofs.YtccklgopcjilcaaGreatDoor
