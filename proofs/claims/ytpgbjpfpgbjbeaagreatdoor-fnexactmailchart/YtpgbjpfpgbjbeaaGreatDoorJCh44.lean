/- Laid together: KvA, KvP. -/
import Derived.Test.YtpgbjpfpgbjbeaaGreatDoorJCh43
import Derived.Test.YtpgbjpfpgbjbeaaGreatDoorJCh42
import Derived.Test.YtpgbjpfpgbjbeaaGreatDoorJCh41
import Derived.Deep.RegionLaw
/- The program's answer out of a chart under way. -/

namespace Go.Proofs.YtpgbjpfpgbjbeaaGreatDoor
open Go.RowKit Go.Deep
set_option linter.unusedVariables false
set_option linter.unusedSimpArgs false
namespace Kv
open Ex (inR evalCode evalVal vFault hid info_parts)
open St (StepD)
open Ch (RunD)
open Pf
open Kc
def runOf (n : Nat) (s : CS) : RunD := ⟨s.status, s.now, s.vars, (List.range n).map s.acts, (List.range n).map s.dues⟩
/-- An answer whose chart is its own. -/
def IPost (cc : Int) (r : RunD) (w : World) (e : Ending) (w' : World) : Prop := ∃ v1 v2 v3, e = .returned (.agg #[.int .i64 cc, .int .i64 r.status, .int .i64 r.now, v1, v2, v3]) ∧ Cr.Own3 w' w.heap.size v1 v2 v3 r ∧ Below w.heap.size w w'
theorem KAt.rowV {wg w : World} {R : Nat} {u : Value} {ss : List StepD} {s : CS} (h : KAt wg w R u ss s) : Ap.Row w 1 (.slice (some ⟨R, 3, none⟩) 4 4) 4 (Ints.vals s.vars) := by
  refine ⟨_, 4, rfl, by simp [Ints.vals, h.len], fun u hu => by simp only [Ints.vals, List.mem_map] at hu; obtain ⟨x, _, rfl⟩ := hu; rfl, .inr ⟨_, rfl, fun j x hx => ?_⟩⟩
  simp only [Ints.vals, List.getElem?_map] at hx
  rcases Nat.lt_or_ge j 4 with hj | hj
  · have := h.cV hj
    rw [List.getElem?_eq_getElem (by rw [h.len]; exact hj)] at hx
    cases hx
    rw [List.getD_eq_getElem?_getD, List.getElem?_eq_getElem (by rw [h.len]; exact hj)] at this
    rw [Kw.add_at]
    exact this
  · rw [List.getElem?_eq_none (by rw [h.len]; exact hj)] at hx
    cases hx
theorem KAt.rowA {wg w : World} {R n : Nat} {u : Value} {ss : List StepD} {s : CS} (h : KAt wg w R u ss s) (hn : n ≤ 24) : Ap.Row w 1 (.slice (some ⟨R, 7, none⟩) n 24) n (Ints.vals ((List.range n).map s.acts)) := by
  refine ⟨_, 24, rfl, by simp [Ints.vals], fun u hu => by simp only [Ints.vals, List.mem_map] at hu; obtain ⟨x, _, rfl⟩ := hu; rfl, .inr ⟨_, rfl, fun j x hx => ?_⟩⟩
  rcases Nat.lt_or_ge j n with hj | hj
  · have := h.cA (i := j) (by omega)
    rw [show (Ints.vals ((List.range n).map s.acts))[j]? = some (.int .i64 (s.acts j)) by simp [Ints.vals, hj]] at hx
    cases hx
    rw [Kw.add_at]
    exact this
  · rw [List.getElem?_eq_none (by simp [Ints.vals]; omega)] at hx
    cases hx
theorem KAt.rowD {wg w : World} {R n : Nat} {u : Value} {ss : List StepD} {s : CS} (h : KAt wg w R u ss s) (hn : n ≤ 24) : Ap.Row w 1 (.slice (some ⟨R, 31, none⟩) n 24) n (Ints.vals ((List.range n).map s.dues)) := by
  refine ⟨_, 24, rfl, by simp [Ints.vals], fun u hu => by simp only [Ints.vals, List.mem_map] at hu; obtain ⟨x, _, rfl⟩ := hu; rfl, .inr ⟨_, rfl, fun j x hx => ?_⟩⟩
  rcases Nat.lt_or_ge j n with hj | hj
  · have := h.cD (i := j) (by omega)
    rw [show (Ints.vals ((List.range n).map s.dues))[j]? = some (.int .i64 (s.dues j)) by simp [Ints.vals, hj]] at hx
    cases hx
    rw [Kw.add_at]
    exact this
  · rw [List.getElem?_eq_none (by simp [Ints.vals]; omega)] at hx
    cases hx
theorem KAt.other {wg w : World} {R : Nat} {u : Value} {ss : List StepD} {s : CS} (h : KAt wg w R u ss s) {b o : Nat} (hb : b ≠ R) (ho : wg.heap.size ≤ b) (v : Value) : KAt wg (w.setCell ⟨b, o, none⟩ v) R u ss s :=
  ⟨h.st, h.cap, h.bel.setCell (p := ⟨b, o, none⟩) ho v, h.old, (Below.heap_setCell _ _ _ _ (fun e => hb e.symm)).trans h.blk, h.len, h.pad⟩
/-- A row out of nothing, appended to nil. -/
theorem app_nil (w : World) (B : Nat) (x : Value) (m : Nat) (news : List Value) (hr : Ap.Row w 1 x m news) (hm : m ≤ 24) (hB : B ≤ w.heap.size) :
    ∃ a c w', (∀ ty, (Builtin.append_ #[23, 23] ty #[.slice none 0 0, x]).run Tryz.prog w = .ok (.slice a m c) w') ∧ w'.ownsRow B 2 1 (.slice a m c) m news ∧ Below w.heap.size w w' ∧ ∀ b, (Value.slice a m c).ownBlock = some b → b = w.heap.size := by
  obtain ⟨j0, hj, hy0, hy1, hy2⟩ := info_parts (P := Tryz.prog) Ex.infoI64
  obtain ⟨a, c, w', h1, h2, h3, h4⟩ := Ap.run_any (P := Tryz.prog) w 23 23 B 2 j0 (.int .i64 0) 1 8 Tryz.underlying23 hj hy0 hy1 hy2 rfl (by decide) (.slice none 0 0) 0 [] (World.ownsRow_nil _ _ _ _) x m news hr (by unfold maxLen; omega) (by omega) hB _ rfl
  rw [Nat.zero_add] at h1 h2 h4
  refine ⟨a, c, w', fun ty => h1, by simpa using h2, ⟨h3.os, h3.tape, h3.output, h3.size, fun b hb => h3.block b hb (fun e => by cases e)⟩, fun b hb => ?_⟩
  rcases h4 with h | h
  · rw [h] at hb; cases hb
  · rw [h] at hb; cases hb; rfl
theorem set6 {w : World} {b : Nat} {t : TypeId} {z0 z1 z2 z3 z4 z5 : Value} (h : w.heap[b]? = some (.cells #[z0, z1, z2, z3, z4, z5] t)) (a0 a1 a2 a3 a4 a5 : Value) : ((((((w.setCell ⟨b, 0, none⟩ a0).setCell ⟨b, 1, none⟩ a1).setCell ⟨b, 2, none⟩ a2).setCell ⟨b, 3, none⟩ a3).setCell ⟨b, 4, none⟩ a4).setCell ⟨b, 5, none⟩ a5).heap[b]? = some (.cells #[a0, a1, a2, a3, a4, a5] t) := by
  have := Ch.blk_set (i := 5) (Ch.blk_set (i := 4) (Ch.blk_set (i := 3) (Ch.blk_set (i := 2) (Ch.blk_set (i := 1) (Ch.blk_set (i := 0) h a0) a1) a2) a3) a4) a5
  simpa only [List.setIfInBounds_toArray, List.set_cons_zero, List.set_cons_succ] using this
theorem below6 {B : Nat} {x w : World} (h : Below B x w) {b : Nat} (hb : B ≤ b) (a0 a1 a2 a3 a4 a5 : Value) : Below B x ((((((w.setCell ⟨b, 0, none⟩ a0).setCell ⟨b, 1, none⟩ a1).setCell ⟨b, 2, none⟩ a2).setCell ⟨b, 3, none⟩ a3).setCell ⟨b, 4, none⟩ a4).setCell ⟨b, 5, none⟩ a5) :=
  (((((h.setCell (by exact hb) _).setCell (by exact hb) _).setCell (by exact hb) _).setCell (by exact hb) _).setCell (by exact hb) _).setCell (by exact hb) _
theorem heap6 {w : World} {b g : Nat} (hg : g ≠ b) (a0 a1 a2 a3 a4 a5 : Value) : ((((((w.setCell ⟨b, 0, none⟩ a0).setCell ⟨b, 1, none⟩ a1).setCell ⟨b, 2, none⟩ a2).setCell ⟨b, 3, none⟩ a3).setCell ⟨b, 4, none⟩ a4).setCell ⟨b, 5, none⟩ a5).heap[g]? = w.heap[g]? := by
  rw [Below.heap_setCell _ _ _ _ hg, Below.heap_setCell _ _ _ _ hg, Below.heap_setCell _ _ _ _ hg, Below.heap_setCell _ _ _ _ hg, Below.heap_setCell _ _ _ _ hg, Below.heap_setCell _ _ _ _ hg]
theorem info6 : (Tryz.prog.info? 28).map (·.size) = some 6 := by kernel_rfl
theorem own6 {w : World} {B n : Nat} {v1 v2 v3 : Value} {s : CS} (hlen : s.vars.length = 4) (h1 : w.ownsRow B 2 1 v1 4 (Ints.vals s.vars)) (h2 : w.ownsRow B 2 1 v2 n (Ints.vals ((List.range n).map s.acts))) (h3 : w.ownsRow B 2 1 v3 n (Ints.vals ((List.range n).map s.dues))) (n1 : ∀ b, v1.ownBlock = some b → b ≠ B) (n2 : ∀ b, v2.ownBlock = some b → b ≠ B) (n3 : ∀ b, v3.ownBlock = some b → b ≠ B)
    (d12 : ∀ b, v1.ownBlock = some b → v2.ownBlock ≠ some b) (d13 : ∀ b, v1.ownBlock = some b → v3.ownBlock ≠ some b) (d23 : ∀ b, v2.ownBlock = some b → v3.ownBlock ≠ some b) (a0 a1 a2 a3 a4 a5 : Value) :
    Cr.Own3 ((((((w.setCell ⟨B, 0, none⟩ a0).setCell ⟨B, 1, none⟩ a1).setCell ⟨B, 2, none⟩ a2).setCell ⟨B, 3, none⟩ a3).setCell ⟨B, 4, none⟩ a4).setCell ⟨B, 5, none⟩ a5) B v1 v2 v3 (runOf n s) := by
  refine ⟨?_, ?_, ?_, d12, d13, d23⟩
  · show World.ownsRow _ B 2 1 v1 s.vars.length (Ints.vals s.vars)
    rw [hlen]
    exact Cr.own_kept h1 (fun b e => heap6 (n1 b e) _ _ _ _ _ _)
  · show World.ownsRow _ B 2 1 v2 ((List.range n).map s.acts).length (Ints.vals ((List.range n).map s.acts))
    rw [List.length_map, List.length_range]
    exact Cr.own_kept h2 (fun b e => heap6 (n2 b e) _ _ _ _ _ _)
  · show World.ownsRow _ B 2 1 v3 ((List.range n).map s.dues).length (Ints.vals ((List.range n).map s.dues))
    rw [List.length_map, List.length_range]
    exact Cr.own_kept h3 (fun b e => heap6 (n3 b e) _ _ _ _ _ _)
theorem step_eq {P : Program} (w : World) {ops : Array Oper} {o : Oper} {a : Act} {K : Act → World → Prop} {Q : Exit → Act → World → Prop} {E : Prop} (hgd : o.guard = none) (s x : Operand) (t : TypeId)
    (ho : o.op = .call { callee := .builtin .append, args := #[s, x], argTypes := #[t, t] }) (v xv v' : Value) (w' : World) (hs : a.eval s = v) (hx : a.eval x = xv) (hrun : ∀ ty, (Builtin.append_ #[t, t] ty #[v, xv]).run P w = .ok v' w') (h : K (a.put o.dst v') w') :
    if Region.wanted o (yielded ops a.tmps) = true then Oper.wp P o a w K Q else E := by
  have hw : Region.wanted o (yielded ops a.tmps) = true := by simp [Region.wanted, hgd]
  rw [if_pos hw]
  unfold Oper.wp execOp
  simp only [ho, resolve, invoke, builtin, Sem.run_bind, Sem.run_pure, Result.andThen_ok, List.map_toArray, List.map_cons, List.map_nil, hs, hx, hrun]
  exact h
set_option maxRecDepth 100000 in
set_option maxHeartbeats 8000000 in
theorem resultU (wg w : World) (R : Nat) (u : Value) (ss : List StepD) (s : CS) (hl : ss.length ≤ 24) (h : KAt wg w R u ss s) :
    Calls Tryz.prog 41 #[.pointer (some ⟨R, 0, none⟩)] w (IPost 0 (runOf ss.length s) w) := by
  have hRl := h.lt
  have HLEN := hid h.len
  have nb1 : (ss.length : Int) ≤ 24 := by omega
  have nb2 : (0 : Int) ≤ (ss.length : Int) := by omega
  obtain ⟨gu, cu, eu, hgu, hgc⟩ := h.st
  clear hgc
  subst eu
  obtain ⟨w0, e0⟩ : ∃ w0, w0 = w.alloc (.cells #[.int .i64 0, .int .i64 0, .int .i64 0, .slice none 0 0, .slice none 0 0, .slice none 0 0] 28) := ⟨_, rfl⟩
  have hb0 : Below w.heap.size w w0 := by rw [e0]; exact (Below.refl _ w).alloc (Nat.le_refl _) _
  have K0 : Hid (w0.heap[w.heap.size]? = some (.cells #[.int .i64 0, .int .i64 0, .int .i64 0, .slice none 0 0, .slice none 0 0, .slice none 0 0] 28)) := hid (by rw [e0]; exact Ch.new_blk _ _)
  have HK0 := hid (h.below hb0)
  have c1 := HK0.out.c1
  have c2 := HK0.out.c2
  have hR0 : R < w0.heap.size := HK0.out.lt
  have hw0 : w.heap.size ≤ w0.heap.size := hb0.size
  have hgw : wg.heap.size ≤ w0.heap.size := HK0.out.bel.size
  have hw1 : w.heap.size < w0.heap.size := Ch.blk_lt K0.out
  have HB0 := hid hb0
  clear h hb0
  obtain ⟨w1, e1⟩ : ∃ w1, w1 = (w0.alloc (.cells #[.int .i64 s.status, .int .i64 s.now, .slice none 0 0, .slice none 0 0, .slice none 0 0] 26)).drew := ⟨_, rfl⟩
  have hb1 : Below w0.heap.size w0 w1 := by rw [e1]; exact ((Below.refl _ w0).alloc (Nat.le_refl _) _).drew
  have hk1 : w1.heap[w0.heap.size]? = some (.cells #[.int .i64 s.status, .int .i64 s.now, .slice none 0 0, .slice none 0 0, .slice none 0 0] 26) := by rw [e1]; exact Ch.new_blk _ _
  have HK1 := hid (HK0.out.below hb1)
  have HB1 := hid (HB0.out.trans (hb1.mono HB0.out.size))
  have K1 := hid ((hb1.block _ (Ch.blk_lt K0.out)).trans K0.out)
  have HE1 := hid e1
  clear e1 hb1 K0 HK0 HB0
  have d2 : w1.cell? ⟨w0.heap.size, 2, none⟩ = some (.slice none 0 0) := Ch.blk_cell hk1 2
  have l1 := Ch.blk_lt hk1
  have hR1 : R < w1.heap.size := HK1.out.lt
  obtain ⟨x0, y0, wa0, hq0, ho0, hb0, hn0⟩ := app_nil w1.drew w.heap.size _ 4 (Ints.vals s.vars) (KAt.rowV HK1.out.drew) (by omega) HB1.out.drew.size
  have hbq0 : Below w1.heap.size w1 wa0 := (Below.refl _ w1).drew.trans hb0
  have hkq0 := (hbq0.block _ l1).trans hk1
  have t0 := Ch.blk_free hkq0 2
  have z0 : wa0.cell? ⟨w0.heap.size, 2, none⟩ = some (.slice none 0 0) := Ch.blk_cell hkq0 2
  have lq0 := Ch.blk_lt hkq0
  obtain ⟨w2, e2⟩ : ∃ w2, w2 = wa0.setCell ⟨w0.heap.size, 2, none⟩ (.slice x0 4 y0) := ⟨_, rfl⟩
  have hk2 : w2.heap[w0.heap.size]? = some (.cells #[.int .i64 s.status, .int .i64 s.now, .slice x0 4 y0, .slice none 0 0, .slice none 0 0] 26) := by rw [e2]; have := Ch.blk_set (i := 2) hkq0 (.slice x0 4 y0); simpa using this
  have hbs0 : Below w0.heap.size wa0 w2 := by rw [e2]; exact (Below.refl _ _).setCell (p := ⟨w0.heap.size, 2, none⟩) (Nat.le_refl _) _
  have sz0 : w2.heap.size = wa0.heap.size := by rw [e2]; simp [World.setCell]
  have oth0 : ∀ b, b ≠ w0.heap.size → w2.heap[b]? = wa0.heap[b]? := fun b hb => by rw [e2]; exact Below.heap_setCell _ _ _ _ hb
  have HQ0 := hid (HK1.out.below hbq0)
  have HK2 : Hid (KAt wg w2 R (.slice (some ⟨gu, 0, none⟩) ss.length cu) ss s) := hid (by rw [e2]; exact KAt.other HQ0.out (by omega) (by omega) _)
  have HB2 : Hid (Below w.heap.size w w2) := hid (by rw [e2]; exact (HB1.out.trans (hbq0.mono HB1.out.size)).setCell (p := ⟨w0.heap.size, 2, none⟩) hw0 _)
  have K2 : Hid (w2.heap[w.heap.size]? = some (.cells #[.int .i64 0, .int .i64 0, .int .i64 0, .slice none 0 0, .slice none 0 0, .slice none 0 0] 28)) := hid ((oth0 _ (by omega)).trans ((hbq0.block _ (Ch.blk_lt K1.out)).trans K1.out))
  have O02 : Hid (w2.ownsRow w.heap.size 2 1 (.slice x0 4 y0) 4 (Ints.vals s.vars)) := hid (Cr.own_kept ho0 (fun b e => oth0 b (by have : b = w1.heap.size := hn0 b e; omega)))
  have N0 : Hid (∀ b, (Value.slice x0 4 y0).ownBlock = some b → b = w1.heap.size ∧ b ≠ w0.heap.size ∧ b < w2.heap.size) := hid (fun b e => ⟨hn0 b e, by have : b = w1.heap.size := hn0 b e; omega, (Cr.own_in O02.out e).2⟩)
  have SZ0 : Hid (w1.heap.size ≤ w2.heap.size) := hid (by rw [sz0]; exact hbq0.size)
  have HE2 := hid e2
  have lw2 : w0.heap.size < w2.heap.size := Ch.blk_lt hk2
  clear e2
  clear hb0 hbq0 hkq0 oth0 sz0 hbs0 HK1 HB1 K1 hn0 ho0 HQ0
  clear hk1
  have d3 : w2.cell? ⟨w0.heap.size, 3, none⟩ = some (.slice none 0 0) := Ch.blk_cell hk2 3
  have l2 := Ch.blk_lt hk2
  have hR2 : R < w2.heap.size := HK2.out.lt
  have cu2 := HK2.out.c0
  obtain ⟨x1, y1, wa1, hq1, ho1, hb1, hn1⟩ := app_nil w2.drew w.heap.size _ ss.length (Ints.vals ((List.range ss.length).map s.acts)) (KAt.rowA HK2.out.drew hl) (by omega) HB2.out.drew.size
  have hbq1 : Below w2.heap.size w2 wa1 := (Below.refl _ w2).drew.trans hb1
  have hkq1 := (hbq1.block _ l2).trans hk2
  have t1 := Ch.blk_free hkq1 3
  have z1 : wa1.cell? ⟨w0.heap.size, 3, none⟩ = some (.slice none 0 0) := Ch.blk_cell hkq1 3
  have lq1 := Ch.blk_lt hkq1
  obtain ⟨w3, e3⟩ : ∃ w3, w3 = wa1.setCell ⟨w0.heap.size, 3, none⟩ (.slice x1 ss.length y1) := ⟨_, rfl⟩
  have hk3 : w3.heap[w0.heap.size]? = some (.cells #[.int .i64 s.status, .int .i64 s.now, .slice x0 4 y0, .slice x1 ss.length y1, .slice none 0 0] 26) := by rw [e3]; have := Ch.blk_set (i := 3) hkq1 (.slice x1 ss.length y1); simpa using this
  have hbs1 : Below w0.heap.size wa1 w3 := by rw [e3]; exact (Below.refl _ _).setCell (p := ⟨w0.heap.size, 3, none⟩) (Nat.le_refl _) _
  have sz1 : w3.heap.size = wa1.heap.size := by rw [e3]; simp [World.setCell]
  have oth1 : ∀ b, b ≠ w0.heap.size → w3.heap[b]? = wa1.heap[b]? := fun b hb => by rw [e3]; exact Below.heap_setCell _ _ _ _ hb
  have HQ1 := hid (HK2.out.below hbq1)
  have HK3 : Hid (KAt wg w3 R (.slice (some ⟨gu, 0, none⟩) ss.length cu) ss s) := hid (by rw [e3]; exact KAt.other HQ1.out (by omega) (by omega) _)
  have HB3 : Hid (Below w.heap.size w w3) := hid (by rw [e3]; exact (HB2.out.trans (hbq1.mono HB2.out.size)).setCell (p := ⟨w0.heap.size, 3, none⟩) hw0 _)
  have K3 : Hid (w3.heap[w.heap.size]? = some (.cells #[.int .i64 0, .int .i64 0, .int .i64 0, .slice none 0 0, .slice none 0 0, .slice none 0 0] 28)) := hid ((oth1 _ (by omega)).trans ((hbq1.block _ (Ch.blk_lt K2.out)).trans K2.out))
  have O13 : Hid (w3.ownsRow w.heap.size 2 1 (.slice x1 ss.length y1) ss.length (Ints.vals ((List.range ss.length).map s.acts))) := hid (Cr.own_kept ho1 (fun b e => oth1 b (by have : b = w2.heap.size := hn1 b e; omega)))
  have O03 : Hid (w3.ownsRow w.heap.size 2 1 (.slice x0 4 y0) 4 (Ints.vals s.vars)) := hid (Cr.own_kept (Ints.owns_below O02.out hbq1) (fun b e => oth1 b (N0.out b e).2.1))
  have N1 : Hid (∀ b, (Value.slice x1 ss.length y1).ownBlock = some b → b = w2.heap.size ∧ b ≠ w0.heap.size ∧ b < w3.heap.size) := hid (fun b e => ⟨hn1 b e, by have : b = w2.heap.size := hn1 b e; omega, (Cr.own_in O13.out e).2⟩)
  have SZ1 : Hid (w2.heap.size ≤ w3.heap.size) := hid (by rw [sz1]; exact hbq1.size)
  have HE3 := hid e3
  have lw3 : w0.heap.size < w3.heap.size := Ch.blk_lt hk3
  clear e3
  clear hb1 hbq1 hkq1 oth1 sz1 hbs1 HK2 HB2 K2 hn1 ho1 HQ1 O02
  clear hk2
  have d4 : w3.cell? ⟨w0.heap.size, 4, none⟩ = some (.slice none 0 0) := Ch.blk_cell hk3 4
  have l3 := Ch.blk_lt hk3
  have hR3 : R < w3.heap.size := HK3.out.lt
  have cu3 := HK3.out.c0
  obtain ⟨x2, y2, wa2, hq2, ho2, hb2, hn2⟩ := app_nil w3.drew w.heap.size _ ss.length (Ints.vals ((List.range ss.length).map s.dues)) (KAt.rowD HK3.out.drew hl) (by omega) HB3.out.drew.size
  have hbq2 : Below w3.heap.size w3 wa2 := (Below.refl _ w3).drew.trans hb2
  have hkq2 := (hbq2.block _ l3).trans hk3
  have t2 := Ch.blk_free hkq2 4
  have z2 : wa2.cell? ⟨w0.heap.size, 4, none⟩ = some (.slice none 0 0) := Ch.blk_cell hkq2 4
  have lq2 := Ch.blk_lt hkq2
  obtain ⟨w4, e4⟩ : ∃ w4, w4 = wa2.setCell ⟨w0.heap.size, 4, none⟩ (.slice x2 ss.length y2) := ⟨_, rfl⟩
  have hk4 : w4.heap[w0.heap.size]? = some (.cells #[.int .i64 s.status, .int .i64 s.now, .slice x0 4 y0, .slice x1 ss.length y1, .slice x2 ss.length y2] 26) := by rw [e4]; have := Ch.blk_set (i := 4) hkq2 (.slice x2 ss.length y2); simpa using this
  have hbs2 : Below w0.heap.size wa2 w4 := by rw [e4]; exact (Below.refl _ _).setCell (p := ⟨w0.heap.size, 4, none⟩) (Nat.le_refl _) _
  have sz2 : w4.heap.size = wa2.heap.size := by rw [e4]; simp [World.setCell]
  have oth2 : ∀ b, b ≠ w0.heap.size → w4.heap[b]? = wa2.heap[b]? := fun b hb => by rw [e4]; exact Below.heap_setCell _ _ _ _ hb
  have HQ2 := hid (HK3.out.below hbq2)
  have HK4 : Hid (KAt wg w4 R (.slice (some ⟨gu, 0, none⟩) ss.length cu) ss s) := hid (by rw [e4]; exact KAt.other HQ2.out (by omega) (by omega) _)
  have HB4 : Hid (Below w.heap.size w w4) := hid (by rw [e4]; exact (HB3.out.trans (hbq2.mono HB3.out.size)).setCell (p := ⟨w0.heap.size, 4, none⟩) hw0 _)
  have K4 : Hid (w4.heap[w.heap.size]? = some (.cells #[.int .i64 0, .int .i64 0, .int .i64 0, .slice none 0 0, .slice none 0 0, .slice none 0 0] 28)) := hid ((oth2 _ (by omega)).trans ((hbq2.block _ (Ch.blk_lt K3.out)).trans K3.out))
  have O24 : Hid (w4.ownsRow w.heap.size 2 1 (.slice x2 ss.length y2) ss.length (Ints.vals ((List.range ss.length).map s.dues))) := hid (Cr.own_kept ho2 (fun b e => oth2 b (by have : b = w3.heap.size := hn2 b e; omega)))
  have O04 : Hid (w4.ownsRow w.heap.size 2 1 (.slice x0 4 y0) 4 (Ints.vals s.vars)) := hid (Cr.own_kept (Ints.owns_below O03.out hbq2) (fun b e => oth2 b (N0.out b e).2.1))
  have O14 : Hid (w4.ownsRow w.heap.size 2 1 (.slice x1 ss.length y1) ss.length (Ints.vals ((List.range ss.length).map s.acts))) := hid (Cr.own_kept (Ints.owns_below O13.out hbq2) (fun b e => oth2 b (N1.out b e).2.1))
  have N2 : Hid (∀ b, (Value.slice x2 ss.length y2).ownBlock = some b → b = w3.heap.size ∧ b ≠ w0.heap.size ∧ b < w4.heap.size) := hid (fun b e => ⟨hn2 b e, by have : b = w3.heap.size := hn2 b e; omega, (Cr.own_in O24.out e).2⟩)
  have SZ2 : Hid (w3.heap.size ≤ w4.heap.size) := hid (by rw [sz2]; exact hbq2.size)
  have HE4 := hid e4
  have lw4 : w0.heap.size < w4.heap.size := Ch.blk_lt hk4
  clear e4
  clear hb2 hbq2 hkq2 oth2 sz2 hbs2 HK3 HB3 K3 hn2 ho2 HQ2 O03 O13
  clear hk3
  have HFIN : Hid (Cr.Own3 ((((((w4.setCell ⟨w.heap.size, 0, none⟩ (.int .i64 0)).setCell ⟨w.heap.size, 1, none⟩ (.int .i64 s.status)).setCell ⟨w.heap.size, 2, none⟩ (.int .i64 s.now)).setCell ⟨w.heap.size, 3, none⟩ (.slice x0 4 y0)).setCell ⟨w.heap.size, 4, none⟩ (.slice x1 ss.length y1)).setCell ⟨w.heap.size, 5, none⟩ (.slice x2 ss.length y2)) w.heap.size (.slice x0 4 y0) (.slice x1 ss.length y1) (.slice x2 ss.length y2) (runOf ss.length s)) := hid (own6 HLEN.out O04.out O14.out O24.out (fun b e => by have := (N0.out b e).1; have := SZ0.out; omega) (fun b e => by have := (N1.out b e).1; have := SZ0.out; have := SZ1.out; omega) (fun b e => by have := (N2.out b e).1; have := SZ0.out; have := SZ1.out; have := SZ2.out; omega) (fun b e e2 => by have := (N0.out b e).1; have := (N1.out b e2).1; have := (N0.out b e).2.2; omega) (fun b e e2 => by have := (N0.out b e).1; have := (N2.out b e2).1; have := (N0.out b e).2.2; have := SZ1.out; omega) (fun b e e2 => by have := (N1.out b e).1; have := (N2.out b e2).1; have := (N1.out b e).2.2; omega) _ _ _ _ _ _)
  go_enter Tryz.func41, Tryz.ntmps41
  go_upto_region 1 with fail
  rw [← e0]
  clear e0
  go_region
  rw [← HE1.out]
  all_goals go_wp2
  all_goals go_region_law (refine step_eq _ (by rfl) _ _ 23 (by rfl) _ _ _ _ (by rfl) (by rfl) hq0 ?_)
  all_goals rw [← HE2.out]
  all_goals go_wp2
  all_goals go_region_law (refine step_eq _ (by rfl) _ _ 23 (by rfl) _ _ _ _ (by rfl) (by rfl) hq1 ?_)
  all_goals rw [← HE3.out]
  all_goals go_wp2
  all_goals go_region_law (refine step_eq _ (by rfl) _ _ 23 (by rfl) _ _ _ _ (by rfl) (by rfl) hq2 ?_)
  all_goals rw [← HE4.out]
  all_goals clear HE1 HE2 HE3 HE4 hq0 hq1 hq2 t0 t1 t2 z0 z1 z2 d2 d3 d4 c1 c2 lq0 lq1 lq2 cu2 cu3
  all_goals have d0 := Ch.blk_cell hk4 0
  all_goals have d1 := Ch.blk_cell hk4 1
  all_goals have d2 := Ch.blk_cell hk4 2
  all_goals have d3 := Ch.blk_cell hk4 3
  all_goals have d4 := Ch.blk_cell hk4 4
  all_goals simp at d0 d1 d2 d3 d4
  all_goals have f0 := Ch.blk_free K4.out 0
  all_goals have f1 := Ch.blk_free K4.out 1
  all_goals have f2 := Ch.blk_free K4.out 2
  all_goals have f3 := Ch.blk_free K4.out 3
  all_goals have f4 := Ch.blk_free K4.out 4
  all_goals have f5 := Ch.blk_free K4.out 5
  all_goals have g0 := Ch.blk_cell K4.out 0
  all_goals have g1 := Ch.blk_cell K4.out 1
  all_goals have g2 := Ch.blk_cell K4.out 2
  all_goals have g3 := Ch.blk_cell K4.out 3
  all_goals have g4 := Ch.blk_cell K4.out 4
  all_goals have g5 := Ch.blk_cell K4.out 5
  all_goals simp at g0 g1 g2 g3 g4 g5
  all_goals have lz := Ch.blk_lt K4.out
  all_goals go_wp2
  all_goals refine bodyPost_ret (results_cell_row Tryz.results41 _ _ w.heap.size 28 #[.int .i64 0, .int .i64 s.status, .int .i64 s.now, .slice x0 4 y0, .slice x1 ss.length y1, .slice x2 ss.length y2] (0, 0) _ rfl (set6 K4.out _ _ _ _ _ _) Tryz.underlying28 rfl info6) rfl ⟨_, _, _, rfl, HFIN.out, below6 HB4.out (Nat.le_refl _) _ _ _ _ _ _⟩
end Kv
end Go.Proofs.YtpgbjpfpgbjbeaaGreatDoor
/- What chapter 9 answers, told plainly. -/
namespace Go.Proofs.YtpgbjpfpgbjbeaaGreatDoor
set_option linter.unusedVariables false
namespace Kv
open Ex (inR evalCode evalVal vFault)
open St (StepD)
open Ch (RunD)
open Pf
open Kc
theorem inv_of {ss : List StepD} {r : RunD} (h : chartC ss r = 0) : Inv ss (csOf r) := by
  obtain ⟨hp, hn, hf⟩ := of_c h
  obtain ⟨_, _, hld, _, _⟩ := of_num hn
  unfold fitsP at hf
  have hpast : ∀ i, ss.length ≤ i → fD r i = 0 := fun i hi => getD_past (by omega)
  by_cases hs : r.status = 1
  · rw [if_neg (by simp [hs])] at hf
    simp only [Bool.and_eq_true, List.all_eq_true, List.mem_range] at hf
    refine ⟨fun i hi => ?_, .inl hs⟩
    rcases Nat.lt_or_ge i ss.length with hl | hl
    · have h1 := hf.2 i hl
      rw [← bad_wrong _ _ hp hl] at h1
      unfold badP rightDue at h1
      have hi' : fD r i ≠ 0 := hi
      by_cases h6 : (PJ ss i).kind = 6
      · exact .inl h6
      · by_cases h8 : (PJ ss i).kind = 8
        · exact .inr h8
        · rw [if_neg h6, if_neg h8] at h1
          simp [hi'] at h1
    · exact absurd (hpast i hl) hi
  · rw [if_pos hs] at hf
    simp only [Bool.and_eq_true] at hf
    have hz : ∀ i, fD r i = 0 := fun i => by
      rcases Nat.lt_or_ge i r.dues.length with hl | hl
      · rw [fD_eq hl]
        have := hf.2
        unfold zeros at this
        rw [List.all_eq_true] at this
        simpa using this _ (List.getElem_mem hl)
      · exact getD_past hl
    exact ⟨fun i hi => absurd (hz i) hi, .inr hz⟩
theorem ok_of {ss : List StepD} {r : RunD} (h : chartC ss r = 0) : Ok (csOf r) := by
  obtain ⟨hp, hn, hf⟩ := of_c h
  obtain ⟨hs, _⟩ := of_num hn
  obtain ⟨_, h2, h3⟩ := of_state hs
  have := Ex.inR_iff.1 h2
  exact ⟨h3, this.1, this.2⟩
def zeroR : RunD := ⟨0, 0, [], [], []⟩
/-- Start. -/
def startC (ss : List StepD) (vars : List Int) (now : Int) : Int := if pFault ss ≠ 0 then pFault ss else if vFault vars ≠ 0 then vFault vars else if inR now 0 1000000 = true then 0 else 3
def startR (ss : List StepD) (vars : List Int) (now : Int) : RunD := if startC ss vars now = 0 then runOf ss.length (go ss FU false 0 ⟨1, now, vars, fun _ => 0, fun _ => 0⟩) else zeroR
theorem s_proc {ss : List StepD} {vars : List Int} {now : Int} (h : pFault ss ≠ 0) : startC ss vars now = pFault ss ∧ startR ss vars now = zeroR := by
  have e : startC ss vars now = pFault ss := by unfold startC; rw [if_pos h]
  exact ⟨e, by unfold startR; rw [e, if_neg h]⟩
theorem s_vars {ss : List StepD} {vars : List Int} {now : Int} (h : pFault ss = 0) (h2 : vFault vars ≠ 0) : startC ss vars now = vFault vars ∧ startR ss vars now = zeroR := by
  have e : startC ss vars now = vFault vars := by unfold startC; rw [if_neg (by simp [h]), if_pos h2]
  exact ⟨e, by unfold startR; rw [e, if_neg h2]⟩
theorem s_now {ss : List StepD} {vars : List Int} {now : Int} (h : pFault ss = 0) (h2 : vFault vars = 0) (h3 : inR now 0 1000000 = false) : startC ss vars now = 3 ∧ startR ss vars now = zeroR := by
  have e : startC ss vars now = 3 := by unfold startC; rw [if_neg (by simp [h]), if_neg (by simp [h2]), if_neg (by simp [h3])]
  exact ⟨e, by unfold startR; rw [e]; rfl⟩
theorem s_ok {ss : List StepD} {vars : List Int} {now : Int} (h : pFault ss = 0) (h2 : vFault vars = 0) (h3 : inR now 0 1000000 = true) : startC ss vars now = 0 ∧ startR ss vars now = runOf ss.length (go ss FU false 0 ⟨1, now, vars, fun _ => 0, fun _ => 0⟩) := by
  have e : startC ss vars now = 0 := by unfold startC; rw [if_neg (by simp [h]), if_neg (by simp [h2]), if_pos h3]
  exact ⟨e, by unfold startR; rw [if_pos e]⟩
/-- Done. -/
def taskOn (ss : List StepD) (r : RunD) (step : Int) : Prop := 0 ≤ step ∧ step < ss.length ∧ (PJ ss step.toNat).kind = 2 ∧ fA r step.toNat = 1
instance (ss : List StepD) (r : RunD) (step : Int) : Decidable (taskOn ss r step) := by unfold taskOn; infer_instance
def doneC (ss : List StepD) (r : RunD) (step : Int) (vars : List Int) : Int := if chartC ss r ≠ 0 then chartC ss r else if vFault vars ≠ 0 then vFault vars else if taskOn ss r step then 0 else 4
def doneR (ss : List StepD) (r : RunD) (step : Int) (vars : List Int) : RunD := if doneC ss r step vars = 0 then runOf ss.length (go ss FU true step.toNat { csOf r with vars := vars }) else zeroR
theorem d_chart {ss : List StepD} {r : RunD} {step : Int} {vars : List Int} (h : chartC ss r ≠ 0) : doneC ss r step vars = chartC ss r ∧ doneR ss r step vars = zeroR := by
  have e : doneC ss r step vars = chartC ss r := by unfold doneC; rw [if_pos h]
  exact ⟨e, by unfold doneR; rw [e, if_neg h]⟩
theorem d_vars {ss : List StepD} {r : RunD} {step : Int} {vars : List Int} (h : chartC ss r = 0) (h2 : vFault vars ≠ 0) : doneC ss r step vars = vFault vars ∧ doneR ss r step vars = zeroR := by
  have e : doneC ss r step vars = vFault vars := by unfold doneC; rw [if_neg (by simp [h]), if_pos h2]
  exact ⟨e, by unfold doneR; rw [e, if_neg h2]⟩
theorem d_none {ss : List StepD} {r : RunD} {step : Int} {vars : List Int} (h : chartC ss r = 0) (h2 : vFault vars = 0) (h3 : ¬ taskOn ss r step) : doneC ss r step vars = 4 ∧ doneR ss r step vars = zeroR := by
  have e : doneC ss r step vars = 4 := by unfold doneC; rw [if_neg (by simp [h]), if_neg (by simp [h2]), if_neg h3]
  exact ⟨e, by unfold doneR; rw [e]; rfl⟩
theorem d_ok {ss : List StepD} {r : RunD} {step : Int} {vars : List Int} (h : chartC ss r = 0) (h2 : vFault vars = 0) (h3 : taskOn ss r step) : doneC ss r step vars = 0 ∧ doneR ss r step vars = runOf ss.length (go ss FU true step.toNat { csOf r with vars := vars }) := by
  have e : doneC ss r step vars = 0 := by unfold doneC; rw [if_neg (by simp [h]), if_neg (by simp [h2]), if_pos h3]
  exact ⟨e, by unfold doneR; rw [if_pos e]⟩
/-- Tick. -/
def tickK (ss : List StepD) (r : RunD) (now : Int) : Int := if chartC ss r ≠ 0 then chartC ss r else if now < r.now ∨ 1000000 < now then 3 else 0
def tickR (ss : List StepD) (r : RunD) (now : Int) : RunD := if tickK ss r now = 0 then runOf ss.length (tickC ss (csOf r) now) else zeroR
theorem t_chart {ss : List StepD} {r : RunD} {now : Int} (h : chartC ss r ≠ 0) : tickK ss r now = chartC ss r ∧ tickR ss r now = zeroR := by
  have e : tickK ss r now = chartC ss r := by unfold tickK; rw [if_pos h]
  exact ⟨e, by unfold tickR; rw [e, if_neg h]⟩
theorem t_now {ss : List StepD} {r : RunD} {now : Int} (h : chartC ss r = 0) (h2 : now < r.now ∨ 1000000 < now) : tickK ss r now = 3 ∧ tickR ss r now = zeroR := by
  have e : tickK ss r now = 3 := by unfold tickK; rw [if_neg (by simp [h]), if_pos h2]
  exact ⟨e, by unfold tickR; rw [e]; rfl⟩
theorem t_ok {ss : List StepD} {r : RunD} {now : Int} (h : chartC ss r = 0) (h2 : ¬ (now < r.now ∨ 1000000 < now)) : tickK ss r now = 0 ∧ tickR ss r now = runOf ss.length (tickC ss (csOf r) now) := by
  have e : tickK ss r now = 0 := by unfold tickK; rw [if_neg (by simp [h]), if_neg h2]
  exact ⟨e, by unfold tickR; rw [if_pos e]⟩
/-- Mail. -/
def mailC (ss : List StepD) (r : RunD) (msg : Int) : Int := if chartC ss r ≠ 0 then chartC ss r else if msg < 0 ∨ 9 < msg then 3 else if (waitF ss (csOf r) msg ss.length 0).isSome = true then 0 else 4
def mailR (ss : List StepD) (r : RunD) (msg : Int) : RunD := if mailC ss r msg = 0 then (match waitF ss (csOf r) msg ss.length 0 with | some k => runOf ss.length (go ss FU true k (csOf r)) | none => zeroR) else zeroR
theorem m_chart {ss : List StepD} {r : RunD} {msg : Int} (h : chartC ss r ≠ 0) : mailC ss r msg = chartC ss r ∧ mailR ss r msg = zeroR := by
  have e : mailC ss r msg = chartC ss r := by unfold mailC; rw [if_pos h]
  exact ⟨e, by unfold mailR; rw [e, if_neg h]⟩
theorem m_msg {ss : List StepD} {r : RunD} {msg : Int} (h : chartC ss r = 0) (h2 : msg < 0 ∨ 9 < msg) : mailC ss r msg = 3 ∧ mailR ss r msg = zeroR := by
  have e : mailC ss r msg = 3 := by unfold mailC; rw [if_neg (by simp [h]), if_pos h2]
  exact ⟨e, by unfold mailR; rw [e]; rfl⟩
theorem m_none {ss : List StepD} {r : RunD} {msg : Int} (h : chartC ss r = 0) (h2 : ¬ (msg < 0 ∨ 9 < msg)) (h3 : waitF ss (csOf r) msg ss.length 0 = none) : mailC ss r msg = 4 ∧ mailR ss r msg = zeroR := by
  have e : mailC ss r msg = 4 := by unfold mailC; rw [if_neg (by simp [h]), if_neg h2, h3]; rfl
  exact ⟨e, by unfold mailR; rw [e]; rfl⟩
theorem m_ok {ss : List StepD} {r : RunD} {msg : Int} {k : Nat} (h : chartC ss r = 0) (h2 : ¬ (msg < 0 ∨ 9 < msg)) (h3 : waitF ss (csOf r) msg ss.length 0 = some k) : mailC ss r msg = 0 ∧ mailR ss r msg = runOf ss.length (go ss FU true k (csOf r)) := by
  have e : mailC ss r msg = 0 := by unfold mailC; rw [if_neg (by simp [h]), if_neg h2, h3]; rfl
  exact ⟨e, by unfold mailR; rw [if_pos e, h3]⟩
/-! ### time, in rounds -/
theorem inv_now {ss : List StepD} {s : CS} (h : Inv ss s) (now : Int) : Inv ss { s with now := now } := ⟨h.kind, h.live⟩
theorem tick_round {ss : List StepD} {s : CS} {m k : Nat} (hp : pFault ss = 0) (hm : cntD s.now s.dues ss.length ≤ m) (hf : firstD s.now s.dues ss.length = some k) : ∃ m', m = m' + 1 ∧ tickN ss m s = tickN ss m' (endD ss s k) ∧ (endD ss s k).now = s.now ∧ cntD (endD ss s k).now (endD ss s k).dues ss.length ≤ m' := by
  obtain ⟨h1, h2⟩ := first_in hf
  obtain ⟨h3, h4⟩ := endD_cnt hp h1 h2
  cases m with
  | zero => omega
  | succ m => exact ⟨m, rfl, tick_some m hf, h3, by rw [h3]; omega⟩
end Kv
end Go.Proofs.YtpgbjpfpgbjbeaaGreatDoor
