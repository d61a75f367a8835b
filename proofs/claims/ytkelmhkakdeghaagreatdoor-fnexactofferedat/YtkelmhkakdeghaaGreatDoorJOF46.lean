/- Laid together: EmB, EmC. -/
import Derived.Test.YtkelmhkakdeghaaGreatDoorJOF45
import Derived.Test.YtkelmhkakdeghaaGreatDoorJOF19
import Derived.Test.YtkelmhkakdeghaaGreatDoorJOF15
import Derived.Test.YtkelmhkakdeghaaGreatDoorJOF13
/- The law's marks in rows of instances, in an engine, in rows of claims and in a desk that it has handed in: they are written into these rows alone. -/
namespace Go.Proofs.YtkelmhkakdeghaaGreatDoor
open Go.RowKit Go.Deep
set_option linter.unusedVariables false
namespace Ei
open Ex (hid)
open St (Amid)
open Ch (OwnC Rows3 RunD markL)
theorem turned {w w' : World} {B C g m m2 : Nat} {f : Nat → Value} {v : Value} (hr : w.rowIs g 2 (m * 1) f) (hr' : ∃ f', w'.rowIs g 2 (m * 1) f') (ha : Amid w w' g (g + 1)) (h : OwnC w B C v m2) : OwnC w' B C v m2 := by
  obtain ⟨g2, f2, rfl, b1, b2, r2⟩ := h
  by_cases e : g2 = g
  · subst e
    obtain ⟨c, hc, hs, _⟩ := hr
    obtain ⟨c2, hc2, hs2, _⟩ := r2
    have e2 : c = c2 := by rw [hc] at hc2; cases hc2; rfl
    obtain ⟨f', hf'⟩ := hr'
    have e3 : m * 1 = m2 * 1 := by rw [← hs, ← hs2, e2]
    exact ⟨g2, f', rfl, b1, b2, by rw [← e3]; exact hf'⟩
  · exact ⟨g2, f2, rfl, b1, b2, r2.of_block (ha.block g2 r2.lt (by omega))⟩
theorem rows_turned {w w' : World} {B C g m : Nat} {f : Nat → Value} {v1 v2 v3 : Value} {r : RunD} (hr : w.rowIs g 2 (m * 1) f) (hr' : ∃ f', w'.rowIs g 2 (m * 1) f') (ha : Amid w w' g (g + 1)) (h : Rows3 w B C v1 v2 v3 r) : Rows3 w' B C v1 v2 v3 r :=
  ⟨turned hr hr' ha h.vars, turned hr hr' ha h.marks, turned hr hr' ha h.dues⟩
theorem ownc_kept {w w' : World} {B C m : Nat} {v : Value} (h : OwnC w B C v m) (hb : ∀ b, B ≤ b → w'.heap[b]? = w.heap[b]?) : OwnC w' B C v m := by
  obtain ⟨g, f, rfl, b1, b2, r⟩ := h
  exact ⟨g, f, rfl, b1, b2, r.of_block (hb g b1)⟩
theorem rows_kept {w w' : World} {B C : Nat} {v1 v2 v3 : Value} {r : RunD} (h : Rows3 w B C v1 v2 v3 r) (hb : ∀ b, B ≤ b → w'.heap[b]? = w.heap[b]?) : Rows3 w' B C v1 v2 v3 r :=
  ⟨ownc_kept h.vars hb, ownc_kept h.marks hb, ownc_kept h.dues hb⟩
/-- Three numbers written into a record of the row. -/
theorem set3 {w : World} {g n j : Nat} {t : TypeId} {f : Nat → Value} (h : w.rowIs g t (n * 6) f) (x y z : Value) :
    ∃ f', (((w.setCell ⟨g, j * 6, none⟩ x).setCell ⟨g, j * 6 + 1, none⟩ y).setCell ⟨g, j * 6 + 1 + 1, none⟩ z).rowIs g t (n * 6) f' ∧ ∀ i, f' (i * 6 + 3) = f (i * 6 + 3) ∧ f' (i * 6 + 4) = f (i * 6 + 4) ∧ f' (i * 6 + 5) = f (i * 6 + 5) := by
  refine ⟨_, ((h.set (j * 6) x).set (j * 6 + 1) y).set (j * 6 + 1 + 1) z, fun i => ?_⟩
  have n1 : ∀ a c, 3 ≤ a → a < 6 → c < 3 → ¬ i * 6 + a = j * 6 + c := by omega
  have q : ∀ a, 3 ≤ a → a < 6 → (if i * 6 + a = j * 6 + 1 + 1 then z else if i * 6 + a = j * 6 + 1 then y else if i * 6 + a = j * 6 then x else f (i * 6 + a)) = f (i * 6 + a) := fun a h1 h2 => by
    rw [if_neg (n1 a 2 h1 h2 (by omega)), if_neg (n1 a 1 h1 h2 (by omega)), if_neg (show ¬ i * 6 + a = j * 6 by omega)]
  exact ⟨q 3 (by omega) (by omega), q 4 (by omega) (by omega), q 5 (by omega) (by omega)⟩
theorem amid_set {w W : World} {B C g o : Nat} {u : Value} (h : Amid W w B C) (h1 : B ≤ g) (h2 : g < C) : Amid W (w.setCell ⟨g, o, none⟩ u) B C :=
  ⟨h.os, h.tape, h.output, by simp only [World.setCell, Array.size_modify]; exact h.size, fun b hb ho => (Below.heap_setCell _ _ _ _ (by dsimp only; omega)).trans (h.block b hb ho)⟩
set_option maxRecDepth 100000 in
set_option maxHeartbeats 8000000 in
theorem markS (B C : Nat) (v : Value) (is : List InstD) (k0 : Int) (w : World) (h0 : 1 ≤ k0) (hk0 : k0 ≤ 100000000) (hs : Small 1048576 is) (h : Own w B C v is.length is) :
    Calls Tryz.prog 67 #[v, .int .i64 k0] w fun e w' => (∃ r : Int, e = .returned (.int .i64 r) ∧ k0 ≤ r ∧ r ≤ k0 + 3145731 * (is.length : Int)) ∧ Amid w w' B C := by
  obtain ⟨g, f, rfl, hB, hC, hr, ho⟩ := h
  have hln := hs.1
  have HS := hid hs
  have HR := hid hr
  have HO : Hid (∀ j (h : j < is.length), Rows3 w (g + 1) C (f (j * 6 + 3)) (f (j * 6 + 4)) (f (j * 6 + 5)) is[j].chart) := hid ho
  clear hr ho hs
  go_enter Tryz.func67, Tryz.ntmps67
  go_wp2
  go_loopw [1, 5] (fun q i wr => ∃ (j : Nat) (k : Int) (f' : Nat → Value), i = .int .i64 j ∧ q = .int .i64 k ∧ k0 ≤ k ∧ k ≤ k0 + 3145731 * (j : Int) ∧ j ≤ is.length ∧ Hid (wr.rowIs g 93 (is.length * 6) f') ∧ Hid (∀ i, f' (i * 6 + 3) = f (i * 6 + 3) ∧ f' (i * 6 + 4) = f (i * 6 + 4) ∧ f' (i * 6 + 5) = f (i * 6 + 5)) ∧ Hid (∀ j (h : j < is.length), Rows3 wr (g + 1) C (f (j * 6 + 3)) (f (j * 6 + 4)) (f (j * 6 + 5)) is[j].chart) ∧ Hid (Amid w wr B C)) (fun _ i _ => is.length - (intOf i).toNat)
  case atStart => exact ⟨0, k0, f, rfl, rfl, by omega, by omega, Nat.zero_le _, HR, hid (fun i => ⟨rfl, rfl, rfl⟩), HO, hid (Amid.refl _ _ _)⟩
  case round =>
    obtain ⟨j, k, f', rfl, rfl, hk1, hk2, hj, HW, HF, HQ, HA⟩ := hrel
    by_cases hlt : j < is.length
    · have q1 : (j : Int) < (is.length : Int) := by omega
      have c0 : wr.cell? ⟨g, j * 6, none⟩ = some (f' (j * 6)) := HW.out.cell (by omega)
      have c1 : wr.cell? ⟨g, j * 6 + 1, none⟩ = some (f' (j * 6 + 1)) := HW.out.cell (by omega)
      have c2 : wr.cell? ⟨g, j * 6 + 1 + 1, none⟩ = some (f' (j * 6 + 1 + 1)) := HW.out.cell (by omega)
      have r0 := HW.out.frozen (j * 6)
      have r1 := HW.out.frozen (j * 6 + 1)
      have r2 := HW.out.frozen (j * 6 + 1 + 1)
      obtain ⟨fA, hRA, hFA⟩ := set3 (j := j) HW.out (.int .i64 k) (.int .i64 (k + 1)) (.int .i64 (k + 1 + 1))
      obtain ⟨wA, eA⟩ : ∃ wA, wA = ((wr.setCell ⟨g, j * 6, none⟩ (.int .i64 k)).setCell ⟨g, j * 6 + 1, none⟩ (.int .i64 (k + 1))).setCell ⟨g, j * 6 + 1 + 1, none⟩ (.int .i64 (k + 1 + 1)) := ⟨_, rfl⟩
      rw [← eA] at hRA
      have HFA : Hid (∀ i, fA (i * 6 + 3) = f (i * 6 + 3) ∧ fA (i * 6 + 4) = f (i * 6 + 4) ∧ fA (i * 6 + 5) = f (i * 6 + 5)) := hid (fun i => ⟨(hFA i).1.trans (HF.out i).1, (hFA i).2.1.trans (HF.out i).2.1, (hFA i).2.2.trans (HF.out i).2.2⟩)
      have HAA : Hid (Amid w wA B C) := hid (by rw [eA]; exact amid_set (amid_set (amid_set HA.out hB hC) hB hC) hB hC)
      have hkp : ∀ b, g + 1 ≤ b → wA.heap[b]? = wr.heap[b]? := fun b hb => by rw [eA]; repeat rw [Below.heap_setCell _ _ _ _ (by dsimp only; omega)]
      have HQA : Hid (∀ j (h : j < is.length), Rows3 wA (g + 1) C (f (j * 6 + 3)) (f (j * 6 + 4)) (f (j * 6 + 5)) is[j].chart) := hid (fun i hi => rows_kept (HQ.out i hi) hkp)
      have hrow := HQA.out j hlt
      have hsm := HS.out.at hlt
      have sv := hsm.vars
      have sm := hsm.marks
      have sd := hsm.dues
      obtain ⟨g1, f1, e1, p1, p1', rr1⟩ := hrow.vars
      have m3 : wr.cell? ⟨g, j * 6 + 1 + 2, none⟩ = some (.slice (some ⟨g1, 0, none⟩) is[j].chart.vars.length is[j].chart.vars.length) := by rw [← e1, ← (HF.out j).1]; exact HW.out.cell (by omega)
      have HM1 := hid (markL g1 is[j].chart.vars.length f1 (k + 1 + 1 + 1) wA (by omega) (by omega) (by omega) rr1)
      have HRA := hid hRA
      have HR1 := hid rr1
      have la := hRA.lt
      clear hRA hFA hkp hrow hsm e1 rr1 HF HQ HA HW
      go_wp2_with fail
      rw [← eA]
      clear eA c0 c1 c2 r0 r1 r2
      refine HM1.out.mono ?_
      rintro e w4 ⟨rfl, hv4, hg4⟩
      have HRB : Hid (w4.rowIs g 93 (is.length * 6) fA) := hid (HRA.out.of_block (hg4.block g HRA.out.lt (.inl (by omega))))
      have HQB : Hid (∀ j (h : j < is.length), Rows3 w4 (g + 1) C (f (j * 6 + 3)) (f (j * 6 + 4)) (f (j * 6 + 5)) is[j].chart) := hid (fun i hi => rows_turned HR1.out hv4 hg4 (HQA.out i hi))
      have HAB : Hid (Amid w w4 B C) := hid (HAA.out.trans (hg4.mono (by omega) (by omega)))
      obtain ⟨g2, f2, e2, p2, p2', rr2⟩ := (HQB.out j hlt).marks
      have m4 : w4.cell? ⟨g, j * 6 + 1 + 3, none⟩ = some (.slice (some ⟨g2, 0, none⟩) is[j].chart.marks.length is[j].chart.marks.length) := by rw [← e2, ← (HFA.out j).2.1]; exact HRB.out.cell (by omega)
      have HM2 := hid (markL g2 is[j].chart.marks.length f2 (k + 1 + 1 + 1 + (is[j].chart.vars.length : Int)) w4 (by omega) (by omega) (by omega) rr2)
      have HR2 := hid rr2
      have lb := HRB.out.lt
      clear hv4 hg4 HM1 HR1 HQA HAA HRA la m3 e2 rr2
      go_wp2_with fail
      refine HM2.out.mono ?_
      rintro e w5 ⟨rfl, hv5, hg5⟩
      have HRC : Hid (w5.rowIs g 93 (is.length * 6) fA) := hid (HRB.out.of_block (hg5.block g HRB.out.lt (.inl (by omega))))
      have HQC : Hid (∀ j (h : j < is.length), Rows3 w5 (g + 1) C (f (j * 6 + 3)) (f (j * 6 + 4)) (f (j * 6 + 5)) is[j].chart) := hid (fun i hi => rows_turned HR2.out hv5 hg5 (HQB.out i hi))
      have HAC : Hid (Amid w w5 B C) := hid (HAB.out.trans (hg5.mono (by omega) (by omega)))
      obtain ⟨g3, f3, e3, p3, p3', rr3⟩ := (HQC.out j hlt).dues
      have m5 : w5.cell? ⟨g, j * 6 + 1 + 4, none⟩ = some (.slice (some ⟨g3, 0, none⟩) is[j].chart.dues.length is[j].chart.dues.length) := by rw [← e3, ← (HFA.out j).2.2]; exact HRC.out.cell (by omega)
      have HM3 := hid (markL g3 is[j].chart.dues.length f3 (k + 1 + 1 + 1 + (is[j].chart.vars.length : Int) + (is[j].chart.marks.length : Int)) w5 (by omega) (by omega) (by omega) rr3)
      have HR3 := hid rr3
      have lc := HRC.out.lt
      clear hv5 hg5 HM2 HR2 HQB HAB HRB lb m4 e3 rr3
      go_wp2_with fail
      refine HM3.out.mono ?_
      rintro e w6 ⟨rfl, hv6, hg6⟩
      have HRD : Hid (w6.rowIs g 93 (is.length * 6) fA) := hid (HRC.out.of_block (hg6.block g HRC.out.lt (.inl (by omega))))
      have HQD : Hid (∀ j (h : j < is.length), Rows3 w6 (g + 1) C (f (j * 6 + 3)) (f (j * 6 + 4)) (f (j * 6 + 5)) is[j].chart) := hid (fun i hi => rows_turned HR3.out hv6 hg6 (HQC.out i hi))
      have HAD : Hid (Amid w w6 B C) := hid (HAC.out.trans (hg6.mono (by omega) (by omega)))
      clear hv6 hg6 HM3 HR3 HQC HAC HRC lc m5
      go_wp2
      exact ⟨⟨j + 1, _, fA, by simp, rfl, by omega, by push_cast; omega, by omega, HRD, HFA, HQD, HAD⟩, by simp [intOf]; omega⟩
    · obtain rfl : j = is.length := by omega
      go_wp2
      go_ret
      exact ⟨⟨_, rfl, hk1, hk2⟩, HA.out⟩
end Ei
namespace En
open Ex (hid)
open St (Amid)
set_option maxRecDepth 100000 in
set_option maxHeartbeats 4000000 in
theorem markA (B C D : Nat) (e : EngD) (vp vi : Value) (k0 : Int) (w : World) (h0 : 1 ≤ k0) (hk0 : k0 ≤ 1000000) (hs : Small 1048576 e) (hp : Ep.Own w B C vp e.procs.length e.procs) (hi : Ei.Own w C D vi e.insts.length e.insts) (hBC : B ≤ C) (hCD : C ≤ D) (hD : D ≤ w.heap.size) :
    Calls Tryz.prog 24 #[.agg #[vp, vi, .int .i64 e.now], .int .i64 k0] w fun z w' => (∃ r : Int, z = .returned (.int .i64 r) ∧ k0 ≤ r ∧ r ≤ k0 + 4194304 + 3145731 * 1048576) ∧ Amid w w' B D := by
  have hwt := hs.wt
  obtain ⟨g, f, rfl, b1, b2, b3⟩ := id hp
  obtain ⟨gi, fi, rfl, d1, d2, d3⟩ := id hi
  have hli := hs.insts.1
  obtain ⟨w0, e0⟩ : ∃ w0, w0 = w.alloc (.cells #[.slice (some ⟨g, 0, none⟩) e.procs.length e.procs.length, .slice (some ⟨gi, 0, none⟩) e.insts.length e.insts.length, .int .i64 e.now] 27) := ⟨_, rfl⟩
  have hb0 : Below w.heap.size w w0 := by rw [e0]; exact (Below.refl _ w).alloc (Nat.le_refl _) _
  have hk : w0.heap[w.heap.size]? = some (.cells #[.slice (some ⟨g, 0, none⟩) e.procs.length e.procs.length, .slice (some ⟨gi, 0, none⟩) e.insts.length e.insts.length, .int .i64 e.now] 27) := by rw [e0]; exact Ch.new_blk _ _
  have HM1 := hid (Ep.markS B C _ e.procs k0 w0 h0 (by omega) (by omega) (hp.below hb0))
  have HI := hid (hi.below hb0)
  have HS := hid hs
  have HB : Hid (Amid w w0 B D) := hid ⟨hb0.os, hb0.tape, hb0.output, hb0.size, fun b hb _ => hb0.block b hb⟩
  have hsz : w0.heap.size = w.heap.size + 1 := by rw [e0]; simp
  have HSZ := hid hsz
  clear hp hi hb0 b1 b2 b3 d1 d2 d3 hsz
  go_enter Tryz.func24, Tryz.ntmps24
  go_wp2_with fail
  rw [← e0]
  clear e0
  refine HM1.out.mono ?_
  rintro z w1 ⟨⟨r, rfl, r1, r2⟩, ham⟩
  have HI1 := hid (HI.out.kept (w' := w1) (fun b hb _ hl => ham.block b hl (.inr hb)))
  have hk1 := (ham.block _ (Ch.blk_lt hk) (.inr (by omega))).trans hk
  have HA1 := hid (HB.out.trans (ham.mono (Nat.le_refl _) hCD))
  have m1 := Ch.blk_cell hk1 1
  replace m1 : w1.cell? ⟨w.heap.size, 1, none⟩ = some (.slice (some ⟨gi, 0, none⟩) e.insts.length e.insts.length) := m1
  have l1 := Ch.blk_lt hk1
  have HM2 := hid (Ei.markS C D _ e.insts r w1 (by omega) (by omega) HS.out.insts HI1.out)
  clear ham hk hk1 HM1 HI HB
  go_wp2_with fail
  refine HM2.out.mono ?_
  rintro z w2 ⟨⟨x, rfl, x1, x2⟩, ham⟩
  have HA2 := hid (HA1.out.trans (ham.mono hBC (Nat.le_refl _)))
  clear ham m1 l1
  go_wp2
  go_ret
  exact ⟨⟨x, rfl, by omega, by omega⟩, HA2.out⟩
end En
end Go.Proofs.YtkelmhkakdeghaaGreatDoor
/- The law's marks in a desk that it has handed in: they are written into its own rows alone. -/
namespace Go.Proofs.YtkelmhkakdeghaaGreatDoor
open Go.RowKit Go.Deep
set_option linter.unusedVariables false
namespace Dk
open Ex (hid)
open St (Amid)
set_option maxRecDepth 100000 in
set_option maxHeartbeats 4000000 in
theorem markA (B D : Nat) (d : DeskD) (vp vi vc : Value) (w : World) (hs : Small 1048576 d) (ho : Own w B D vp vi vc d) (hD : D ≤ w.heap.size) :
    Calls Tryz.prog 33 #[.agg #[vp, vi, .int .i64 d.eng.now, vc], .int .i64 1] w fun z w' => (∃ r : Int, z = .returned (.int .i64 r) ∧ 1 ≤ r) ∧ Amid w w' B D := by
  obtain ⟨M, b1, b2, he, hc⟩ := ho.ex
  obtain ⟨M2, b3, b4, hp, hi⟩ := he.ex
  have hls := hs.claims
  obtain ⟨g, f, ep, _, _, _⟩ := id hp
  obtain ⟨gi, fi, ei, _, _, _⟩ := id hi
  obtain ⟨gc, fc, ec, _, _, _⟩ := id hc
  subst ep ei ec
  obtain ⟨w0, e0⟩ : ∃ w0, w0 = w.alloc (.cells #[.slice (some ⟨g, 0, none⟩) d.eng.procs.length d.eng.procs.length, .slice (some ⟨gi, 0, none⟩) d.eng.insts.length d.eng.insts.length, .int .i64 d.eng.now, .slice (some ⟨gc, 0, none⟩) d.claims.length d.claims.length] 53) := ⟨_, rfl⟩
  have hb0 : Below w.heap.size w w0 := by rw [e0]; exact (Below.refl _ w).alloc (Nat.le_refl _) _
  have hk : w0.heap[w.heap.size]? = some (.cells #[.slice (some ⟨g, 0, none⟩) d.eng.procs.length d.eng.procs.length, .slice (some ⟨gi, 0, none⟩) d.eng.insts.length d.eng.insts.length, .int .i64 d.eng.now, .slice (some ⟨gc, 0, none⟩) d.claims.length d.claims.length] 53) := by rw [e0]; exact Ch.new_blk _ _
  have hsz : w0.heap.size = w.heap.size + 1 := by rw [e0]; simp
  have HM1 := hid (En.markA B M2 M d.eng _ _ 1 w0 (by omega) (by omega) hs.eng (hp.below hb0) (hi.below hb0) b3 b4 (by omega))
  have HC := hid (hc.below hb0)
  have HB : Hid (Amid w w0 B D) := hid ⟨hb0.os, hb0.tape, hb0.output, hb0.size, fun b hb _ => hb0.block b hb⟩
  have HSZ := hid hsz
  clear hp hi hc he ho hs hb0 hsz
  go_enter Tryz.func33, Tryz.ntmps33
  go_wp2_with fail
  rw [← e0]
  clear e0
  refine HM1.out.mono ?_
  rintro z w1 ⟨⟨r, rfl, r1, r2⟩, ham⟩
  have HC1 := hid (HC.out.kept (w' := w1) (fun b hb _ hl => ham.block b hl (.inr hb)))
  have hk1 := (ham.block _ (Ch.blk_lt hk) (.inr (by omega))).trans hk
  have HA1 := hid (HB.out.trans (ham.mono (Nat.le_refl _) b2))
  have m3 := Ch.blk_cell hk1 3
  replace m3 : w1.cell? ⟨w.heap.size, 3, none⟩ = some (.slice (some ⟨gc, 0, none⟩) d.claims.length d.claims.length) := m3
  have l1 := Ch.blk_lt hk1
  have HM2 := hid (Cl.markOwn M D _ d.claims.length r w1 (by omega) (by omega) (by omega) HC1.out)
  clear ham hk hk1 HM1 HC HB
  go_wp2_with fail
  refine HM2.out.mono ?_
  rintro z w2 ⟨rfl, ham⟩
  have HA2 := hid (HA1.out.trans (ham.mono b1 (Nat.le_refl _)))
  clear ham m3 l1
  go_wp2
  go_ret
  exact ⟨⟨_, rfl, by omega⟩, HA2.out⟩
end Dk
end Go.Proofs.YtkelmhkakdeghaaGreatDoor
