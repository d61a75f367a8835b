/- Laid together: DmT, WfA, DkB, WoB. -/
import Derived.Test.YtccklgopcjilcaaGreatDoorJWF46
import Derived.Test.YtccklgopcjilcaaGreatDoorJWF22
import Derived.Test.YtccklgopcjilcaaGreatDoorJWF38
import Derived.Test.YtccklgopcjilcaaGreatDoorJWF39
import Derived.Test.YtccklgopcjilcaaGreatDoorJWF17
/- DeskFault of the program. Condition: the table of rules lies as its initialiser lays it. -/
namespace Go.Proofs.YtccklgopcjilcaaGreatDoor
open Go.RowKit Go.Deep
set_option linter.unusedVariables false
set_option linter.unusedSimpArgs false
namespace Dk
open Pf (Rul)
open Ex (hid)
open Ch (blk_lt new_blk)
set_option maxRecDepth 100000 in
set_option maxHeartbeats 2000000 in
theorem implDeskFault (d : DeskD) (vp vi vc : Value) (w : World) (hs : Small 1048576 d) (ha : At w 0 vp vi vc d) (hr : Rul w) :
    Calls Tryz.prog 57 #[.agg #[vp, vi, .int .i64 d.eng.now, vc]] w fun z w' => z = .returned (.int .i64 (deskC d)) ∧ Below w.heap.size w w' := by
  obtain ⟨⟨a1, k1, rfl⟩, ⟨a2, k2, rfl⟩, a3, k3, rfl⟩ := ha.slices
  obtain ⟨w0, e0⟩ : ∃ w0, w0 = w.alloc (.cells #[.slice a1 d.eng.procs.length k1, .slice a2 d.eng.insts.length k2, .int .i64 d.eng.now, .slice a3 d.claims.length k3] 30) := ⟨_, rfl⟩
  have hb : Below w.heap.size w w0 := by rw [e0]; exact (Below.refl _ w).alloc (Nat.le_refl _) _
  have HC := hid (implClaimsOn d _ _ _ w0 hs (ha.below hb) (hr.below hb hr.lt))
  have HB := hid hb
  clear ha hb hs hr
  go_enter Tryz.func57, Tryz.ntmps57
  go_wp2_with fail
  rw [← e0]
  clear e0
  refine HC.out.mono ?_
  rintro z w1 ⟨h, hb1⟩
  have HB1 := hid (HB.out.trans (hb1.mono HB.out.size))
  clear hb1 HC HB
  rcases h with ⟨h1, rfl⟩ | ⟨h1, M, rfl, h2, h3⟩
  · clear h1
    go_wp2
    go_ret
    exact ⟨rfl, HB1.out⟩
  · have H1 := hid h1
    clear h1 h2 h3
    go_wp2
    go_ret
    exact ⟨by rw [H1.out]; rfl, HB1.out⟩
end Dk
end Go.Proofs.YtccklgopcjilcaaGreatDoor
/- WorldFault on both sides. Condition on the program's: the table of rules lies as its initialiser lays it. -/
namespace Go.Proofs.YtccklgopcjilcaaGreatDoor
open Go.RowKit Go.Deep
set_option linter.unusedVariables false
namespace Wo
open Ex (hid)
open St (StepD old_cell old_free setB)
open Ei (InstD)
open En (EngD)
open Cl (ClD)
open Dk (DeskD)
open Ch (blk_set blk_cell blk_free new_blk new_at blk_lt)
open Dk (deskC)
open Jn (jF)
open Pf (Rul)
def worldC (x : WorldD) : Int := if deskC x.desk ≠ 0 then deskC x.desk else jF x.sure x.loose
set_option maxRecDepth 100000 in
set_option maxHeartbeats 4000000 in
theorem implFault (x : WorldD) (vp vi vc vs vl : Value) (w : World) (hs : Small 1048576 x) (ha : At w 0 vp vi vc vs vl x) (hr : Rul w) :
    Calls Tryz.prog 21 #[.agg #[vp, vi, .int .i64 x.desk.eng.now, vc, vs, vl]] w fun z w' => z = .returned (.int .i64 (worldC x)) ∧ Below w.heap.size w w' := by
  obtain ⟨⟨a1, k1, rfl⟩, ⟨a2, k2, rfl⟩, ⟨a3, k3, rfl⟩, ⟨a4, k4, rfl⟩, a5, k5, rfl⟩ := ha.slices
  obtain ⟨w0, e0⟩ : ∃ w0, w0 = w.alloc (.cells #[.slice a1 x.desk.eng.procs.length k1, .slice a2 x.desk.eng.insts.length k2, .int .i64 x.desk.eng.now, .slice a3 x.desk.claims.length k3, .slice a4 x.sure.length k4, .slice a5 x.loose.length k5] 35) := ⟨_, rfl⟩
  have hb0 : Below w.heap.size w w0 := by rw [e0]; exact (Below.refl _ w).alloc (Nat.le_refl _) _
  have K0 : Hid (w0.heap[w.heap.size]? = some (.cells #[.slice a1 x.desk.eng.procs.length k1, .slice a2 x.desk.eng.insts.length k2, .int .i64 x.desk.eng.now, .slice a3 x.desk.claims.length k3, .slice a4 x.sure.length k4, .slice a5 x.loose.length k5] 35)) := hid (by rw [e0]; exact new_blk _ _)
  have HE := hid (Dk.implDeskFault x.desk _ _ _ w0 hs.desk (ha.below hb0).desk (hr.below hb0 hr.lt))
  have HB0 := hid hb0
  have HA0 := hid (ha.below hb0)
  have HN := hid hs.nat
  have HC := hid (show worldC x = if deskC x.desk ≠ 0 then deskC x.desk else jF x.sure x.loose from rfl)
  generalize worldC x = z at *
  generalize deskC x.desk = dc at *
  clear ha hs hr hb0
  go_enter Tryz.func21, Tryz.ntmps21
  go_wp2_with fail
  rw [← e0]
  clear e0
  refine HE.out.mono ?_
  rintro z1 w1 ⟨rfl, hb1⟩
  have HB1 := hid (HB0.out.trans (hb1.mono HB0.out.size))
  have K1 := hid ((hb1.block _ (blk_lt K0.out)).trans K0.out)
  have HA1 := hid (HA0.out.below hb1)
  clear hb1 HE K0 HA0
  by_cases hz : dc = 0
  case neg =>
    have HZ := hid (HC.out.trans (if_pos hz))
    have b0 : (dc != 0) = true := bne_iff_ne.2 hz
    clear hz
    go_wp2
    go_ret
    exact ⟨by rw [HZ.out]; rfl, HB1.out⟩
  have HZ := hid (HC.out.trans (if_neg (fun h => h hz)))
  subst hz
  have b0 : ((0 : Int) != 0) = false := rfl
  have c4 : w1.cell? ⟨w.heap.size, 4, none⟩ = some (.slice a4 x.sure.length k4) := by rw [blk_cell K1.out]; rfl
  have c5 : w1.cell? ⟨w.heap.size, 5, none⟩ = some (.slice a5 x.loose.length k5) := by rw [blk_cell K1.out]; rfl
  have l1 := blk_lt K1.out
  have HJ := hid (Jn.implJFault w1.heap.size x.sure x.loose _ _ w1 HN.out.1 HN.out.2 (Nat.le_refl _) HA1.out.sure HA1.out.loose)
  clear HA1 K1 HC
  go_wp2_with fail
  refine HJ.out.mono ?_
  rintro z2 w2 ⟨rfl, hb2⟩
  have HB2 := hid (HB1.out.trans (hb2.mono HB1.out.size))
  clear hb2 c4 c5 l1 HJ
  go_wp2
  go_ret
  exact ⟨by rw [HZ.out]; rfl, HB2.out⟩
set_option maxRecDepth 100000 in
set_option maxHeartbeats 4000000 in
theorem specFaultAt (B P : Nat) (x : WorldD) (vp vi vc vs vl : Value) (T : TypeId) (w : World) (hs : Small 1048576 x) (ha : At w B vp vi vc vs vl x) (hP : w.heap[P]? = some (.cells #[vp, vi, .int .i64 x.desk.eng.now, vc, vs, vl] T)) :
    Calls Tryz.prog 55 #[.pointer (some ⟨P, 0, none⟩)] w fun z w' => z = .returned (.int .i64 (worldC x)) ∧ Below w.heap.size w w' := by
  have HE := hid (Dk.specFaultW B P _ _ T x.desk _ _ _ w hs.desk ha.desk hP)
  have HK := hid hP
  have lP := blk_lt hP
  have HA := hid ha
  have HN := hid hs.nat
  have HC := hid (show worldC x = if deskC x.desk ≠ 0 then deskC x.desk else jF x.sure x.loose from rfl)
  generalize worldC x = z at *
  generalize deskC x.desk = dc at *
  clear ha hs hP
  go_enter Tryz.func55, Tryz.ntmps55
  go_wp2_with fail
  refine HE.out.mono ?_
  rintro z1 w1 ⟨rfl, hb1⟩
  have HB1 := hid hb1
  have K1 := hid ((hb1.block _ lP).trans HK.out)
  have HA1 := hid (HA.out.below hb1)
  clear hb1 HE HK HA lP
  by_cases hz : dc = 0
  case neg =>
    have HZ := hid (HC.out.trans (if_pos hz))
    have b0 : (dc != 0) = true := bne_iff_ne.2 hz
    clear hz
    go_wp2
    go_ret
    exact ⟨by rw [HZ.out]; rfl, HB1.out⟩
  have HZ := hid (HC.out.trans (if_neg (fun h => h hz)))
  subst hz
  have b0 : ((0 : Int) != 0) = false := rfl
  have l1 := blk_lt K1.out
  have HJ := hid (Jn.specFaultW w1.heap.size P _ _ _ _ T x.sure x.loose _ _ w1 HN.out.1 HN.out.2 (Nat.le_refl _) HA1.out.sure HA1.out.loose K1.out)
  clear HA1 K1 HC
  go_wp2_with fail
  refine HJ.out.mono ?_
  rintro z2 w2 ⟨rfl, hb2⟩
  have HB2 := hid (HB1.out.trans (hb2.mono HB1.out.size))
  clear hb2 l1 HJ
  go_wp2
  go_ret
  exact ⟨by rw [HZ.out]; rfl, HB2.out⟩
set_option maxRecDepth 100000 in
set_option maxHeartbeats 4000000 in
theorem specFault (B : Nat) (x : WorldD) (vp vi vc vs vl : Value) (w : World) (hs : Small 1048576 x) (ha : At w B vp vi vc vs vl x) :
    Calls Tryz.prog 19 #[.agg #[vp, vi, .int .i64 x.desk.eng.now, vc, vs, vl]] w fun z w' => z = .returned (.int .i64 (worldC x)) ∧ Below w.heap.size w w' := by
  obtain ⟨⟨a1, k1, rfl⟩, ⟨a2, k2, rfl⟩, ⟨a3, k3, rfl⟩, ⟨a4, k4, rfl⟩, a5, k5, rfl⟩ := ha.slices
  obtain ⟨w0, e0⟩ : ∃ w0, w0 = w.alloc (.cells #[.slice a1 x.desk.eng.procs.length k1, .slice a2 x.desk.eng.insts.length k2, .int .i64 x.desk.eng.now, .slice a3 x.desk.claims.length k3, .slice a4 x.sure.length k4, .slice a5 x.loose.length k5] 35) := ⟨_, rfl⟩
  have hb0 : Below w.heap.size w w0 := by rw [e0]; exact (Below.refl _ w).alloc (Nat.le_refl _) _
  have HE := hid (specFaultAt B w.heap.size x _ _ _ _ _ 35 w0 hs (ha.below hb0) (by rw [e0]; exact new_blk _ _))
  have HB0 := hid hb0
  generalize worldC x = z at *
  clear ha hs hb0
  go_enter Tryz.func19, Tryz.ntmps19
  go_wp2_with fail
  rw [← e0]
  clear e0
  refine HE.out.mono ?_
  rintro z1 w1 ⟨rfl, hb1⟩
  have HB1 := hid (HB0.out.trans (hb1.mono HB0.out.size))
  clear hb1 HE
  go_wp2
  go_ret
  exact ⟨rfl, HB1.out⟩
end Wo
end Go.Proofs.YtccklgopcjilcaaGreatDoor
/- The law's copy of a desk, and what it owns. -/
namespace Go.Proofs.YtccklgopcjilcaaGreatDoor
open Go.RowKit Go.Deep
set_option linter.unusedVariables false
namespace Dk
open Ex (hid)
open St (StepD old_cell old_free setB)
open Ei (InstD)
open En (EngD)
open Cl (ClD)
open Ch (blk_set blk_cell blk_free new_blk new_at blk_lt)
set_option maxRecDepth 100000 in
set_option maxHeartbeats 4000000 in
theorem to2 (B : Nat) (d : DeskD) (vp vi vc : Value) (w : World) (hl : Small 1048576 d) (ha : At w B vp vi vc d) :
    Calls Tryz.prog 37 #[.agg #[vp, vi, .int .i64 d.eng.now, vc]] w fun z w' => ∃ up ui uc, z = .returned (.agg #[up, ui, .int .i64 d.eng.now, uc]) ∧ At w' w.heap.size up ui uc d ∧ Own w' w.heap.size w'.heap.size up ui uc d ∧ Below w.heap.size w w' := by
  obtain ⟨⟨a1, k1, rfl⟩, ⟨a2, k2, rfl⟩, a3, k3, rfl⟩ := ha.slices
  have HL := hid hl
  have HA := hid ha
  obtain ⟨w0, e0⟩ : ∃ w0, w0 = ((w.alloc (.cells #[.slice a1 d.eng.procs.length k1, .slice a2 d.eng.insts.length k2, .int .i64 d.eng.now, .slice a3 d.claims.length k3] 50)).alloc (.cells #[.slice none 0 0, .slice none 0 0, .int .i64 0, .slice none 0 0] 30)).alloc (.cells #[.slice none 0 0, .slice none 0 0, .int .i64 0, .slice none 0 0] 30) := ⟨_, rfl⟩
  have KB : Hid (Below w.heap.size w w0) := hid (by rw [e0]; exact (((Below.refl _ w).alloc (Nat.le_refl _) _).alloc (by simp) _).alloc (by simp; omega) _)
  have K0 : Hid (w0.heap[w.heap.size]? = some (.cells #[.slice a1 d.eng.procs.length k1, .slice a2 d.eng.insts.length k2, .int .i64 d.eng.now, .slice a3 d.claims.length k3] 50)) := hid (by rw [e0, Below.heap_alloc _ _ _ (by simp; omega), Below.heap_alloc _ _ _ (by simp), new_blk])
  have K1 : Hid (w0.heap[w.heap.size + 1]? = some (.cells #[.slice none 0 0, .slice none 0 0, .int .i64 0, .slice none 0 0] 30)) := hid (by rw [e0, Below.heap_alloc _ _ _ (by simp)]; exact new_at (by simp) _)
  have K2 : Hid (w0.heap[w.heap.size + 1 + 1]? = some (.cells #[.slice none 0 0, .slice none 0 0, .int .i64 0, .slice none 0 0] 30)) := hid (by rw [e0]; exact new_at (by simp) _)
  have HT := hid (En.to2 B d.eng _ _ w0 HL.out.eng (HA.out.below KB.out).eng)
  clear ha hl
  go_enter Tryz.func37, Tryz.ntmps37
  go_wp2_with fail
  rw [← e0]
  clear e0
  refine HT.out.mono ?_
  rintro z w1 ⟨u1, u2, rfl, hu, ho, hb⟩
  obtain ⟨x1, y1, rfl⟩ := hu.procs.slice
  obtain ⟨x2, y2, rfl⟩ := hu.insts.slice
  have KB1 := hid (KB.out.trans (hb.mono KB.out.size))
  have z0 := blk_lt K2.out
  have K01 := hid ((hb.block _ (blk_lt K0.out)).trans K0.out)
  have K11 := hid ((hb.block _ (blk_lt K1.out)).trans K1.out)
  have K21 := hid ((hb.block _ (blk_lt K2.out)).trans K2.out)
  have g0 : w1.cell? ⟨w.heap.size + 1 + 1, 0, none⟩ = some (.slice none 0 0) := by rw [blk_cell K21.out]; rfl
  have g1 : w1.cell? ⟨w.heap.size + 1 + 1, 1, none⟩ = some (.slice none 0 0) := by rw [blk_cell K21.out]; rfl
  have g2 : w1.cell? ⟨w.heap.size + 1 + 1, 2, none⟩ = some (.int .i64 0) := by rw [blk_cell K21.out]; rfl
  have j0 := blk_free K21.out 0
  have j1 := blk_free K21.out 1
  have j2 := blk_free K21.out 2
  have z1 := blk_lt K21.out
  have HU := hid hu
  have HO := hid ho
  have hbz := hb.size
  clear hu ho KB K0 K1 K2 hb HT
  obtain ⟨wA, eA⟩ : ∃ wA, wA = ((w1.setCell ⟨w.heap.size + 1 + 1, 0, none⟩ (.slice x1 d.eng.procs.length y1)).setCell ⟨w.heap.size + 1 + 1, 1, none⟩ (.slice x2 d.eng.insts.length y2)).setCell ⟨w.heap.size + 1 + 1, 2, none⟩ (.int .i64 d.eng.now) := ⟨_, rfl⟩
  have KBs : Hid (Below w.heap.size w wA) := hid (by rw [eA]; exact setB (setB (setB KB1.out (by omega) _) (by omega) _) (by omega) _)
  have hst : ∀ b, b ≠ w.heap.size + 1 + 1 → wA.heap[b]? = w1.heap[b]? := fun b hb => by rw [eA]; repeat rw [Below.heap_setCell _ _ _ _ (by dsimp only; omega)]
  have K0s := hid ((hst w.heap.size (by omega)).trans K01.out)
  have K1s := hid ((hst (w.heap.size + 1) (by omega)).trans K11.out)
  have K2s : Hid (wA.heap[w.heap.size + 1 + 1]? = some (.cells #[.slice x1 d.eng.procs.length y1, .slice x2 d.eng.insts.length y2, .int .i64 d.eng.now, .slice none 0 0] 30)) := hid (by rw [eA]; have := blk_set (i := 2) (blk_set (i := 1) (blk_set (i := 0) K21.out (.slice x1 d.eng.procs.length y1)) (.slice x2 d.eng.insts.length y2)) (.int .i64 d.eng.now); simpa using this)
  have hsz : wA.heap.size = w1.heap.size := by rw [eA]; simp [World.setCell]
  have HUs := hid ((HU.out.mono (B' := w.heap.size + 1 + 1 + 1) (by omega)).kept (w' := wA) (Nat.le_of_eq hsz.symm) (fun g hg _ => hst g (by omega)))
  have HOs := hid ((HO.out.mono (B' := w.heap.size + 1 + 1 + 1) (by omega) (Nat.le_refl _)).kept (w' := wA) (fun g hg _ _ => hst g (by omega)))
  have e3 : wA.cell? ⟨w.heap.size, 3, none⟩ = some (.slice a3 d.claims.length k3) := by rw [blk_cell K0s.out]; rfl
  have z3 := blk_lt K2s.out
  have z4 := blk_lt K0s.out
  have HSZ := hid hsz
  have HE3 := hid e3
  rw [eA] at e3
  have z5 : w.heap.size < w1.heap.size := by omega
  have HT2 := hid (Cl.toS2 B d.claims _ wA (by have := HL.out.claims; omega) (HA.out.below KBs.out).claims)
  have z6 : w.heap.size + 1 + 1 < w1.heap.size := by omega
  have d3 : w1.cell? ⟨w.heap.size, 3, none⟩ = some (.slice a3 d.claims.length k3) := by rw [blk_cell K01.out]; rfl
  clear KB1 K01 K11 K21 HU HO hsz hst e3
  go_wp2_with fail
  rw [← eA]
  clear eA g0 g1 g2 j0 j1 j2 d3
  refine HT2.out.mono ?_
  rintro z w2 ⟨u3, rfl, hu, ho, hb⟩
  obtain ⟨x3, y3, rfl⟩ := hu.slice
  have KB2 := hid (KBs.out.trans (hb.mono KBs.out.size))
  have K02 := hid ((hb.block _ (blk_lt K0s.out)).trans K0s.out)
  have K12 := hid ((hb.block _ (blk_lt K1s.out)).trans K1s.out)
  have K22 := hid ((hb.block _ (blk_lt K2s.out)).trans K2s.out)
  have HU1 := hid (HUs.out.below hb)
  have HO1 := hid (HOs.out.below hb)
  have z12 : w1.heap.size ≤ w2.heap.size := by have := hb.size; have := HSZ.out; omega
  have HU2 := hid (hu.mono (show w.heap.size + 1 + 1 + 1 ≤ wA.heap.size by omega))
  have HO2 := hid (ho.mono (show w1.heap.size ≤ wA.heap.size by have := HSZ.out; omega) (Nat.le_refl _))
  have c0 : w2.cell? ⟨w.heap.size + 1 + 1, 0, none⟩ = some (.slice x1 d.eng.procs.length y1) := by rw [blk_cell K22.out]; rfl
  have c1 : w2.cell? ⟨w.heap.size + 1 + 1, 1, none⟩ = some (.slice x2 d.eng.insts.length y2) := by rw [blk_cell K22.out]; rfl
  have c2 : w2.cell? ⟨w.heap.size + 1 + 1, 2, none⟩ = some (.int .i64 d.eng.now) := by rw [blk_cell K22.out]; rfl
  have c3 : w2.cell? ⟨w.heap.size + 1 + 1, 3, none⟩ = some (.slice none 0 0) := by rw [blk_cell K22.out]; rfl
  have d0 : w2.cell? ⟨w.heap.size + 1, 0, none⟩ = some (.slice none 0 0) := by rw [blk_cell K12.out]; rfl
  have d1 : w2.cell? ⟨w.heap.size + 1, 1, none⟩ = some (.slice none 0 0) := by rw [blk_cell K12.out]; rfl
  have d2 : w2.cell? ⟨w.heap.size + 1, 2, none⟩ = some (.int .i64 0) := by rw [blk_cell K12.out]; rfl
  have d3 : w2.cell? ⟨w.heap.size + 1, 3, none⟩ = some (.slice none 0 0) := by rw [blk_cell K12.out]; rfl
  have f3 := blk_free K22.out 3
  have i0 := blk_free K12.out 0
  have i1 := blk_free K12.out 1
  have i2 := blk_free K12.out 2
  have i3 := blk_free K12.out 3
  have m0 := blk_lt K02.out
  have m1 := blk_lt K12.out
  have m2 := blk_lt K22.out
  clear hu ho hb KBs K0s K1s K2s HUs HOs HSZ K02 K12 K22 HE3
  go_wp2
  refine bodyPost_ret (v := .agg #[.slice x1 d.eng.procs.length y1, .slice x2 d.eng.insts.length y2, .int .i64 d.eng.now, .slice x3 d.claims.length y3]) (by simp [results, Tryz.results37, go_sem, d0, d1, d2, d3]) rfl ⟨_, _, _, rfl, ⟨?_, ?_⟩, ⟨⟨w1.heap.size, by omega, by simpa [World.setCell] using z12, ?_, ?_⟩⟩, ?_⟩
  · exact (HU1.out.kept (by simp [World.setCell]) (fun g hg _ => by repeat rw [Below.heap_setCell _ _ _ _ (by dsimp only; omega)])).mono (by omega)
  · exact (HU2.out.kept (by simp [World.setCell]) (fun g hg _ => by repeat rw [Below.heap_setCell _ _ _ _ (by dsimp only; omega)])).mono (by omega)
  · exact (HO1.out.kept (fun g hg _ _ => by repeat rw [Below.heap_setCell _ _ _ _ (by dsimp only; omega)])).mono (by omega) (Nat.le_refl _)
  · exact (HO2.out.kept (fun g hg _ _ => by repeat rw [Below.heap_setCell _ _ _ _ (by dsimp only; omega)])).mono (Nat.le_refl _) (by simp [World.setCell])
  · exact setB (setB (setB (setB (setB KB2.out (by omega) _) (by omega) _) (by omega) _) (by omega) _) (by omega) _
end Dk
end Go.Proofs.YtccklgopcjilcaaGreatDoor
/- The law's copy of a world. -/
namespace Go.Proofs.YtccklgopcjilcaaGreatDoor
open Go.RowKit Go.Deep
set_option linter.unusedVariables false
namespace Wo
open Ex (hid)
open St (StepD old_cell old_free setB)
open Ei (InstD)
open En (EngD)
open Cl (ClD)
open Dk (DeskD)
open Ch (blk_set blk_cell blk_free new_blk new_at blk_lt)
set_option maxRecDepth 100000 in
set_option maxHeartbeats 4000000 in
theorem to2 (B : Nat) (x : WorldD) (vp vi vc vs vl : Value) (w : World) (hl : Small 1048576 x) (ha : At w B vp vi vc vs vl x) :
    Calls Tryz.prog 20 #[.agg #[vp, vi, .int .i64 x.desk.eng.now, vc, vs, vl]] w fun z w' => ∃ up ui uc us ul, z = .returned (.agg #[up, ui, .int .i64 x.desk.eng.now, uc, us, ul]) ∧ At w' w.heap.size up ui uc us ul x ∧ Below w.heap.size w w' := by
  obtain ⟨⟨a1, k1, rfl⟩, ⟨a2, k2, rfl⟩, ⟨a3, k3, rfl⟩, ⟨a4, k4, rfl⟩, a5, k5, rfl⟩ := ha.slices
  have HL := hid hl
  have HA := hid ha
  obtain ⟨w0, e0⟩ : ∃ w0, w0 = ((w.alloc (.cells #[.slice a1 x.desk.eng.procs.length k1, .slice a2 x.desk.eng.insts.length k2, .int .i64 x.desk.eng.now, .slice a3 x.desk.claims.length k3, .slice a4 x.sure.length k4, .slice a5 x.loose.length k5] 53)).alloc (.cells #[.slice none 0 0, .slice none 0 0, .int .i64 0, .slice none 0 0, .slice none 0 0, .slice none 0 0] 35)).alloc (.cells #[.slice none 0 0, .slice none 0 0, .int .i64 0, .slice none 0 0, .slice none 0 0, .slice none 0 0] 35) := ⟨_, rfl⟩
  have KB : Hid (Below w.heap.size w w0) := hid (by rw [e0]; exact (((Below.refl _ w).alloc (Nat.le_refl _) _).alloc (by simp) _).alloc (by simp; omega) _)
  have K0 : Hid (w0.heap[w.heap.size]? = some (.cells #[.slice a1 x.desk.eng.procs.length k1, .slice a2 x.desk.eng.insts.length k2, .int .i64 x.desk.eng.now, .slice a3 x.desk.claims.length k3, .slice a4 x.sure.length k4, .slice a5 x.loose.length k5] 53)) := hid (by rw [e0, Below.heap_alloc _ _ _ (by simp; omega), Below.heap_alloc _ _ _ (by simp), new_blk])
  have K1 : Hid (w0.heap[w.heap.size + 1]? = some (.cells #[.slice none 0 0, .slice none 0 0, .int .i64 0, .slice none 0 0, .slice none 0 0, .slice none 0 0] 35)) := hid (by rw [e0, Below.heap_alloc _ _ _ (by simp)]; exact new_at (by simp) _)
  have K2 : Hid (w0.heap[w.heap.size + 1 + 1]? = some (.cells #[.slice none 0 0, .slice none 0 0, .int .i64 0, .slice none 0 0, .slice none 0 0, .slice none 0 0] 35)) := hid (by rw [e0]; exact new_at (by simp) _)
  have HT := hid (Dk.to2 B x.desk _ _ _ w0 HL.out.desk (HA.out.below KB.out).desk)
  clear ha hl
  go_enter Tryz.func20, Tryz.ntmps20
  go_wp2_with fail
  rw [← e0]
  clear e0
  refine HT.out.mono ?_
  rintro z w1 ⟨v1, v2, v3, rfl, hu, _, hb⟩
  obtain ⟨⟨u1, y1, rfl⟩, ⟨u2, y2, rfl⟩, u3, y3, rfl⟩ := hu.slices
  have KB1 := hid (KB.out.trans (hb.mono KB.out.size))
  have K01 := hid ((hb.block _ (blk_lt K0.out)).trans K0.out)
  have K11 := hid ((hb.block _ (blk_lt K1.out)).trans K1.out)
  have K21 := hid ((hb.block _ (blk_lt K2.out)).trans K2.out)
  have g0 : w1.cell? ⟨w.heap.size + 1 + 1, 0, none⟩ = some (.slice none 0 0) := by rw [blk_cell K21.out]; rfl
  have g1 : w1.cell? ⟨w.heap.size + 1 + 1, 1, none⟩ = some (.slice none 0 0) := by rw [blk_cell K21.out]; rfl
  have g2 : w1.cell? ⟨w.heap.size + 1 + 1, 2, none⟩ = some (.int .i64 0) := by rw [blk_cell K21.out]; rfl
  have g3 : w1.cell? ⟨w.heap.size + 1 + 1, 3, none⟩ = some (.slice none 0 0) := by rw [blk_cell K21.out]; rfl
  have j0 := blk_free K21.out 0
  have j1 := blk_free K21.out 1
  have j2 := blk_free K21.out 2
  have j3 := blk_free K21.out 3
  have z1 := blk_lt K21.out
  have z0 : w.heap.size + 1 + 1 < w0.heap.size := blk_lt K2.out
  have HU := hid hu
  have hbz := hb.size
  clear hu KB K0 K1 K2 hb HT
  obtain ⟨wA, eA⟩ : ∃ wA, wA = ((((w1.setCell ⟨w.heap.size + 1 + 1, 0, none⟩ (.slice u1 x.desk.eng.procs.length y1)).setCell ⟨w.heap.size + 1 + 1, 1, none⟩ (.slice u2 x.desk.eng.insts.length y2)).setCell ⟨w.heap.size + 1 + 1, 2, none⟩ (.int .i64 x.desk.eng.now)).setCell ⟨w.heap.size + 1 + 1, 3, none⟩ (.slice u3 x.desk.claims.length y3)) := ⟨_, rfl⟩
  have KBs : Hid (Below w.heap.size w wA) := hid (by rw [eA]; exact setB (setB (setB (setB KB1.out (by omega) _) (by omega) _) (by omega) _) (by omega) _)
  have hst : ∀ b, b ≠ w.heap.size + 1 + 1 → wA.heap[b]? = w1.heap[b]? := fun b hb => by rw [eA]; repeat rw [Below.heap_setCell _ _ _ _ (by dsimp only; omega)]
  have K0s := hid ((hst w.heap.size (by omega)).trans K01.out)
  have K1s := hid ((hst (w.heap.size + 1) (by omega)).trans K11.out)
  have K2s : Hid (wA.heap[w.heap.size + 1 + 1]? = some (.cells #[.slice u1 x.desk.eng.procs.length y1, .slice u2 x.desk.eng.insts.length y2, .int .i64 x.desk.eng.now, .slice u3 x.desk.claims.length y3, .slice none 0 0, .slice none 0 0] 35)) := hid (by rw [eA]; have := blk_set (i := 3) (blk_set (i := 2) (blk_set (i := 1) (blk_set (i := 0) K21.out (.slice u1 x.desk.eng.procs.length y1)) (.slice u2 x.desk.eng.insts.length y2)) (.int .i64 x.desk.eng.now)) (.slice u3 x.desk.claims.length y3); simpa using this)
  have hsz : wA.heap.size = w1.heap.size := by rw [eA]; simp [World.setCell]
  have HUs := hid ((HU.out.mono (B' := w.heap.size + 1 + 1 + 1) (by omega)).kept (w' := wA) (Nat.le_of_eq hsz.symm) (fun g hg _ => hst g (by omega)))
  have HSZ := hid hsz
  have HAs := hid (HA.out.below KBs.out)
  have HT2 := hid (Jn.toJ wA.heap.size x.sure x.loose _ _ wA HL.out.nat.1 HL.out.nat.2 (Nat.le_refl _) HAs.out.sure HAs.out.loose)
  have e4 : w1.cell? ⟨w.heap.size, 4, none⟩ = some (.slice a4 x.sure.length k4) := by rw [blk_cell K01.out]; rfl
  have e5 : w1.cell? ⟨w.heap.size, 5, none⟩ = some (.slice a5 x.loose.length k5) := by rw [blk_cell K01.out]; rfl
  have z5 : w.heap.size < w1.heap.size := by omega
  clear KB1 K01 K11 K21 HU hsz hst
  go_wp2_with fail
  rw [← eA]
  clear eA g0 g1 g2 g3 j0 j1 j2 j3 e4 e5
  refine HT2.out.mono ?_
  rintro z w2 ⟨u4, y4, u5, y5, rfl, ho, hb⟩
  have KB2 := hid (KBs.out.trans (hb.mono KBs.out.size))
  have K12 := hid ((hb.block _ (blk_lt K1s.out)).trans K1s.out)
  have K22 := hid ((hb.block _ (blk_lt K2s.out)).trans K2s.out)
  have HU1 := hid (HUs.out.below hb)
  have HJ := hid ho
  have hsz2 : w.heap.size + 1 + 1 + 1 ≤ wA.heap.size := by have := HSZ.out; omega
  have c0 : w2.cell? ⟨w.heap.size + 1 + 1, 0, none⟩ = some (.slice u1 x.desk.eng.procs.length y1) := by rw [blk_cell K22.out]; rfl
  have c1 : w2.cell? ⟨w.heap.size + 1 + 1, 1, none⟩ = some (.slice u2 x.desk.eng.insts.length y2) := by rw [blk_cell K22.out]; rfl
  have c2 : w2.cell? ⟨w.heap.size + 1 + 1, 2, none⟩ = some (.int .i64 x.desk.eng.now) := by rw [blk_cell K22.out]; rfl
  have c3 : w2.cell? ⟨w.heap.size + 1 + 1, 3, none⟩ = some (.slice u3 x.desk.claims.length y3) := by rw [blk_cell K22.out]; rfl
  have c4 : w2.cell? ⟨w.heap.size + 1 + 1, 4, none⟩ = some (.slice none 0 0) := by rw [blk_cell K22.out]; rfl
  have c5 : w2.cell? ⟨w.heap.size + 1 + 1, 5, none⟩ = some (.slice none 0 0) := by rw [blk_cell K22.out]; rfl
  have d0 : w2.cell? ⟨w.heap.size + 1, 0, none⟩ = some (.slice none 0 0) := by rw [blk_cell K12.out]; rfl
  have d1 : w2.cell? ⟨w.heap.size + 1, 1, none⟩ = some (.slice none 0 0) := by rw [blk_cell K12.out]; rfl
  have d2 : w2.cell? ⟨w.heap.size + 1, 2, none⟩ = some (.int .i64 0) := by rw [blk_cell K12.out]; rfl
  have d3 : w2.cell? ⟨w.heap.size + 1, 3, none⟩ = some (.slice none 0 0) := by rw [blk_cell K12.out]; rfl
  have d4 : w2.cell? ⟨w.heap.size + 1, 4, none⟩ = some (.slice none 0 0) := by rw [blk_cell K12.out]; rfl
  have d5 : w2.cell? ⟨w.heap.size + 1, 5, none⟩ = some (.slice none 0 0) := by rw [blk_cell K12.out]; rfl
  have f4 := blk_free K22.out 4
  have f5 := blk_free K22.out 5
  have i0 := blk_free K12.out 0
  have i1 := blk_free K12.out 1
  have i2 := blk_free K12.out 2
  have i3 := blk_free K12.out 3
  have i4 := blk_free K12.out 4
  have i5 := blk_free K12.out 5
  have m1 := blk_lt K12.out
  have m2 := blk_lt K22.out
  clear ho hb KBs K0s K1s K2s HUs HSZ K12 K22 HAs HT2
  go_wp2
  refine bodyPost_ret (v := .agg #[.slice u1 x.desk.eng.procs.length y1, .slice u2 x.desk.eng.insts.length y2, .int .i64 x.desk.eng.now, .slice u3 x.desk.claims.length y3, .slice u4 x.sure.length y4, .slice u5 x.loose.length y5]) (by simp [results, Tryz.results20, go_sem, d0, d1, d2, d3, d4, d5]) rfl ⟨_, _, _, _, _, rfl, ⟨?_, ?_, ?_⟩, ?_⟩
  · exact (HU1.out.kept (by simp [World.setCell]) (fun g hg _ => by repeat rw [Below.heap_setCell _ _ _ _ (by dsimp only; omega)])).mono (by omega)
  · exact ((((((((HJ.out.set (by omega)).set (by omega)).set (by omega)).set (by omega)).set (by omega)).set (by omega)).set (by omega)).set (by omega)).o1.at
  · exact ((((((((HJ.out.set (by omega)).set (by omega)).set (by omega)).set (by omega)).set (by omega)).set (by omega)).set (by omega)).set (by omega)).o2.at
  · exact (setB (setB (setB (setB (setB (setB (setB (setB KB2.out (by omega) _) (by omega) _) (by omega) _) (by omega) _) (by omega) _) (by omega) _) (by omega) _) (by omega) _)
end Wo
end Go.Proofs.YtccklgopcjilcaaGreatDoor
