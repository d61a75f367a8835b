/- Whether two desks are the same: the specification's SameDesks. -/
import Derived.Test.YtpninlangjfcfaaEsS
import Derived.Test.YtpninlangjfcfaaDkA
import Derived.Test.YtpninlangjfcfaaClQ
import Derived.Test.YtpninlangjfcfaaSdI
namespace Go.Proofs.Ytpninlangjfcfaa
open Go.RowKit Go.Deep
set_option linter.unusedVariables false
namespace Dk
open St (StepD listEq listEq_step listEq_end listEq_len stepEq bne_int old_cell)
open Nd (below_drewN)
open Ei (InstD)
open En (EngD)
open Cl (ClD clEq neqClaim cl_guard)
open Ex (hid)
open Ch (blk_cell new_blk new_at blk_lt)
set_option maxRecDepth 100000 in
set_option maxHeartbeats 8000000 in
theorem specSame (B1 B2 : Nat) (d e : DeskD) (vp vi vc up ui uc : Value) (w : World) (hl : Small 1048576 d) (hm : Small 1048576 e) (h1 : At w B1 vp vi vc d) (h2 : At w B2 up ui uc e) :
    Calls Try.prog 5 #[.agg #[vp, vi, .int .i64 d.eng.now, vc], .agg #[up, ui, .int .i64 e.eng.now, uc]] w fun z w' => z = .returned (.bool (same d e)) ∧ Below w.heap.size w w' := by
  obtain ⟨⟨a1, k1, rfl⟩, ⟨a2, k2, rfl⟩, a3, k3, rfl⟩ := h1.slices
  obtain ⟨⟨b1, l1, rfl⟩, ⟨b2, l2, rfl⟩, b3, l3, rfl⟩ := h2.slices
  obtain ⟨w0, e0⟩ : ∃ w0, w0 = (w.alloc (.cells #[.slice a1 d.eng.procs.length k1, .slice a2 d.eng.insts.length k2, .int .i64 d.eng.now, .slice a3 d.claims.length k3] 37)).alloc (.cells #[.slice b1 e.eng.procs.length l1, .slice b2 e.eng.insts.length l2, .int .i64 e.eng.now, .slice b3 e.claims.length l3] 37) := ⟨_, rfl⟩
  have HB : Hid (Below w.heap.size w w0) := hid (by rw [e0]; exact ((Below.refl _ w).alloc (Nat.le_refl _) _).alloc (by simp) _)
  have KA : Hid (w0.heap[w.heap.size]? = some (.cells #[.slice a1 d.eng.procs.length k1, .slice a2 d.eng.insts.length k2, .int .i64 d.eng.now, .slice a3 d.claims.length k3] 37)) := hid (by rw [e0, Below.heap_alloc _ _ _ (by simp), new_blk])
  have KB : Hid (w0.heap[w.heap.size + 1]? = some (.cells #[.slice b1 e.eng.procs.length l1, .slice b2 e.eng.insts.length l2, .int .i64 e.eng.now, .slice b3 e.claims.length l3] 37)) := hid (by rw [e0]; exact new_at (by simp) _)
  have H1 := hid (h1.below HB.out)
  have H2 := hid (h2.below HB.out)
  have HL := hid hl
  have HM := hid hm
  have HE := hid (En.specSame B1 B2 d.eng e.eng _ _ _ _ w0 hl.eng hm.eng H1.out.eng H2.out.eng)
  have HS := hid (show same d e = (En.same d.eng e.eng && listEq clEq d.claims e.claims) from rfl)
  generalize same d e = z at *
  clear h1 h2 hl hm
  go_enter Try.func5, Try.ntmps5
  go_wp2_with fail
  rw [← e0]
  clear e0
  generalize En.same d.eng e.eng = x at *
  refine HE.out.mono ?_
  rintro z1 w1 ⟨rfl, hb1⟩
  have HB1 := hid (HB.out.trans (hb1.mono HB.out.size))
  cases x
  · clear hb1 KA KB H1 H2 HE
    go_wp2
    go_ret
    exact ⟨by rw [HS.out]; rfl, HB1.out⟩
  have KA1 := hid ((hb1.block _ (blk_lt KA.out)).trans KA.out)
  have KB1 := hid ((hb1.block _ (blk_lt KB.out)).trans KB.out)
  have e3 : w1.cell? ⟨w.heap.size, 3, none⟩ = some (.slice a3 d.claims.length k3) := by rw [blk_cell KA1.out]; rfl
  have f3 : w1.cell? ⟨w.heap.size + 1, 3, none⟩ = some (.slice b3 e.claims.length l3) := by rw [blk_cell KB1.out]; rfl
  have lA := blk_lt KA1.out
  have lB := blk_lt KB1.out
  have HA1 := hid (H1.out.below hb1).claims
  have HA2 := hid (H2.out.below hb1).claims
  have hl3 := HL.out.claims
  have hm3 := HM.out.claims
  clear hb1 KA KB HE H1 H2 HL HM
  by_cases ec : d.claims.length = e.claims.length
  case neg =>
    have hb : ((d.claims.length : Int) != (e.claims.length : Int)) = true := bne_iff_ne.2 (fun h => ec (by omega))
    have HX := hid (listEq_len (f := clEq) ec)
    clear ec HA1 HA2 KA1 KB1
    go_wp2
    go_ret
    exact ⟨by rw [HS.out, HX.out]; rfl, HB1.out⟩
  have hb : ((d.claims.length : Int) != (e.claims.length : Int)) = false := by simp [ec]
  have HEC := hid ec
  clear ec
  go_wp2_with fail
  clear e3 f3 lA lB hb
  go_loopw [5] (fun i wr => ∃ k : Nat, i = .int .i64 k ∧ k ≤ d.claims.length ∧ Hid (listEq clEq d.claims e.claims = listEq clEq (d.claims.drop k) (e.claims.drop k)) ∧ Hid (Below w1.heap.size w1 wr)) (fun i _ => d.claims.length - (intOf i).toNat)
  case atStart => exact ⟨0, rfl, Nat.zero_le _, rfl, hid (Below.refl _ _)⟩
  case round =>
    obtain ⟨k, rfl, hk, HST, HR⟩ := hrel
    have hA := (HR.out.block _ (blk_lt KA1.out)).trans KA1.out
    have hB := (HR.out.block _ (blk_lt KB1.out)).trans KB1.out
    have e3 : wr.cell? ⟨w.heap.size, 3, none⟩ = some (.slice a3 d.claims.length k3) := by rw [blk_cell hA]; rfl
    have f3 : wr.cell? ⟨w.heap.size + 1, 3, none⟩ = some (.slice b3 e.claims.length l3) := by rw [blk_cell hB]; rfl
    have lA := blk_lt hA
    have lB := blk_lt hB
    clear hA hB
    by_cases hlt : k < d.claims.length
    · have hlt2 : k < e.claims.length := by rw [← HEC.out]; exact hlt
      obtain ⟨g1, o1, rfl, hg1, p0, p1, p2⟩ := (HA1.out.below HR.out).at hlt
      obtain ⟨g2, o2, rfl, hg2, q0, q1, q2⟩ := (HA2.out.below HR.out).at hlt2
      have r1 : (k : Int) < (d.claims.length : Int) := by omega
      have r2 : (k : Int) < (e.claims.length : Int) := by omega
      have hq := fun wx => neqClaim d.claims[k] e.claims[k] wx
      have hgd := fun (op : BinOp) (x y : Operand) (wx : World) => run_eqGuard_agg (P := Try.prog) wx op 44 x y #[.int .i64 d.claims[k].inst, .int .i64 d.claims[k].step, .int .i64 d.claims[k].user] #[.int .i64 e.claims[k].inst, .int .i64 e.claims[k].step, .int .i64 e.claims[k].user] cl_guard
      cases hE : clEq d.claims[k] e.claims[k]
      · have HF : Hid (listEq clEq d.claims e.claims = false) := hid (by rw [HST.out, listEq_step hlt hlt2, hE, Bool.false_and])
        rw [hE] at hq
        go_wp2
        go_quiet (fail)
        go_wp2
        go_ret
        exact ⟨by rw [HS.out, HF.out]; rfl, below_drewN (HB1.out.trans (HR.out.mono HB1.out.size)) nq⟩
      · have HF : Hid (listEq clEq d.claims e.claims = listEq clEq (d.claims.drop (k + 1)) (e.claims.drop (k + 1))) := hid (by rw [HST.out, listEq_step hlt hlt2, hE, Bool.true_and])
        rw [hE] at hq
        go_wp2
        go_quiet (fail)
        go_wp2
        exact ⟨⟨k + 1, by simp, by omega, HF, hid (below_drewN HR.out nq)⟩, by simp [intOf]; omega⟩
    · have HT : Hid (listEq clEq d.claims e.claims = true) := hid (by rw [HST.out]; exact listEq_end (by omega) (by have := HEC.out; omega))
      go_wp2
      go_ret
      exact ⟨by rw [HS.out, HT.out]; rfl, HB1.out.trans (HR.out.mono HB1.out.size)⟩
end Dk
end Go.Proofs.Ytpninlangjfcfaa
