/- Whether two desks are the same: the program's sameClaims and SameDesks. -/
import Derived.Test.YtpninlangjfcfaaEsF
import Derived.Test.YtpninlangjfcfaaDkA
import Derived.Test.YtpninlangjfcfaaClQ
namespace Go.Proofs.Ytpninlangjfcfaa
open Go.RowKit Go.Deep
set_option linter.unusedVariables false
namespace Dk
open St (StepD listEq listEq_step listEq_end listEq_len stepEq bne_int old_cell)
open Nd (below_drewN)
open Ei (InstD)
open En (EngD)
open Cl (ClD clEq neqClaim cl_guard)
open Ex (hid)
open Ch (blk_cell new_blk new_at blk_lt)
def same (d e : DeskD) : Bool := En.same d.eng e.eng && listEq clEq d.claims e.claims
set_option maxRecDepth 100000 in
set_option maxHeartbeats 4000000 in
theorem implClaims (B1 B2 : Nat) (l m : List ClD) (v1 v2 : Value) (w : World) (hl : (l.length : Int) ≤ 1048576) (hm : (m.length : Int) ≤ 1048576) (h1 : Cl.At w B1 v1 l) (h2 : Cl.At w B2 v2 m) :
    Calls Try.prog 15 #[v1, v2] w fun e w' => e = .returned (.bool (listEq clEq l m)) ∧ Below w.heap.size w w' := by
  obtain ⟨a1, c1, rfl⟩ := h1.slice
  obtain ⟨a2, c2, rfl⟩ := h2.slice
  have H1 := hid h1
  have H2 := hid h2
  clear h1 h2
  by_cases he : l.length = m.length
  · have hb : ((l.length : Int) != (m.length : Int)) = false := by simp [he]
    have HE := hid he
    clear he
    go_enter Try.func15, Try.ntmps15
    go_wp2
    go_loopw [5, 6, 14] (fun _ _ i wr => ∃ k : Nat, i = .int .i64 k ∧ k ≤ l.length ∧ Hid (listEq clEq l m = listEq clEq (l.drop k) (m.drop k)) ∧ Below w.heap.size w wr) (fun _ _ i _ => l.length - (intOf i).toNat)
    case atStart => exact ⟨0, rfl, Nat.zero_le _, rfl, Below.refl _ _⟩
    case round =>
      obtain ⟨k, rfl, hk, HS, hbel⟩ := hrel
      by_cases hlt : k < l.length
      · have hlt2 : k < m.length := by rw [← HE.out]; exact hlt
        obtain ⟨g1, o1, rfl, hg1, p0, p1, p2⟩ := (H1.out.below hbel).at hlt
        obtain ⟨g2, o2, rfl, hg2, q0, q1, q2⟩ := (H2.out.below hbel).at hlt2
        have r1 : (k : Int) < (l.length : Int) := by omega
        have r2 : (k : Int) < (m.length : Int) := by omega
        have hq := fun wx => neqClaim l[k] m[k] wx
        have hgd := fun (op : BinOp) (x y : Operand) (wx : World) => run_eqGuard_agg (P := Try.prog) wx op 44 x y #[.int .i64 l[k].inst, .int .i64 l[k].step, .int .i64 l[k].user] #[.int .i64 m[k].inst, .int .i64 m[k].step, .int .i64 m[k].user] cl_guard
        obtain ⟨w1, e1⟩ : ∃ w1, w1 = wr.alloc (.cells #[.int .i64 l[k].inst, .int .i64 l[k].step, .int .i64 l[k].user] 44) := ⟨_, rfl⟩
        have hb1 : Below wr.heap.size wr w1 := by rw [e1]; exact (Below.refl _ wr).alloc (Nat.le_refl _) _
        have z0 : w1.cell? ⟨wr.heap.size, 0, none⟩ = some (.int .i64 l[k].inst) := by rw [e1, blk_cell (new_blk _ _)]; rfl
        have z1 : w1.cell? ⟨wr.heap.size, 1, none⟩ = some (.int .i64 l[k].step) := by rw [e1, blk_cell (new_blk _ _)]; rfl
        have z2 : w1.cell? ⟨wr.heap.size, 2, none⟩ = some (.int .i64 l[k].user) := by rw [e1, blk_cell (new_blk _ _)]; rfl
        have y0 := old_cell hb1 hg2 q0
        have y1 := old_cell hb1 hg2 q1
        have y2 := old_cell hb1 hg2 q2
        have HB1 := hid (hbel.trans (hb1.mono hbel.size))
        have zl : wr.heap.size < w1.heap.size := by rw [e1]; simp
        have yl : g2 < w1.heap.size := by omega
        clear hb1
        cases hE : clEq l[k] m[k]
        · have HF : Hid (listEq clEq l m = false) := hid (by rw [HS.out, listEq_step hlt hlt2, hE, Bool.false_and])
          rw [hE] at hq
          go_wp2
          rw [← e1]
          clear e1 q0 q1 q2 p0 p1 p2 hg2 hg1
          go_quiet (fail)
          go_wp2
          go_ret
          exact ⟨by rw [HF.out]; rfl, below_drewN HB1.out nq⟩
        · have HF : Hid (listEq clEq l m = listEq clEq (l.drop (k + 1)) (m.drop (k + 1))) := hid (by rw [HS.out, listEq_step hlt hlt2, hE, Bool.true_and])
          rw [hE] at hq
          go_wp2
          rw [← e1]
          clear e1 q0 q1 q2 p0 p1 p2 hg2 hg1
          go_quiet (fail)
          go_wp2
          exact ⟨⟨k + 1, by simp, by omega, HF, below_drewN HB1.out nq⟩, by simp [intOf]; omega⟩
      · have HT : Hid (listEq clEq l m = true) := hid (by rw [HS.out]; exact listEq_end (by omega) (by have := HE.out; omega))
        go_wp2
        go_ret
        exact ⟨by rw [HT.out]; rfl, hbel⟩
  · have hb : ((l.length : Int) != (m.length : Int)) = true := bne_iff_ne.2 (fun e => he (by omega))
    have HE := hid (listEq_len (f := clEq) he)
    clear he
    go_enter Try.func15, Try.ntmps15
    go_wp2
    go_ret
    exact ⟨by rw [HE.out]; rfl, Below.refl _ _⟩
set_option maxRecDepth 100000 in
set_option maxHeartbeats 4000000 in
theorem implSame (B1 B2 : Nat) (d e : DeskD) (vp vi vc up ui uc : Value) (w : World) (hl : Small 1048576 d) (hm : Small 1048576 e) (h1 : At w B1 vp vi vc d) (h2 : At w B2 up ui uc e) :
    Calls Try.prog 7 #[.agg #[vp, vi, .int .i64 d.eng.now, vc], .agg #[up, ui, .int .i64 e.eng.now, uc]] w fun z w' => z = .returned (.bool (same d e)) ∧ Below w.heap.size w w' := by
  obtain ⟨⟨a1, k1, rfl⟩, ⟨a2, k2, rfl⟩, a3, k3, rfl⟩ := h1.slices
  obtain ⟨⟨b1, l1, rfl⟩, ⟨b2, l2, rfl⟩, b3, l3, rfl⟩ := h2.slices
  obtain ⟨w0, e0⟩ : ∃ w0, w0 = (w.alloc (.cells #[.slice a1 d.eng.procs.length k1, .slice a2 d.eng.insts.length k2, .int .i64 d.eng.now, .slice a3 d.claims.length k3] 37)).alloc (.cells #[.slice b1 e.eng.procs.length l1, .slice b2 e.eng.insts.length l2, .int .i64 e.eng.now, .slice b3 e.claims.length l3] 37) := ⟨_, rfl⟩
  have HB : Hid (Below w.heap.size w w0) := hid (by rw [e0]; exact ((Below.refl _ w).alloc (Nat.le_refl _) _).alloc (by simp) _)
  have KA : Hid (w0.heap[w.heap.size]? = some (.cells #[.slice a1 d.eng.procs.length k1, .slice a2 d.eng.insts.length k2, .int .i64 d.eng.now, .slice a3 d.claims.length k3] 37)) := hid (by rw [e0, Below.heap_alloc _ _ _ (by simp), new_blk])
  have KB : Hid (w0.heap[w.heap.size + 1]? = some (.cells #[.slice b1 e.eng.procs.length l1, .slice b2 e.eng.insts.length l2, .int .i64 e.eng.now, .slice b3 e.claims.length l3] 37)) := hid (by rw [e0]; exact new_at (by simp) _)
  have H1 := hid (h1.below HB.out)
  have H2 := hid (h2.below HB.out)
  have HL := hid hl
  have HM := hid hm
  have HE := hid (En.implSame B1 B2 d.eng e.eng _ _ _ _ w0 hl.eng hm.eng H1.out.eng H2.out.eng)
  have HS := hid (show same d e = (En.same d.eng e.eng && listEq clEq d.claims e.claims) from rfl)
  generalize same d e = z at *
  clear h1 h2 hl hm
  go_enter Try.func7, Try.ntmps7
  go_wp2_with fail
  rw [← e0]
  clear e0
  generalize En.same d.eng e.eng = x at *
  refine HE.out.mono ?_
  rintro z1 w1 ⟨rfl, hb1⟩
  have HB1 := hid (HB.out.trans (hb1.mono HB.out.size))
  cases x
  · clear hb1 KA KB H1 H2 HE
    go_wp2
    go_ret
    exact ⟨by rw [HS.out]; rfl, HB1.out⟩
  have hA := (hb1.block _ (blk_lt KA.out)).trans KA.out
  have hB := (hb1.block _ (blk_lt KB.out)).trans KB.out
  have e3 : w1.cell? ⟨w.heap.size, 3, none⟩ = some (.slice a3 d.claims.length k3) := by rw [blk_cell hA]; rfl
  have f3 : w1.cell? ⟨w.heap.size + 1, 3, none⟩ = some (.slice b3 e.claims.length l3) := by rw [blk_cell hB]; rfl
  have lA := blk_lt hA
  have lB := blk_lt hB
  have HC := hid (implClaims B1 B2 d.claims e.claims _ _ w1 HL.out.claims HM.out.claims (H1.out.below hb1).claims (H2.out.below hb1).claims)
  clear hA hB hb1 KA KB HE H1 H2
  go_wp2_with fail
  refine HC.out.mono ?_
  rintro z2 w2 ⟨rfl, hb2⟩
  have HB2 := hid (HB1.out.trans (hb2.mono HB1.out.size))
  clear hb2 e3 f3 lA lB HC
  go_wp2
  go_ret
  exact ⟨by rw [HS.out]; rfl, HB2.out⟩
end Dk
end Go.Proofs.Ytpninlangjfcfaa
