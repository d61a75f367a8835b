/- Whether two engines are the same: the program's SameEngines. -/
import Derived.Test.YtpninlangjfcfaaEsJ
namespace Go.Proofs.Ytpninlangjfcfaa
open Go.RowKit Go.Deep
set_option linter.unusedVariables false
namespace En
open St (StepD listEq listEq_step listEq_end listEq_len stepEq bne_int)
open Nd (below_drewN)
open Ei (InstD)
open Ex (hid)
open Ch (blk_cell new_blk new_at)
set_option maxRecDepth 100000 in
set_option maxHeartbeats 8000000 in
theorem implSame (B1 B2 : Nat) (a b : EngD) (vp vi up ui : Value) (w : World) (hl : Small 1048576 a) (hm : Small 1048576 b) (h1 : At w B1 vp vi a) (h2 : At w B2 up ui b) :
    Calls Try.prog 14 #[.agg #[vp, vi, .int .i64 a.now], .agg #[up, ui, .int .i64 b.now]] w fun e w' => e = .returned (.bool (same a b)) ∧ Below w.heap.size w w' := by
  obtain ⟨a1, k1, rfl⟩ := h1.procs.slice
  obtain ⟨a2, k2, rfl⟩ := h1.insts.slice
  obtain ⟨b1, l1, rfl⟩ := h2.procs.slice
  obtain ⟨b2, l2, rfl⟩ := h2.insts.slice
  have HB : Hid (Below w.heap.size w ((w.alloc (.cells #[.slice a1 a.procs.length k1, .slice a2 a.insts.length k2, .int .i64 a.now] 34)).alloc (.cells #[.slice b1 b.procs.length l1, .slice b2 b.insts.length l2, .int .i64 b.now] 34))) := hid (((Below.refl _ w).alloc (Nat.le_refl _) _).alloc (by simp) _)
  cases hn : (a.now == b.now)
  · have HE := hid (show same a b = false by simp [same, hn])
    generalize same a b = z at *
    clear h1 h2 hl hm
    go_enter Try.func14, Try.ntmps14
    go_wp2
    go_ret
    exact ⟨by rw [HE.out]; rfl, HB.out⟩
  have HS0 := hid (show same a b = (listEq (listEq stepEq) a.procs b.procs && listEq instEq a.insts b.insts) by simp [same, hn])
  generalize same a b = z at *
  have H1 := hid (h1.below HB.out)
  have H2 := hid (h2.below HB.out)
  have HP := hid (equalFunc B1 B2 a.procs b.procs _ _ _ hl.procs hm.procs H1.out.procs H2.out.procs)
  have HI := hid (fun w2 (hb : Below ((w.alloc (.cells #[.slice a1 a.procs.length k1, .slice a2 a.insts.length k2, .int .i64 a.now] 34)).alloc (.cells #[.slice b1 b.procs.length l1, .slice b2 b.insts.length l2, .int .i64 b.now] 34)).heap.size ((w.alloc (.cells #[.slice a1 a.procs.length k1, .slice a2 a.insts.length k2, .int .i64 a.now] 34)).alloc (.cells #[.slice b1 b.procs.length l1, .slice b2 b.insts.length l2, .int .i64 b.now] 34)) w2) => sameInsts B1 B2 a.insts b.insts _ _ w2 hl.insts hm.insts (H1.out.below hb).insts (H2.out.below hb).insts)
  have KA : Hid (((w.alloc (.cells #[.slice a1 a.procs.length k1, .slice a2 a.insts.length k2, .int .i64 a.now] 34)).alloc (.cells #[.slice b1 b.procs.length l1, .slice b2 b.insts.length l2, .int .i64 b.now] 34)).heap[w.heap.size]? = some (.cells #[.slice a1 a.procs.length k1, .slice a2 a.insts.length k2, .int .i64 a.now] 34)) := hid (by rw [Below.heap_alloc _ _ _ (by simp), new_blk])
  have KB : Hid (((w.alloc (.cells #[.slice a1 a.procs.length k1, .slice a2 a.insts.length k2, .int .i64 a.now] 34)).alloc (.cells #[.slice b1 b.procs.length l1, .slice b2 b.insts.length l2, .int .i64 b.now] 34)).heap[w.heap.size + 1]? = some (.cells #[.slice b1 b.procs.length l1, .slice b2 b.insts.length l2, .int .i64 b.now] 34)) := hid (new_at (by simp) _)
  clear hl hm h1 h2 H1 H2
  go_enter Try.func14, Try.ntmps14
  go_wp2_with fail
  clear hn
  generalize (w.alloc (.cells #[.slice a1 a.procs.length k1, .slice a2 a.insts.length k2, .int .i64 a.now] 34)).alloc (.cells #[.slice b1 b.procs.length l1, .slice b2 b.insts.length l2, .int .i64 b.now] 34) = w0 at *
  generalize listEq (listEq stepEq) a.procs b.procs = x at *
  refine HP.out.mono ?_
  rintro e w1 ⟨rfl, hb1⟩
  have HB1 := hid (HB.out.trans (hb1.mono HB.out.size))
  cases x
  · clear hb1 HI HP KA KB
    go_wp2
    go_ret
    exact ⟨by rw [HS0.out]; rfl, HB1.out⟩
  have hA := (hb1.block _ (Ch.blk_lt KA.out)).trans KA.out
  have hB := (hb1.block _ (Ch.blk_lt KB.out)).trans KB.out
  have e1 : w1.cell? ⟨w.heap.size, 1, none⟩ = some (.slice a2 a.insts.length k2) := by rw [blk_cell hA]; rfl
  have f1 : w1.cell? ⟨w.heap.size + 1, 1, none⟩ = some (.slice b2 b.insts.length l2) := by rw [blk_cell hB]; rfl
  have lA := Ch.blk_lt hA
  have lB := Ch.blk_lt hB
  have HI2 := hid (HI.out w1 hb1)
  clear hA hB hb1 HI HP KA KB
  go_wp2_with fail
  refine HI2.out.mono ?_
  rintro e w2 ⟨rfl, hb2⟩
  have HB2 := hid (HB1.out.trans (hb2.mono HB1.out.size))
  clear hb2 e1 f1 lA lB HI2
  go_wp2
  go_ret
  exact ⟨by rw [HS0.out]; rfl, HB2.out⟩
end En
end Go.Proofs.Ytpninlangjfcfaa
