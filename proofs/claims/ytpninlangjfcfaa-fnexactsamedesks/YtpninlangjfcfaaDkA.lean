/- A desk in memory: an engine and claims; the law's measure of it; an argument that is one. -/
import Derived.Test.YtpninlangjfcfaaEnA
import Derived.Test.YtpninlangjfcfaaClA
namespace Go.Proofs.Ytpninlangjfcfaa
open Go.RowKit Go.Deep
set_option linter.unusedVariables false
namespace Dk
open Ex (hid)
open St (StepD old_cell old_free setB)
open Ei (InstD)
open En (EngD)
open Cl (ClD)
open Ch (blk_set blk_cell blk_free new_blk new_at blk_lt)
structure DeskD where
  eng : EngD
  claims : List ClD
structure At (w : World) (B : Nat) (vp vi vc : Value) (d : DeskD) : Prop where
  eng : En.At w B vp vi d.eng
  claims : Cl.At w B vc d.claims
theorem At.kept {w w' : World} {B : Nat} {vp vi vc : Value} {d : DeskD} (h : At w B vp vi vc d) (hs : w.heap.size ≤ w'.heap.size) (hb : ∀ g, B ≤ g → g < w.heap.size → w'.heap[g]? = w.heap[g]?) : At w' B vp vi vc d := ⟨h.eng.kept hs hb, h.claims.kept hs hb⟩
theorem At.below {w w' : World} {B : Nat} {vp vi vc : Value} {d : DeskD} (h : At w B vp vi vc d) (hb : Below w.heap.size w w') : At w' B vp vi vc d := ⟨h.eng.below hb, h.claims.below hb⟩
theorem At.mono {w : World} {B B' : Nat} {vp vi vc : Value} {d : DeskD} (h : At w B vp vi vc d) (hB : B' ≤ B) : At w B' vp vi vc d := ⟨h.eng.mono hB, h.claims.mono hB⟩
theorem At.slices {w : World} {B : Nat} {vp vi vc : Value} {d : DeskD} (h : At w B vp vi vc d) : (∃ a k, vp = .slice a d.eng.procs.length k) ∧ (∃ a k, vi = .slice a d.eng.insts.length k) ∧ ∃ a k, vc = .slice a d.claims.length k := ⟨h.eng.procs.slice, h.eng.insts.slice, h.claims.slice⟩
structure Ok (d : DeskD) : Prop where
  eng : En.Ok d.eng
  nc : d.claims.length ≤ maxLen
structure Small (n : Int) (d : DeskD) : Prop where
  eng : En.Small n d.eng
  claims : (d.claims.length : Int) ≤ n
/-- All rows may be written into, between two blocks. -/
structure Own (w : World) (B C : Nat) (vp vi vc : Value) (d : DeskD) : Prop where
  ex : ∃ M, B ≤ M ∧ M ≤ C ∧ En.Own w B M vp vi d.eng ∧ Cl.Own w M C vc d.claims.length
theorem Own.kept {w w' : World} {B C : Nat} {vp vi vc : Value} {d : DeskD} (h : Own w B C vp vi vc d) (hb : ∀ g, B ≤ g → g < C → g < w.heap.size → w'.heap[g]? = w.heap[g]?) : Own w' B C vp vi vc d := by
  obtain ⟨M, b1, b2, h1, h2⟩ := h.ex
  exact ⟨M, b1, b2, h1.kept (fun g g1 g2 g3 => hb g g1 (by omega) g3), h2.kept (fun g g1 g2 g3 => hb g (by omega) g2 g3)⟩
theorem Own.below {w w' : World} {B C : Nat} {vp vi vc : Value} {d : DeskD} (h : Own w B C vp vi vc d) (hb : Below w.heap.size w w') : Own w' B C vp vi vc d := h.kept (fun g _ _ hg => hb.block g hg)
theorem Own.mono {w : World} {B B' C C' : Nat} {vp vi vc : Value} {d : DeskD} (h : Own w B C vp vi vc d) (hB : B' ≤ B) (hC : C ≤ C') : Own w B' C' vp vi vc d := by
  obtain ⟨M, b1, b2, h1, h2⟩ := h.ex
  exact ⟨M, by omega, by omega, h1.mono hB (Nat.le_refl _), h2.mono (Nat.le_refl _) hC⟩
set_option maxRecDepth 100000 in
set_option maxHeartbeats 2000000 in
theorem sz (B : Nat) (d : DeskD) (vp vi vc : Value) (n : Int) (w : World) (h0 : 0 ≤ n) (hn : n ≤ 1048576) (hk : Ok d) (ha : At w B vp vi vc d) :
    Calls Try.prog 4 #[.agg #[vp, vi, .int .i64 d.eng.now, vc], .int .i64 n] w fun z w' => (∃ x : Int, z = .returned (.int .i64 x) ∧ -1 ≤ x ∧ x ≤ n ∧ (0 ≤ x → Small n d)) ∧ Below w.heap.size w w' := by
  obtain ⟨⟨a1, k1, rfl⟩, ⟨a2, k2, rfl⟩, a3, k3, rfl⟩ := ha.slices
  obtain ⟨w0, e0⟩ : ∃ w0, w0 = w.alloc (.cells #[.slice a1 d.eng.procs.length k1, .slice a2 d.eng.insts.length k2, .int .i64 d.eng.now, .slice a3 d.claims.length k3] 28) := ⟨_, rfl⟩
  have hb0 : Below w.heap.size w w0 := by rw [e0]; exact (Below.refl _ w).alloc (Nat.le_refl _) _
  have hc : w0.heap[w.heap.size]? = some (.cells #[.slice a1 d.eng.procs.length k1, .slice a2 d.eng.insts.length k2, .int .i64 d.eng.now, .slice a3 d.claims.length k3] 28) := by rw [e0]; exact new_blk _ _
  have HB := hid hb0
  have HK := hid hk
  have HA := hid (ha.below hb0)
  have HZ := hid (En.sz B d.eng _ _ n w0 h0 hn hk.eng HA.out.eng)
  clear ha hk hb0
  go_enter Try.func4, Try.ntmps4
  go_wp2_with fail
  rw [← e0]
  clear e0
  refine HZ.out.mono ?_
  rintro z w1 ⟨⟨x1, rfl, p1, p2, p3⟩, hb1⟩
  have HB1 := hid (HB.out.trans (hb1.mono HB.out.size))
  have HA1 := hid (HA.out.below hb1)
  have hc1 := (hb1.block _ (blk_lt hc)).trans hc
  clear hb1 HB HA hc HZ
  by_cases q1 : x1 < 0
  · clear hc1
    go_wp2
    go_ret
    exact ⟨⟨-1, rfl, by omega, by omega, by omega⟩, HB1.out⟩
  have P3 := hid (p3 (by omega))
  have c3 : w1.cell? ⟨w.heap.size, 3, none⟩ = some (.slice a3 d.claims.length k3) := by rw [blk_cell hc1]; rfl
  have l1 := blk_lt hc1
  have HZ2 := hid (Cl.szS d.claims _ x1 B w1 (by omega) (by omega) HK.out.nc HA1.out.claims)
  clear p3 hc1
  go_wp2_with fail
  refine HZ2.out.mono ?_
  rintro z w2 ⟨⟨x2, rfl, s1, s2, s3⟩, rfl⟩
  clear c3 l1
  by_cases q2 : x2 < 0
  · go_wp2
    go_ret
    exact ⟨⟨-1, rfl, by omega, by omega, by omega⟩, HB1.out⟩
  have S3 := hid (s3 (by omega))
  clear s3
  go_wp2
  go_ret
  exact ⟨⟨x2, rfl, by omega, by omega, fun _ => ⟨P3.out, by have := S3.out; omega⟩⟩, HB1.out⟩
theorem cellsR : Try.prog.cellsOf 28 = 4 := by kernel_rfl
theorem cellsE : Try.prog.cellsOf 25 = 3 := by kernel_rfl
theorem cellsC : Try.prog.cellsOf 26 = 1 := by kernel_rfl
set_option maxRecDepth 100000 in
theorem open_all {H : Type} {enc : TypeId × Value → H} {w : World} {base : Nat} {spare : Nat → Bool} {held : Bool} {fuel : Nat} {cs : List Value} {x : DataW H × List MemPlace} (h : DataW.trod enc Try.prog w base spare held fuel 28 cs = some x) :
    ∃ (d : DeskD) (vp vi vc : Value), cs = [vp, vi, .int .i64 d.eng.now, vc] ∧ At w 0 vp vi vc d ∧ Ok d := by
  obtain ⟨xs, n, rfl, _, hlen, hxl, hf⟩ := DataW.trod_struct Try.underlying28 h
  have h0 := hf 0 _ rfl
  have h1 := hf 1 _ rfl
  rw [cellsR] at hlen
  match cs, hlen with
  | [a, b, c, e], _ =>
    match xs, hxl with
    | [x0, x1], _ =>
      simp [cellsE, cellsC] at h0 h1
      obtain ⟨g, vp, vi, e1, p1, p2⟩ := En.open_all h0
      obtain ⟨cl, i1, i2⟩ := Cl.open_all h1
      cases e1
      exact ⟨⟨g, cl⟩, _, _, _, rfl, ⟨p1, i1⟩, ⟨p2, i2⟩⟩
end Dk
end Go.Proofs.Ytpninlangjfcfaa
