/- The law's comparisons of instances; an argument that is a list of them, as it lies in memory. -/
import Derived.Test.YtpninlangjfcfaaEiA
namespace Go.Proofs.Ytpninlangjfcfaa
open Go.RowKit Go.Deep
set_option linter.unusedVariables false
namespace Ei
open Ex (hid)
open Nd (lt_of_cell)
open St (StepD)
set_option maxRecDepth 100000 in
set_option maxHeartbeats 1000000 in
theorem eqOne (B1 B2 : Nat) (x : InstD) (c1 c2 c3 e1 e2 e3 : Value) (w : World) (hl : Small1 1048576 x) (h1 : Ch.At w B1 c1 c2 c3 x.chart) (h2 : Ch.At w B2 e1 e2 e3 x.chart) :
    Calls Try.prog 40 #[.agg #[.int .i64 x.proc, .int .i64 x.chart.status, .int .i64 x.chart.now, c1, c2, c3], .agg #[.int .i64 x.proc, .int .i64 x.chart.status, .int .i64 x.chart.now, e1, e2, e3]] w fun e w' => e = .returned (.bool true) ∧ Below w.heap.size w w' := by
  obtain ⟨a1, k1, rfl⟩ := h1.vars.slice
  obtain ⟨a2, k2, rfl⟩ := h1.marks.slice
  obtain ⟨a3, k3, rfl⟩ := h1.dues.slice
  obtain ⟨b1, l1, rfl⟩ := h2.vars.slice
  obtain ⟨b2, l2, rfl⟩ := h2.marks.slice
  obtain ⟨b3, l3, rfl⟩ := h2.dues.slice
  have hB : Below w.heap.size w ((w.alloc (.cells #[.int .i64 x.proc, .int .i64 x.chart.status, .int .i64 x.chart.now, .slice a1 x.chart.vars.length k1, .slice a2 x.chart.marks.length k2, .slice a3 x.chart.dues.length k3] 58)).alloc (.cells #[.int .i64 x.proc, .int .i64 x.chart.status, .int .i64 x.chart.now, .slice b1 x.chart.vars.length l1, .slice b2 x.chart.marks.length l2, .slice b3 x.chart.dues.length l3] 58)) := ((Below.refl _ w).alloc (Nat.le_refl _) _).alloc (by simp) _
  have H1 := hid (h1.below hB)
  have H2 := hid (h2.below hB)
  have HB := hid hB
  have HL := hid hl
  clear h1 h2 hB hl
  have g0 : (x.proc != x.proc) = false := by simp
  go_enter Try.func40, Try.ntmps40
  go_wp2_with fail
  refine (Ch.eq B1 B2 x.chart _ _ _ _ _ _ _ HL.out H1.out H2.out).mono ?_
  rintro e w1 ⟨rfl, hb1⟩
  have HB1 := hid (HB.out.trans (hb1.mono HB.out.size))
  clear hb1
  go_wp2
  go_ret
  exact ⟨rfl, HB1.out⟩
set_option maxRecDepth 100000 in
set_option maxHeartbeats 2000000 in
theorem eqS (B1 B2 : Nat) (ss : List InstD) (v1 v2 : Value) (w : World) (hl : Small 1048576 ss) (h1 : At w B1 v1 ss) (h2 : At w B2 v2 ss) :
    Calls Try.prog 29 #[v1, v2] w fun e w' => e = .returned (.bool true) ∧ Below w.heap.size w w' := by
  obtain ⟨a1, c1, rfl⟩ := h1.slice
  obtain ⟨a2, c2, rfl⟩ := h2.slice
  have H1 := hid h1
  have H2 := hid h2
  have HL := hid hl
  have hlen := hl.1
  clear h1 h2 hl
  have hb : ((ss.length : Int) != (ss.length : Int)) = false := by simp
  go_enter Try.func29, Try.ntmps29
  go_wp2
  go_loopw [5] (fun i wr => ∃ k : Nat, i = .int .i64 k ∧ k ≤ ss.length ∧ Below w.heap.size w wr) (fun i _ => ss.length - (intOf i).toNat)
  case atStart => exact ⟨0, rfl, Nat.zero_le _, Below.refl _ _⟩
  case round =>
    obtain ⟨k, rfl, hk, hbel⟩ := hrel
    by_cases hlt : k < ss.length
    · obtain ⟨g1, o1, c1, c2, c3, rfl, hg1, p0, p1, p2, p3, p4, p5, hc1⟩ := (H1.out.below hbel).at hlt
      obtain ⟨g2, o2, e1, e2, e3, rfl, hg2, t0, t1, t2, t3, t4, t5, hc2⟩ := (H2.out.below hbel).at hlt
      have hsm := HL.out.at hlt
      have HE : Hid (∀ w1 : World, Below wr.heap.size wr w1 → Calls Try.prog 40 #[.agg #[.int .i64 ss[k].proc, .int .i64 ss[k].chart.status, .int .i64 ss[k].chart.now, c1, c2, c3], .agg #[.int .i64 ss[k].proc, .int .i64 ss[k].chart.status, .int .i64 ss[k].chart.now, e1, e2, e3]] w1 fun e w' => e = .returned (.bool true) ∧ Below w1.heap.size w1 w') := fun w1 h => eqOne B1 B2 ss[k] c1 c2 c3 e1 e2 e3 w1 hsm (hc1.below h) (hc2.below h)
      obtain ⟨a1, k1, rfl⟩ := hc1.vars.slice
      obtain ⟨a2, k2, rfl⟩ := hc1.marks.slice
      obtain ⟨a3, k3, rfl⟩ := hc1.dues.slice
      obtain ⟨b1, l1, rfl⟩ := hc2.vars.slice
      obtain ⟨b2, l2, rfl⟩ := hc2.marks.slice
      obtain ⟨b3, l3, rfl⟩ := hc2.dues.slice
      clear hc1 hc2 hsm
      have t1 : (k : Int) < (ss.length : Int) := by omega
      go_wp2
      go_region_with ((go_at_call 40; refine (HE.out _ ?_).mono ?_; exact (Below.refl wr.heap.size wr).drew; rintro e w1 ⟨rfl, hb1⟩; have hbb : Below wr.heap.size wr w1 := ((Below.refl wr.heap.size wr).drew).trans hb1))
      all_goals go_wp2
      all_goals exact ⟨⟨k + 1, by simp, by omega, hbel.trans (hbb.mono hbel.size)⟩, by simp [intOf]; omega⟩
    · go_wp2
      go_ret
      exact ⟨rfl, hbel⟩
theorem cellsR : Try.prog.cellsOf 76 = 6 := by kernel_rfl
theorem cellsI : Try.prog.cellsOf 2 = 1 := by kernel_rfl
theorem cellsC : Try.prog.cellsOf 74 = 5 := by kernel_rfl
set_option maxRecDepth 100000 in
theorem open_one {H : Type} {enc : TypeId × Value → H} {w : World} {base : Nat} {spare : Nat → Bool} {held : Bool} {fuel : Nat} {cs : List Value} {x : DataW H × List MemPlace} (h : DataW.trod enc Try.prog w base spare held fuel 76 cs = some x) :
    ∃ (s : InstD) (v1 v2 v3 : Value), cs = [.int .i64 s.proc, .int .i64 s.chart.status, .int .i64 s.chart.now, v1, v2, v3] ∧ Ch.At w 0 v1 v2 v3 s.chart ∧ Ok1 s := by
  obtain ⟨xs, n, rfl, _, hlen, hxl, hf⟩ := DataW.trod_struct Try.underlying76 h
  have h0 := hf 0 _ rfl
  have h1 := hf 1 _ rfl
  rw [cellsR] at hlen
  match cs, hlen with
  | [a, b, c, d, e, f], _ =>
    match xs, hxl with
    | [x0, x1], _ =>
      simp [cellsI, cellsC] at h0 h1
      obtain ⟨n0, e0⟩ := Nu.open_one h0
      obtain ⟨r, v1, v2, v3, e1, g1, g2⟩ := Ch.open_all h1
      cases e0
      cases e1
      exact ⟨⟨n0, r⟩, d, e, f, rfl, g1, g2⟩
set_option maxRecDepth 100000 in
theorem open_all {H : Type} {enc : TypeId × Value → H} {w : World} {base : Nat} {spare : Nat → Bool} {held : Bool} {fuel : Nat} {v : Value} {x : DataW H × List MemPlace} (h : DataW.trod enc Try.prog w base spare held fuel 23 [v] = some x) :
    ∃ ss, At w 0 v ss ∧ Ok ss ∧ ss.length ≤ maxLen := by
  rcases open_slice Try.underlying23 h with ⟨hcs, _⟩ | ⟨a, len, cap, m, n, D, Pl, hcs, hb, hl, hcm, hm, _, hx⟩
  · obtain rfl : v = .slice none 0 0 := by simpa using hcs
    exact ⟨[], ⟨none, 0, rfl, Nat.le_refl _, Nat.zero_le _, .inl rfl⟩, fun _ h => by (cases h), Nat.zero_le _⟩
  · obtain rfl : v = .slice (some a) len cap := by simpa using hcs
    have hlm : len ≤ m := by rw [hm]; split <;> omega
    rw [cellsR] at hx
    have each : ∀ i, i < len → ∃ q : InstD, (∃ v1 v2 v3, w.cell? (a.add (i * 6)) = some (.int .i64 q.proc) ∧ w.cell? (a.add (i * 6 + 1)) = some (.int .i64 q.chart.status) ∧ w.cell? (a.add (i * 6 + 2)) = some (.int .i64 q.chart.now) ∧ w.cell? (a.add (i * 6 + 3)) = some v1 ∧ w.cell? (a.add (i * 6 + 4)) = some v2 ∧ w.cell? (a.add (i * 6 + 5)) = some v3 ∧ Ch.At w 0 v1 v2 v3 q.chart) ∧ Ok1 q := fun i hi => by
      obtain ⟨cs', c0, d0⟩ := hx i (by omega)
      obtain ⟨e, v1, v2, v3, rfl, g1, g3⟩ := open_one d0
      obtain ⟨_, _, hc⟩ := World.cells?_some c0
      have k0 := hc 0 (by omega)
      have k1 := hc 1 (by omega)
      have k2 := hc 2 (by omega)
      have k3 := hc 3 (by omega)
      have k4 := hc 4 (by omega)
      have k5 := hc 5 (by omega)
      rw [Nu.add_add] at k0 k1 k2 k3 k4 k5
      exact ⟨e, ⟨v1, v2, v3, k0, k1, k2, k3, k4, k5, g1⟩, g3⟩
    haveI : Inhabited (InstD) := ⟨⟨0, ⟨0, 0, [], [], []⟩⟩⟩
    obtain ⟨F, hF⟩ := choose_lt each
    refine ⟨(List.range len).map F, ?_, ?_, by simp; omega⟩
    · refine ⟨some a, cap, by simp, by simpa using hl, hcm, ?_⟩
      rcases Nat.eq_zero_or_pos len with h0 | h0
      · exact .inl (by simp [h0])
      · right
        obtain ⟨b, off, spot⟩ := a
        obtain ⟨⟨_, _, _, hc0, _⟩, _⟩ := hF 0 h0
        have hspot : spot = none := by simpa [Addr.add] using World.cell?_spot hc0
        subst hspot
        refine ⟨b, off, rfl, Nat.zero_le _, lt_of_cell hc0, fun i hi => ?_⟩
        have hi' : i < len := by simpa using hi
        obtain ⟨⟨v1, v2, v3, h2⟩, _⟩ := hF i hi'
        simp only [List.getElem_map, List.getElem_range]
        simp only [Go.WideShapes.add_plain, ← Nat.add_assoc] at h2 ⊢
        exact ⟨v1, v2, v3, h2⟩
    · intro q hq
      obtain ⟨i, hi, rfl⟩ := List.mem_map.1 hq
      exact (hF i (by simpa using hi)).2
end Ei
end Go.Proofs.Ytpninlangjfcfaa
