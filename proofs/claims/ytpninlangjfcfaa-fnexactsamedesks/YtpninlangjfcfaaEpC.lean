/- The law's comparisons of processes; an argument that is a list of them, as it lies in memory. -/
import Derived.Test.YtpninlangjfcfaaEpA
namespace Go.Proofs.Ytpninlangjfcfaa
open Go.RowKit Go.Deep
set_option linter.unusedVariables false
namespace Ep
open Ex (hid)
open Nd (lt_of_cell)
open St (StepD)
set_option maxRecDepth 100000 in
set_option maxHeartbeats 1000000 in
theorem eqOne (B1 B2 : Nat) (x : (List StepD)) (c1 e1 : Value) (w : World) (hl : Small1 1048576 x) (h1 : St.At w B1 c1 x) (h2 : St.At w B2 e1 x) :
    Calls Try.prog 39 #[.agg #[c1], .agg #[e1]] w fun e w' => e = .returned (.bool true) ∧ Below w.heap.size w w' := by
  obtain ⟨a1, k1, rfl⟩ := h1.slice
  obtain ⟨b1, l1, rfl⟩ := h2.slice
  have hB : Below w.heap.size w ((w.alloc (.cells #[.slice a1 x.length k1] 53)).alloc (.cells #[.slice b1 x.length l1] 53)) := ((Below.refl _ w).alloc (Nat.le_refl _) _).alloc (by simp) _
  have H1 := hid (h1.below hB)
  have H2 := hid (h2.below hB)
  have HB := hid hB
  have HL := hid hl
  clear h1 h2 hB hl
  go_enter Try.func39, Try.ntmps39
  go_wp2_with fail
  refine (St.eqS B1 B2 x _ _ _ HL.out H1.out H2.out).mono ?_
  rintro e w1 ⟨rfl, hb1⟩
  have HB1 := hid (HB.out.trans (hb1.mono HB.out.size))
  clear hb1
  go_wp2
  go_ret
  exact ⟨rfl, HB1.out⟩
set_option maxRecDepth 100000 in
set_option maxHeartbeats 2000000 in
theorem eqS (B1 B2 : Nat) (ss : List (List StepD)) (v1 v2 : Value) (w : World) (hl : Small 1048576 ss) (h1 : At w B1 v1 ss) (h2 : At w B2 v2 ss) :
    Calls Try.prog 28 #[v1, v2] w fun e w' => e = .returned (.bool true) ∧ Below w.heap.size w w' := by
  obtain ⟨a1, c1, rfl⟩ := h1.slice
  obtain ⟨a2, c2, rfl⟩ := h2.slice
  have H1 := hid h1
  have H2 := hid h2
  have HL := hid hl
  have hlen := hl.1
  clear h1 h2 hl
  have hb : ((ss.length : Int) != (ss.length : Int)) = false := by simp
  go_enter Try.func28, Try.ntmps28
  go_wp2
  go_loopw [5] (fun i wr => ∃ k : Nat, i = .int .i64 k ∧ k ≤ ss.length ∧ Below w.heap.size w wr) (fun i _ => ss.length - (intOf i).toNat)
  case atStart => exact ⟨0, rfl, Nat.zero_le _, Below.refl _ _⟩
  case round =>
    obtain ⟨k, rfl, hk, hbel⟩ := hrel
    by_cases hlt : k < ss.length
    · obtain ⟨g1, o1, c1, rfl, hg1, p0, hc1⟩ := (H1.out.below hbel).at hlt
      obtain ⟨g2, o2, e1, rfl, hg2, t0, hc2⟩ := (H2.out.below hbel).at hlt
      have hsm := HL.out.at hlt
      have HE : Hid (∀ w1 : World, Below wr.heap.size wr w1 → Calls Try.prog 39 #[.agg #[c1], .agg #[e1]] w1 fun e w' => e = .returned (.bool true) ∧ Below w1.heap.size w1 w') := fun w1 h => eqOne B1 B2 ss[k] c1 e1 w1 hsm (hc1.below h) (hc2.below h)
      obtain ⟨a1, k1, rfl⟩ := hc1.slice
      obtain ⟨b1, l1, rfl⟩ := hc2.slice
      clear hc1 hc2 hsm
      have t1 : (k : Int) < (ss.length : Int) := by omega
      go_wp2
      go_region_with ((go_at_call 39; refine (HE.out _ ?_).mono ?_; exact (Below.refl wr.heap.size wr).drew; rintro e w1 ⟨rfl, hb1⟩; have hbb : Below wr.heap.size wr w1 := ((Below.refl wr.heap.size wr).drew).trans hb1))
      all_goals go_wp2
      all_goals exact ⟨⟨k + 1, by simp, by omega, hbel.trans (hbb.mono hbel.size)⟩, by simp [intOf]; omega⟩
    · go_wp2
      go_ret
      exact ⟨rfl, hbel⟩
theorem cellsR : Try.prog.cellsOf 72 = 1 := by kernel_rfl
theorem cellsSub : Try.prog.cellsOf 70 = 1 := by kernel_rfl
set_option maxRecDepth 100000 in
theorem open_one {H : Type} {enc : TypeId × Value → H} {w : World} {base : Nat} {spare : Nat → Bool} {held : Bool} {fuel : Nat} {cs : List Value} {x : DataW H × List MemPlace} (h : DataW.trod enc Try.prog w base spare held fuel 72 cs = some x) :
    ∃ (s : List StepD) (v1 : Value), cs = [v1] ∧ St.At w 0 v1 s ∧ Ok1 s := by
  obtain ⟨xs, n, rfl, _, hlen, hxl, hf⟩ := DataW.trod_struct Try.underlying72 h
  have h0 := hf 0 _ rfl
  rw [cellsR] at hlen
  match cs, hlen with
  | [a], _ =>
    match xs, hxl with
    | [x0], _ =>
      simp [cellsSub] at h0
      obtain ⟨ss, h1, h2, h3⟩ := St.open_all h0
      exact ⟨ss, a, rfl, h1, h2, h3⟩
set_option maxRecDepth 100000 in
theorem open_all {H : Type} {enc : TypeId × Value → H} {w : World} {base : Nat} {spare : Nat → Bool} {held : Bool} {fuel : Nat} {v : Value} {x : DataW H × List MemPlace} (h : DataW.trod enc Try.prog w base spare held fuel 22 [v] = some x) :
    ∃ ss, At w 0 v ss ∧ Ok ss ∧ ss.length ≤ maxLen := by
  rcases open_slice Try.underlying22 h with ⟨hcs, _⟩ | ⟨a, len, cap, m, n, D, Pl, hcs, hb, hl, hcm, hm, _, hx⟩
  · obtain rfl : v = .slice none 0 0 := by simpa using hcs
    exact ⟨[], ⟨none, 0, rfl, Nat.le_refl _, Nat.zero_le _, .inl rfl⟩, fun _ h => by (cases h), Nat.zero_le _⟩
  · obtain rfl : v = .slice (some a) len cap := by simpa using hcs
    have hlm : len ≤ m := by rw [hm]; split <;> omega
    rw [cellsR] at hx
    have each : ∀ i, i < len → ∃ q : (List StepD), (∃ v1, w.cell? (a.add (i * 1)) = some v1 ∧ St.At w 0 v1 q) ∧ Ok1 q := fun i hi => by
      obtain ⟨cs', c0, d0⟩ := hx i (by omega)
      obtain ⟨e, v1, rfl, g1, g3⟩ := open_one d0
      obtain ⟨_, _, hc⟩ := World.cells?_some c0
      have k0 := hc 0 (by omega)
      rw [Nu.add_add] at k0
      exact ⟨e, ⟨v1, k0, g1⟩, g3⟩
    haveI : Inhabited ((List StepD)) := ⟨[]⟩
    obtain ⟨F, hF⟩ := choose_lt each
    refine ⟨(List.range len).map F, ?_, ?_, by simp; omega⟩
    · refine ⟨some a, cap, by simp, by simpa using hl, hcm, ?_⟩
      rcases Nat.eq_zero_or_pos len with h0 | h0
      · exact .inl (by simp [h0])
      · right
        obtain ⟨b, off, spot⟩ := a
        obtain ⟨⟨_, hc0, _⟩, _⟩ := hF 0 h0
        have hspot : spot = none := by simpa [Addr.add] using World.cell?_spot hc0
        subst hspot
        refine ⟨b, off, rfl, Nat.zero_le _, lt_of_cell hc0, fun i hi => ?_⟩
        have hi' : i < len := by simpa using hi
        obtain ⟨⟨v1, h2⟩, _⟩ := hF i hi'
        simp only [List.getElem_map, List.getElem_range]
        simp only [Go.WideShapes.add_plain, Nat.mul_one] at h2 ⊢
        exact ⟨v1, h2⟩
    · intro q hq
      obtain ⟨i, hi, rfl⟩ := List.mem_map.1 hq
      exact (hF i (by simpa using hi)).2
end Ep
end Go.Proofs.Ytpninlangjfcfaa
