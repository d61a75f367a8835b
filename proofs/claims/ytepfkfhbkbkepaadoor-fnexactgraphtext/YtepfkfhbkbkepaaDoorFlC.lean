/- The law's comparisons of records (Flow); an argument that is a list of them, as it lies in memory. -/
import Derived.Test.YtepfkfhbkbkepaaDoorFlA
namespace Go.Proofs.YtepfkfhbkbkepaaDoor
open Go.RowKit Go.Deep
set_option linter.unusedVariables false
namespace Fl
open Ex (hid)
open Nd (NodeD cellsI64 lt_of_cell)
open Rc
set_option maxRecDepth 100000 in
set_option maxHeartbeats 1000000 in
theorem eqOne (B1 B2 : Nat) (x : FlowD) (c1 c2 : Value) (w : World) (hl : Small1 1048576 x) (h1 : Nd.At w B1 c1 x.cond) (h2 : Nd.At w B2 c2 x.cond) :
    Calls Tryd.prog 39 #[.agg #[.int .i64 x.src, .int .i64 x.dst, c1], .agg #[.int .i64 x.src, .int .i64 x.dst, c2]] w fun e w' => e = .returned (.bool true) ∧ Below w.heap.size w w' := by
  obtain ⟨a1, k1, rfl⟩ := h1.slice
  obtain ⟨a2, k2, rfl⟩ := h2.slice
  have hs1 := (show (x.cond.length : Int) ≤ 1048576 from hl)
  have hB : Below w.heap.size w ((w.alloc (.cells #[.int .i64 x.src, .int .i64 x.dst, .slice a1 x.cond.length k1] 50)).alloc (.cells #[.int .i64 x.src, .int .i64 x.dst, .slice a2 x.cond.length k2] 50)) := ((Below.refl _ w).alloc (Nat.le_refl _) _).alloc (by simp) _
  have H1 := hid (h1.below hB)
  have H2 := hid (h2.below hB)
  have HB := hid hB
  clear h1 h2 hB hl
  have g0 : (x.src != x.src) = false := by simp
  have g1 : (x.dst != x.dst) = false := by simp
  go_enter Tryd.func39, Tryd.ntmps39
  go_wp2_with fail
  refine (Nd.eqS B1 B2 x.cond _ _ _ (by omega) H1.out H2.out).mono ?_
  rintro e w1 ⟨rfl, hb1⟩
  have HB1 := hid (HB.out.trans (hb1.mono HB.out.size))
  clear hb1
  go_wp2
  go_ret
  exact ⟨rfl, HB1.out⟩
set_option maxRecDepth 100000 in
set_option maxHeartbeats 2000000 in
theorem eqS (B1 B2 : Nat) (ss : List FlowD) (v1 v2 : Value) (w : World) (hl : Small 1048576 ss) (h1 : At w B1 v1 ss) (h2 : At w B2 v2 ss) :
    Calls Tryd.prog 24 #[v1, v2] w fun e w' => e = .returned (.bool true) ∧ Below w.heap.size w w' := by
  obtain ⟨a1, c1, rfl⟩ := h1.slice
  obtain ⟨a2, c2, rfl⟩ := h2.slice
  have H1 := hid h1
  have H2 := hid h2
  have HL := hid hl
  have hlen := hl.1
  clear h1 h2 hl
  have hb : ((ss.length : Int) != (ss.length : Int)) = false := by simp
  go_enter Tryd.func24, Tryd.ntmps24
  go_wp2
  go_loopw [5] (fun i wr => ∃ k : Nat, i = .int .i64 k ∧ k ≤ ss.length ∧ Below w.heap.size w wr) (fun i _ => ss.length - (intOf i).toNat)
  case atStart => exact ⟨0, rfl, Nat.zero_le _, Below.refl _ _⟩
  case round =>
    obtain ⟨k, rfl, hk, hbel⟩ := hrel
    by_cases hlt : k < ss.length
    · obtain ⟨g1, o1, c1', rfl, hg1, p0, p1, px, hc1⟩ := (H1.out.below hbel).at hlt
      obtain ⟨g2, o2, c2', rfl, hg2, u0, u1, ux, hc2⟩ := (H2.out.below hbel).at hlt
      have hsm := HL.out.at hlt
      have HE : Hid (∀ w1 : World, Below wr.heap.size wr w1 → Calls Tryd.prog 39 #[.agg #[.int .i64 ss[k].src, .int .i64 ss[k].dst, c1'], .agg #[.int .i64 ss[k].src, .int .i64 ss[k].dst, c2']] w1 fun e w' => e = .returned (.bool true) ∧ Below w1.heap.size w1 w') := fun w1 h => eqOne B1 B2 ss[k] c1' c2' w1 hsm (hc1.below h) (hc2.below h)
      obtain ⟨a3, c3, rfl⟩ := hc1.slice
      obtain ⟨a5, c5, rfl⟩ := hc2.slice
      clear hc1 hc2 hsm
      have t1 : (k : Int) < (ss.length : Int) := by omega
      go_wp2
      go_region_with ((go_at_call 39; refine (HE.out _ ?_).mono ?_; exact (Below.refl wr.heap.size wr).drew; rintro e w1 ⟨rfl, hb1⟩; have hbb : Below wr.heap.size wr w1 := ((Below.refl wr.heap.size wr).drew).trans hb1))
      all_goals go_wp2
      all_goals exact ⟨⟨k + 1, by simp, by omega, hbel.trans (hbb.mono hbel.size)⟩, by simp [intOf]; omega⟩
    · go_wp2
      go_ret
      exact ⟨rfl, hbel⟩
theorem cellsR : Tryd.prog.cellsOf 74 = 3 := by kernel_rfl
theorem cellsStr : Tryd.prog.cellsOf 9 = 1 := by kernel_rfl
theorem cellsNs : Tryd.prog.cellsOf 69 = 1 := by kernel_rfl
section
variable {H : Type} {enc : TypeId × Value → H} {w : World} {base : Nat} {spare : Nat → Bool} {held : Bool} {fuel : Nat}
set_option maxRecDepth 100000 in
theorem open_one {cs : List Value} {x : DataW H × List MemPlace} (h : DataW.trod enc Tryd.prog w base spare held fuel 74 cs = some x) :
    ∃ (s : FlowD) (vx : Value), cs = [.int .i64 s.src, .int .i64 s.dst, vx] ∧ Nd.At w 0 vx s.cond ∧ s.cond.length ≤ maxLen := by
  obtain ⟨xs, n, rfl, _, hlen, hxl, hf⟩ := DataW.trod_struct Tryd.underlying74 h
  have h0 := hf 0 _ rfl
  have h1 := hf 1 _ rfl
  have h2 := hf 2 _ rfl
  rw [cellsR] at hlen
  match cs, hlen with
  | [a, b, c], _ =>
    match xs, hxl with
    | [x0, x1, x2], _ =>
      simp [cellsI64, cellsNs] at h0 h1 h2
      obtain ⟨n0, e0, _, _⟩ := DataW.trod_int Tryd.underlying2 h0
      obtain ⟨n1, e1, _, _⟩ := DataW.trod_int Tryd.underlying2 h1
      obtain ⟨csx, hax, hlx⟩ := Nd.open_all h2
      simp at e0 e1
      subst e0 e1
      exact ⟨⟨n0, n1, csx⟩, c, rfl, hax, hlx⟩
set_option maxRecDepth 100000 in
theorem open_all {v : Value} {x : DataW H × List MemPlace} (h : DataW.trod enc Tryd.prog w base spare held fuel 23 [v] = some x) :
    ∃ ss, At w 0 v ss ∧ Ok ss ∧ ss.length ≤ maxLen := by
  rcases open_slice Tryd.underlying23 h with ⟨hcs, _⟩ | ⟨a, len, cap, m, n, D, Pl, hcs, hb, hl, hcm, hm, _, hx⟩
  · obtain rfl : v = .slice none 0 0 := by simpa using hcs
    exact ⟨[], ⟨none, 0, rfl, Nat.le_refl _, Nat.zero_le _, .inl rfl⟩, fun _ h => by (cases h), Nat.zero_le _⟩
  · obtain rfl : v = .slice (some a) len cap := by simpa using hcs
    have hlm : len ≤ m := by rw [hm]; split <;> omega
    rw [cellsR] at hx
    have each : ∀ i, i < len → ∃ q : FlowD, w.cell? (a.add (i * 3)) = some (.int .i64 q.src) ∧ w.cell? (a.add (i * 3 + 1)) = some (.int .i64 q.dst) ∧ (∃ vx, w.cell? (a.add (i * 3 + 2)) = some vx ∧ Nd.At w 0 vx q.cond) ∧ q.cond.length ≤ maxLen := fun i hi => by
      obtain ⟨cs', c0, d0⟩ := hx i (by omega)
      obtain ⟨e, vx, rfl, g1, g3⟩ := open_one d0
      obtain ⟨_, _, hc⟩ := World.cells?_some c0
      have k0 := hc 0 (by omega)
      have k1 := hc 1 (by omega)
      have k2 := hc 2 (by omega)
      rw [Nd.add_add] at k0 k1 k2
      exact ⟨e, k0, k1, ⟨vx, k2, g1⟩, g3⟩
    haveI : Inhabited FlowD := ⟨⟨0, 0, []⟩⟩
    obtain ⟨F, hF⟩ := choose_lt each
    refine ⟨(List.range len).map F, ?_, ?_, by simp; omega⟩
    · refine ⟨some a, cap, by simp, by simpa using hl, hcm, ?_⟩
      rcases Nat.eq_zero_or_pos len with h0 | h0
      · exact .inl (by simp [h0])
      · right
        obtain ⟨b, off, spot⟩ := a
        have hspot : spot = none := by simpa [Addr.add] using World.cell?_spot (hF 0 h0).1
        subst hspot
        refine ⟨b, off, rfl, Nat.zero_le _, lt_of_cell (hF 0 h0).1, fun i hi => ?_⟩
        have hi' : i < len := by simpa using hi
        have h2 := hF i hi'
        simp only [List.getElem_map, List.getElem_range]
        simp only [Go.WideShapes.add_plain, ← Nat.add_assoc] at h2 ⊢
        exact ⟨h2.1, h2.2.1, h2.2.2.1⟩
    · intro q hq
      obtain ⟨i, hi, rfl⟩ := List.mem_map.1 hq
      have h2 := hF i (by simpa using hi)
      exact h2.2.2.2
end
end Fl
end Go.Proofs.YtepfkfhbkbkepaaDoor
