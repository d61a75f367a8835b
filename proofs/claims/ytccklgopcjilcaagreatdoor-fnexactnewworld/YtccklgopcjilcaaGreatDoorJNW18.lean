/- Laid together: StC, StW, EpA. -/
import Derived.Test.YtccklgopcjilcaaGreatDoorJNW2
import Derived.Test.YtccklgopcjilcaaGreatDoorJNW16
/- The law's comparisons of steps; an argument that is a list of steps, as it lies in memory. -/
namespace Go.Proofs.YtccklgopcjilcaaGreatDoor
open Go.RowKit Go.Deep
set_option linter.unusedVariables false
namespace St
open Ex (hid)
open Nd (NodeD cellsI64 lt_of_cell)
theorem str_ne (s : ByteArray) : (s.toList != s.toList) = false := by simp
set_option maxRecDepth 100000 in
set_option maxHeartbeats 1000000 in
theorem eqOne (B1 B2 : Nat) (x : StepD) (c1 e1 c2 e2 : Value) (w : World) (hl : Small1 1048576 x) (h1 : Nd.At w B1 c1 x.cond) (h2 : Nd.At w B1 e1 x.expr) (h3 : Nd.At w B2 c2 x.cond) (h4 : Nd.At w B2 e2 x.expr) :
    Calls Tryz.prog 147 #[.agg #[.int .i64 x.kind, .int .i64 x.parent, .string x.name, .int .i64 x.arg, c1, e1], .agg #[.int .i64 x.kind, .int .i64 x.parent, .string x.name, .int .i64 x.arg, c2, e2]] w fun e w' => e = .returned (.bool true) ∧ Below w.heap.size w w' := by
  obtain ⟨a1, k1, rfl⟩ := h1.slice
  obtain ⟨a2, k2, rfl⟩ := h2.slice
  obtain ⟨a3, k3, rfl⟩ := h3.slice
  obtain ⟨a4, k4, rfl⟩ := h4.slice
  have hs1 := hl.2.1
  have hs2 := hl.2.2
  have hB : Below w.heap.size w ((w.alloc (.cells #[.int .i64 x.kind, .int .i64 x.parent, .string x.name, .int .i64 x.arg, .slice a1 x.cond.length k1, .slice a2 x.expr.length k2] 164)).alloc (.cells #[.int .i64 x.kind, .int .i64 x.parent, .string x.name, .int .i64 x.arg, .slice a3 x.cond.length k3, .slice a4 x.expr.length k4] 164)) := ((Below.refl _ w).alloc (Nat.le_refl _) _).alloc (by simp) _
  have H1 := hid (h1.below hB)
  have H2 := hid (h2.below hB)
  have H3 := hid (h3.below hB)
  have H4 := hid (h4.below hB)
  have HB := hid hB
  clear h1 h2 h3 h4 hB hl
  have g0 := str_ne x.name
  have g1 : (x.kind != x.kind) = false := by simp
  have g2 : (x.parent != x.parent) = false := by simp
  have g3 : (x.arg != x.arg) = false := by simp
  go_enter Tryz.func147, Tryz.ntmps147
  go_wp2_with fail
  refine (Nd.eqS B1 B2 x.cond _ _ _ (by omega) H1.out H3.out).mono ?_
  rintro e w1 ⟨rfl, hb1⟩
  have r1 := hb1.size
  simp only [World.size_alloc] at r1
  have d1 := (hb1.cell (p := ⟨w.heap.size, 5, none⟩) (by simp; omega)).trans (show _ = some (.slice a2 x.expr.length k2) by go_simp)
  have d2 := (hb1.cell (p := ⟨w.heap.size + 1, 5, none⟩) (by simp)).trans (show _ = some (.slice a4 x.expr.length k4) by go_simp)
  have l1 : w.heap.size < w1.heap.size := by omega
  have l2 : w.heap.size + 1 < w1.heap.size := by omega
  have HB1 := hid (HB.out.trans (hb1.mono HB.out.size))
  go_wp2_with fail
  refine (Nd.eqS B1 B2 x.expr _ _ _ (by omega) (H2.out.below hb1) (H4.out.below hb1)).mono ?_
  rintro e w2 ⟨rfl, hb2⟩
  have HB2 := hid (HB1.out.trans (hb2.mono HB1.out.size))
  go_wp2
  go_ret
  exact ⟨rfl, HB2.out⟩
set_option maxRecDepth 100000 in
set_option maxHeartbeats 2000000 in
theorem eqS (B1 B2 : Nat) (ss : List StepD) (v1 v2 : Value) (w : World) (hl : Small 1048576 ss) (h1 : At w B1 v1 ss) (h2 : At w B2 v2 ss) :
    Calls Tryz.prog 100 #[v1, v2] w fun e w' => e = .returned (.bool true) ∧ Below w.heap.size w w' := by
  obtain ⟨a1, c1, rfl⟩ := h1.slice
  obtain ⟨a2, c2, rfl⟩ := h2.slice
  have H1 := hid h1
  have H2 := hid h2
  have HL := hid hl
  have hlen := hl.1
  clear h1 h2 hl
  have hb : ((ss.length : Int) != (ss.length : Int)) = false := by simp
  go_enter Tryz.func100, Tryz.ntmps100
  go_wp2
  go_loopw [5] (fun i wr => ∃ k : Nat, i = .int .i64 k ∧ k ≤ ss.length ∧ Below w.heap.size w wr) (fun i _ => ss.length - (intOf i).toNat)
  case atStart => exact ⟨0, rfl, Nat.zero_le _, Below.refl _ _⟩
  case round =>
    obtain ⟨k, rfl, hk, hbel⟩ := hrel
    by_cases hlt : k < ss.length
    · obtain ⟨g1, o1, c1', e1', rfl, hg1, p0, p1, p2, p3, p4, p5, hc1, he1⟩ := (H1.out.below hbel).at hlt
      obtain ⟨g2, o2, c2', e2', rfl, hg2, u0, u1, u2, u3, u4, u5, hc2, he2⟩ := (H2.out.below hbel).at hlt
      have hsm := HL.out.at hlt
      have HE : Hid (∀ w1 : World, Below wr.heap.size wr w1 → Calls Tryz.prog 147 #[.agg #[.int .i64 ss[k].kind, .int .i64 ss[k].parent, .string ss[k].name, .int .i64 ss[k].arg, c1', e1'], .agg #[.int .i64 ss[k].kind, .int .i64 ss[k].parent, .string ss[k].name, .int .i64 ss[k].arg, c2', e2']] w1 fun e w' => e = .returned (.bool true) ∧ Below w1.heap.size w1 w') := fun w1 h => eqOne B1 B2 ss[k] c1' e1' c2' e2' w1 hsm (hc1.below h) (he1.below h) (hc2.below h) (he2.below h)
      obtain ⟨a3, c3, rfl⟩ := hc1.slice
      obtain ⟨a4, c4, rfl⟩ := he1.slice
      obtain ⟨a5, c5, rfl⟩ := hc2.slice
      obtain ⟨a6, c6, rfl⟩ := he2.slice
      clear hc1 he1 hc2 he2 hsm
      have t1 : (k : Int) < (ss.length : Int) := by omega
      go_wp2
      go_region_with ((go_at_call 147; refine (HE.out _ ?_).mono ?_; exact (Below.refl wr.heap.size wr).drew; rintro e w1 ⟨rfl, hb1⟩; have hbb : Below wr.heap.size wr w1 := ((Below.refl wr.heap.size wr).drew).trans hb1))
      all_goals go_wp2
      all_goals exact ⟨⟨k + 1, by simp, by omega, hbel.trans (hbb.mono hbel.size)⟩, by simp [intOf]; omega⟩
    · go_wp2
      go_ret
      exact ⟨rfl, hbel⟩
theorem cellsStep : Tryz.prog.cellsOf 204 = 6 := by kernel_rfl
theorem cellsStr : Tryz.prog.cellsOf 9 = 1 := by kernel_rfl
theorem cellsNs : Tryz.prog.cellsOf 202 = 1 := by kernel_rfl
section
variable {H : Type} {enc : TypeId × Value → H} {w : World} {base : Nat} {spare : Nat → Bool} {held : Bool} {fuel : Nat}
set_option maxRecDepth 100000 in
theorem open_one {cs : List Value} {x : DataW H × List MemPlace} (h : DataW.trod enc Tryz.prog w base spare held fuel 204 cs = some x) :
    ∃ (s : StepD) (vc ve : Value), cs = [.int .i64 s.kind, .int .i64 s.parent, .string s.name, .int .i64 s.arg, vc, ve] ∧ Nd.At w 0 vc s.cond ∧ Nd.At w 0 ve s.expr ∧ s.name.size ≤ maxLen ∧ s.cond.length ≤ maxLen ∧ s.expr.length ≤ maxLen := by
  obtain ⟨xs, n, rfl, _, hlen, hxl, hf⟩ := DataW.trod_struct Tryz.underlying204 h
  have h0 := hf 0 _ rfl
  have h1 := hf 1 _ rfl
  have h2 := hf 2 _ rfl
  have h3 := hf 3 _ rfl
  have h4 := hf 4 _ rfl
  have h5 := hf 5 _ rfl
  rw [cellsStep] at hlen
  match cs, hlen with
  | [a, b, c, d, e, f], _ =>
    match xs, hxl with
    | [x0, x1, x2, x3, x4, x5], _ =>
      simp [cellsStr, cellsI64, cellsNs] at h0 h1 h2 h3 h4 h5
      obtain ⟨n0, e0, _, _⟩ := DataW.trod_int Tryz.underlying2 h0
      obtain ⟨n1, e1, _, _⟩ := DataW.trod_int Tryz.underlying2 h1
      obtain ⟨s2, e2, _, b2⟩ := DataW.trod_string Tryz.underlying9 h2
      obtain ⟨n3, e3, _, _⟩ := DataW.trod_int Tryz.underlying2 h3
      obtain ⟨cs4, ha4, hl4⟩ := Nd.open_all h4
      obtain ⟨cs5, ha5, hl5⟩ := Nd.open_all h5
      simp at e0 e1 e2 e3
      subst e0 e1 e2 e3
      exact ⟨⟨n0, n1, s2, n3, cs4, cs5⟩, e, f, rfl, ha4, ha5, b2, hl4, hl5⟩
set_option maxRecDepth 100000 in
theorem open_all {v : Value} {x : DataW H × List MemPlace} (h : DataW.trod enc Tryz.prog w base spare held fuel 82 [v] = some x) :
    ∃ ss, At w 0 v ss ∧ Ok ss ∧ ss.length ≤ maxLen := by
  rcases open_slice Tryz.underlying82 h with ⟨hcs, _⟩ | ⟨a, len, cap, m, n, D, Pl, hcs, hb, hl, hcm, hm, _, hx⟩
  · obtain rfl : v = .slice none 0 0 := by simpa using hcs
    exact ⟨[], ⟨none, 0, rfl, Nat.le_refl _, Nat.zero_le _, .inl rfl⟩, fun _ h => by (cases h), Nat.zero_le _⟩
  · obtain rfl : v = .slice (some a) len cap := by simpa using hcs
    have hlm : len ≤ m := by rw [hm]; split <;> omega
    rw [cellsStep] at hx
    have each : ∀ i, i < len → ∃ q : StepD, w.cell? (a.add (i * 6)) = some (.int .i64 q.kind) ∧ w.cell? (a.add (i * 6 + 1)) = some (.int .i64 q.parent) ∧ w.cell? (a.add (i * 6 + 2)) = some (.string q.name) ∧ w.cell? (a.add (i * 6 + 3)) = some (.int .i64 q.arg) ∧ (∃ vc ve, w.cell? (a.add (i * 6 + 4)) = some vc ∧ w.cell? (a.add (i * 6 + 5)) = some ve ∧ Nd.At w 0 vc q.cond ∧ Nd.At w 0 ve q.expr) ∧ q.name.size ≤ maxLen ∧ q.cond.length ≤ maxLen ∧ q.expr.length ≤ maxLen := fun i hi => by
      obtain ⟨cs', c0, d0⟩ := hx i (by omega)
      obtain ⟨e, vc, ve, rfl, g1, g2, g3⟩ := open_one d0
      obtain ⟨_, _, hc⟩ := World.cells?_some c0
      have k0 := hc 0 (by omega)
      have k1 := hc 1 (by omega)
      have k2 := hc 2 (by omega)
      have k3 := hc 3 (by omega)
      have k4 := hc 4 (by omega)
      have k5 := hc 5 (by omega)
      rw [Nd.add_add] at k0 k1 k2 k3 k4 k5
      exact ⟨e, k0, k1, k2, k3, ⟨vc, ve, k4, k5, g1, g2⟩, g3⟩
    haveI : Inhabited StepD := ⟨⟨0, 0, ByteArray.empty, 0, [], []⟩⟩
    obtain ⟨F, hF⟩ := choose_lt each
    refine ⟨(List.range len).map F, ?_, ?_, by simp; omega⟩
    · refine ⟨some a, cap, by simp, by simpa using hl, hcm, ?_⟩
      rcases Nat.eq_zero_or_pos len with h0 | h0
      · exact .inl (by simp [h0])
      · right
        obtain ⟨b, off, spot⟩ := a
        have hspot : spot = none := by simpa [Addr.add] using World.cell?_spot (hF 0 h0).1
        subst hspot
        refine ⟨b, off, rfl, Nat.zero_le _, lt_of_cell (hF 0 h0).1, fun i hi => ?_⟩
        have hi' : i < len := by simpa using hi
        have h2 := hF i hi'
        simp only [List.getElem_map, List.getElem_range]
        simp only [Go.WideShapes.add_plain, ← Nat.add_assoc] at h2 ⊢
        exact ⟨h2.1, h2.2.1, h2.2.2.1, h2.2.2.2.1, h2.2.2.2.2.1⟩
    · intro q hq
      obtain ⟨i, hi, rfl⟩ := List.mem_map.1 hq
      have h2 := hF i (by simpa using hi)
      exact h2.2.2.2.2.2
end
end St
end Go.Proofs.YtccklgopcjilcaaGreatDoor
/- The law's measure of a row of steps, with all that there is in it. -/
namespace Go.Proofs.YtccklgopcjilcaaGreatDoor
open Go.RowKit Go.Deep
set_option linter.unusedVariables false
namespace St
open Ex (hid)
open Nd (NodeD)
def wt1 (s : StepD) : Nat := s.name.size + s.cond.length + s.expr.length
def wt : List StepD → Nat
  | [] => 0
  | s :: ss => 1 + wt1 s + wt ss
theorem wt_take {ss : List StepD} {k : Nat} (h : k < ss.length) : wt (ss.take (k + 1)) = wt (ss.take k) + 1 + wt1 ss[k] := by
  induction ss generalizing k with
  | nil => simp at h
  | cons s ss ih =>
    cases k with
    | zero => simp [wt]
    | succ k =>
      have := ih (k := k) (by simpa using h)
      simp only [List.take_succ_cons, wt, List.getElem_cons_succ] at this ⊢
      omega
set_option maxRecDepth 100000 in
set_option maxHeartbeats 1000000 in
theorem szN2 (xs : List NodeD) (a : Option Addr) (cap : Nat) (n : Int) (w : World) (h0 : 0 ≤ n) (hn : n ≤ 1048576) (hk : xs.length ≤ maxLen) :
    Calls Tryz.prog 177 #[.slice a xs.length cap, .int .i64 n] w fun e w' => (∃ r : Int, e = .returned (.int .i64 r) ∧ -1 ≤ r ∧ r ≤ n ∧ (0 ≤ r → r + (xs.length : Int) ≤ n)) ∧ w' = w := by
  unfold maxLen at hk
  by_cases h : n - (xs.length : Int) < 0
  · go_enter Tryz.func177, Tryz.ntmps177
    go_wp2
    go_ret
    exact ⟨⟨-1, rfl, by omega, by omega, by omega⟩, rfl⟩
  · go_enter Tryz.func177, Tryz.ntmps177
    go_wp2
    go_ret
    exact ⟨⟨n - xs.length, rfl, by omega, by omega, by omega⟩, rfl⟩
set_option maxRecDepth 100000 in
set_option maxHeartbeats 1000000 in
theorem szOne2 (B : Nat) (x : StepD) (vc ve : Value) (n : Int) (w : World) (h0 : 0 ≤ n) (hn : n ≤ 1048576) (h1 : x.name.size ≤ maxLen) (h2 : x.cond.length ≤ maxLen) (h3 : x.expr.length ≤ maxLen) (hc : Nd.At w B vc x.cond) (he : Nd.At w B ve x.expr) :
    Calls Tryz.prog 140 #[.agg #[.int .i64 x.kind, .int .i64 x.parent, .string x.name, .int .i64 x.arg, vc, ve], .int .i64 n] w fun e w' => (∃ r : Int, e = .returned (.int .i64 r) ∧ -1 ≤ r ∧ r ≤ n ∧ (0 ≤ r → Small1 n x ∧ r + (wt1 x : Int) ≤ n)) ∧ Below w.heap.size w w' := by
  unfold maxLen at h1
  obtain ⟨a, cap, rfl⟩ := hc.slice
  obtain ⟨a2, cap2, rfl⟩ := he.slice
  have HC := hid hc
  have HE := hid he
  clear hc he
  have hB : Below w.heap.size w (w.alloc (.cells #[.int .i64 x.kind, .int .i64 x.parent, .string x.name, .int .i64 x.arg, .slice a x.cond.length cap, .slice a2 x.expr.length cap2] 204)) := (Below.refl _ w).alloc (Nat.le_refl _) _
  have HC2 := hid (HC.out.below hB)
  have HE2 := hid (HE.out.below hB)
  clear HC HE
  by_cases q1 : n - (x.name.size : Int) < 0
  · go_enter Tryz.func140, Tryz.ntmps140
    go_wp2
    go_ret
    exact ⟨⟨-1, rfl, by omega, by omega, by omega⟩, hB⟩
  · go_enter Tryz.func140, Tryz.ntmps140
    go_wp2_with fail
    refine (szN2 x.cond _ _ (n - x.name.size) _ (by omega) (by omega) h2).mono ?_
    rintro e w1 ⟨⟨r, rfl, hr1, hr2, hr3⟩, rfl⟩
    by_cases hr : r < 0
    · go_wp2
      go_ret
      exact ⟨⟨-1, rfl, by omega, by omega, by omega⟩, hB⟩
    · have hr3' := hr3 (by omega)
      clear hr3
      go_wp2_with fail
      refine (szN2 x.expr _ _ r _ (by omega) (by omega) h3).mono ?_
      rintro e w1 ⟨⟨r2, rfl, hr4, hr5, hr6⟩, rfl⟩
      by_cases hr' : r2 < 0
      · go_wp2
        go_ret
        exact ⟨⟨-1, rfl, by omega, by omega, by omega⟩, hB⟩
      · have hr6' := hr6 (by omega)
        clear hr6
        go_wp2
        go_ret
        exact ⟨⟨r2, rfl, by omega, by omega, fun _ => ⟨⟨by omega, by omega, by omega⟩, by unfold wt1; omega⟩⟩, hB⟩
set_option maxRecDepth 100000 in
set_option maxHeartbeats 1000000 in
theorem szS2 (B : Nat) (ss : List StepD) (v : Value) (n : Int) (w : World) (h0 : 0 ≤ n) (hn : n ≤ 1048576) (hl : ss.length ≤ maxLen) (hk : Ok ss) (ha : At w B v ss) :
    Calls Tryz.prog 95 #[v, .int .i64 n] w fun e w' => (∃ r : Int, e = .returned (.int .i64 r) ∧ -1 ≤ r ∧ r ≤ n ∧ (0 ≤ r → Small n ss ∧ r + (wt ss : Int) ≤ n)) ∧ Below w.heap.size w w' := by
  obtain ⟨a, cap, rfl⟩ := ha.slice
  have HA := hid ha
  have HK := hid hk
  clear ha hk
  unfold maxLen at hl
  by_cases q1 : n - (ss.length : Int) < 0
  · go_enter Tryz.func95, Tryz.ntmps95
    go_wp2
    go_ret
    exact ⟨⟨-1, rfl, by omega, by omega, by omega⟩, Below.refl _ _⟩
  · go_enter Tryz.func95, Tryz.ntmps95
    go_wp2
    go_loopw [1, 5] (fun m i wr => ∃ (k : Nat) (z : Int), i = .int .i64 k ∧ m = .int .i64 z ∧ 0 ≤ z ∧ z ≤ n ∧ k ≤ ss.length ∧ z + (wt (ss.take k) : Int) ≤ n - (ss.length : Int) + (k : Int) ∧ Hid (∀ j (h : j < ss.length), j < k → Small1 n ss[j]) ∧ Below w.heap.size w wr) (fun _ i _ => ss.length - (intOf i).toNat)
    case atStart => exact ⟨0, _, rfl, rfl, by omega, by omega, Nat.zero_le _, by simp [wt], fun j _ h => by omega, Below.refl _ _⟩
    case round =>
      obtain ⟨k, z, rfl, rfl, hz0, hzn, hkl, hzw, HJ, hbel⟩ := hrel
      by_cases hlt : k < ss.length
      · obtain ⟨g, o, vc, ve, rfl, hg, c0, c1, c2, c3, c4, c5, hvc, hve⟩ := (HA.out.below hbel).at hlt
        obtain ⟨a2, cap2, rfl⟩ := hvc.slice
        obtain ⟨a3, cap3, rfl⟩ := hve.slice
        have HV := hid hvc
        have HE := hid hve
        clear hvc hve
        have hke := HK.out ss[k] (List.getElem_mem hlt)
        have hke1 := hke.1
        have hke2 := hke.2.1
        have hke3 := hke.2.2
        clear hke
        have q1 : (k : Int) < (ss.length : Int) := by omega
        go_wp2_with fail
        refine (szOne2 B ss[k] _ _ z _ hz0 (by omega) hke1 hke2 hke3 HV.out HE.out).mono ?_
        rintro e w1 ⟨⟨r, rfl, hr1, hr2, hr3⟩, hb1⟩
        have hB := hbel.trans (hb1.mono hbel.size)
        by_cases hr : r < 0
        · go_wp2
          go_ret
          exact ⟨⟨-1, rfl, by omega, by omega, by omega⟩, hB⟩
        · have hr4 := hr3 (by omega)
          have hr5 := hr4.2
          have hr6 := wt_take hlt
          have HJ2 : Hid (∀ j (h : j < ss.length), j < k + 1 → Small1 n ss[j]) := hid (fun j h hj => by
            by_cases e : j = k
            · subst e
              exact hr4.1.mono hzn
            · exact HJ.out j h (by omega))
          have hzw2 : r + (wt (ss.take (k + 1)) : Int) ≤ n - (ss.length : Int) + ((k + 1 : Nat) : Int) := by omega
          clear hr3 hr4 hr5 hr6
          go_wp2
          exact ⟨⟨k + 1, r, by simp, rfl, by omega, by omega, by omega, hzw2, HJ2, hB⟩, by simp [intOf]; omega⟩
      · have HJ2 : Hid (Small n ss) := hid ⟨by omega, fun x hx => by
          obtain ⟨j, hj, rfl⟩ := List.getElem_of_mem hx
          exact HJ.out j hj (by omega)⟩
        rw [List.take_of_length_le (by omega)] at hzw
        go_wp2
        go_ret
        exact ⟨⟨z, rfl, by omega, by omega, fun _ => ⟨HJ2.out, by omega⟩⟩, hbel⟩
end St
end Go.Proofs.YtccklgopcjilcaaGreatDoor
/- Rows of processes in memory, and the law's measure of them. -/
namespace Go.Proofs.YtccklgopcjilcaaGreatDoor
open Go.RowKit Go.Deep
set_option linter.unusedVariables false
namespace Ep
open Ex (hid)
open St (StepD old_cell old_free setB)
def Ok1 (s : List StepD) : Prop := St.Ok s ∧ s.length ≤ maxLen
def Small1 (n : Int) (s : List StepD) : Prop := St.Small n s
theorem Small1.mono {m n : Int} {s : List StepD} (h : Small1 m s) (hm : m ≤ n) : Small1 n s := ⟨Int.le_trans h.1 hm, fun x hx => (h.2 x hx).mono hm⟩
def wt1 (s : List StepD) : Nat := St.wt s
def At (w : World) (B : Nat) (v : Value) (ss : List (List StepD)) : Prop :=
  ∃ a cap, v = .slice a ss.length cap ∧ ss.length ≤ cap ∧ cap ≤ maxLen ∧ (ss = [] ∨ ∃ g o, a = some ⟨g, o, none⟩ ∧ B ≤ g ∧ g < w.heap.size ∧
    ∀ i (h : i < ss.length), ∃ v1, w.cell? ⟨g, o + i, none⟩ = some v1 ∧ St.At w B v1 ss[i])
theorem At.kept {w w' : World} {B : Nat} {v : Value} {ss : List (List StepD)} (h : At w B v ss) (hs : w.heap.size ≤ w'.heap.size) (hb : ∀ g, B ≤ g → g < w.heap.size → w'.heap[g]? = w.heap[g]?) : At w' B v ss := by
  obtain ⟨a, cap, rfl, hle, hmx, h⟩ := h
  refine ⟨a, cap, rfl, hle, hmx, ?_⟩
  rcases h with h | ⟨g, o, rfl, hB, hg, hc⟩
  · exact .inl h
  · refine .inr ⟨g, o, rfl, hB, Nat.lt_of_lt_of_le hg hs, fun i hi => ?_⟩
    have e : ∀ off, w'.cell? ⟨g, off, none⟩ = w.cell? ⟨g, off, none⟩ := fun off => by simp only [World.cell?, hb g hB hg]
    obtain ⟨v1, h0, hy⟩ := hc i hi
    exact ⟨v1, (e _).trans h0, hy.kept hs hb⟩
theorem At.below {w w' : World} {B : Nat} {v : Value} {ss : List (List StepD)} (h : At w B v ss) (hb : Below w.heap.size w w') : At w' B v ss := h.kept hb.size (fun g _ hg => hb.block g hg)
theorem At.setBelow {w : World} {B : Nat} {v : Value} {ss : List (List StepD)} (h : At w B v ss) {b o : Nat} (ha : b < B) (x : Value) : At (w.setCell ⟨b, o, none⟩ x) B v ss :=
  h.kept (by simp [World.setCell]) (fun g hg _ => Below.heap_setCell _ _ _ _ (by dsimp only; omega))
theorem At.mono {w : World} {B B' : Nat} {v : Value} {ss : List (List StepD)} (h : At w B v ss) (hB : B' ≤ B) : At w B' v ss := by
  obtain ⟨a, cap, rfl, hle, hmx, h⟩ := h
  refine ⟨a, cap, rfl, hle, hmx, ?_⟩
  rcases h with h | ⟨g, o, rfl, hb, hg, hc⟩
  · exact .inl h
  · refine .inr ⟨g, o, rfl, Nat.le_trans hB hb, hg, fun i hi => ?_⟩
    obtain ⟨v1, h0, hy⟩ := hc i hi
    exact ⟨v1, h0, hy.mono hB⟩
theorem At.slice {w : World} {B : Nat} {v : Value} {ss : List (List StepD)} (h : At w B v ss) : ∃ a cap, v = .slice a ss.length cap := by
  obtain ⟨a, cap, rfl, _⟩ := h; exact ⟨a, cap, rfl⟩
theorem At.at {w : World} {B : Nat} {a : Option Addr} {n cap : Nat} {ss : List (List StepD)} (h : At w B (.slice a n cap) ss) {i : Nat} (hi : i < ss.length) :
    ∃ g o v1, a = some ⟨g, o, none⟩ ∧ g < w.heap.size ∧ w.cell? ⟨g, o + i, none⟩ = some v1 ∧ St.At w B v1 ss[i] := by
  obtain ⟨a', cap', e, _, _, h⟩ := h
  cases e
  rcases h with h | ⟨g, o, rfl, _, hg, hc⟩
  · subst h; simp at hi
  · obtain ⟨v1, hx⟩ := hc i hi
    exact ⟨g, o, v1, rfl, hg, hx⟩
theorem At.nil (w : World) (B : Nat) : At w B (.slice none 0 0) [] := ⟨_, _, rfl, Nat.le_refl _, Nat.zero_le _, .inl rfl⟩
theorem At.cap {w : World} {B : Nat} {a : Option Addr} {n cap : Nat} {ss : List (List StepD)} (h : At w B (.slice a n cap) ss) : ss.length ≤ cap ∧ cap ≤ maxLen := by
  obtain ⟨a', cap', e, h1, h2, _⟩ := h; cases e; exact ⟨h1, h2⟩
def Ok (ss : List (List StepD)) : Prop := ∀ s ∈ ss, Ok1 s
def Small (n : Int) (ss : List (List StepD)) : Prop := (ss.length : Int) ≤ n ∧ ∀ s ∈ ss, Small1 n s
theorem Small.at {n : Int} {ss : List (List StepD)} (h : Small n ss) {i : Nat} (hi : i < ss.length) : Small1 n ss[i] := h.2 _ (List.getElem_mem hi)
theorem Small.mono {m n : Int} {ss : List (List StepD)} (h : Small m ss) (hm : m ≤ n) : Small n ss := ⟨Int.le_trans h.1 hm, fun s hs => (h.2 s hs).mono hm⟩
/-- How much there is in all. -/
def wt : List (List StepD) → Nat
  | [] => 0
  | s :: ss => 1 + wt1 s + wt ss
theorem wt_take {ss : List (List StepD)} {k : Nat} (h : k < ss.length) : wt (ss.take (k + 1)) = wt (ss.take k) + 1 + wt1 ss[k] := by
  induction ss generalizing k with
  | nil => simp at h
  | cons s ss ih =>
    cases k with
    | zero => simp [wt]
    | succ k =>
      have := ih (k := k) (by simpa using h)
      simp only [List.take_succ_cons, wt, List.getElem_cons_succ] at this ⊢
      omega
set_option maxRecDepth 100000 in
set_option maxHeartbeats 1000000 in
theorem szOne (B : Nat) (x : (List StepD)) (v1 : Value) (n : Int) (w : World) (h0 : 0 ≤ n) (hn : n ≤ 1048576) (hk : Ok1 x) (hc : St.At w B v1 x) :
    Calls Tryz.prog 46 #[.agg #[v1], .int .i64 n] w fun e w' => (∃ r : Int, e = .returned (.int .i64 r) ∧ -1 ≤ r ∧ r ≤ n ∧ (0 ≤ r → Small1 n x ∧ r + (wt1 x : Int) ≤ n)) ∧ Below w.heap.size w w' := by
  obtain ⟨a1, k1, rfl⟩ := hc.slice
  have hB : Below w.heap.size w (w.alloc (.cells #[.slice a1 x.length k1] 84)) := (Below.refl _ w).alloc (Nat.le_refl _) _
  have HC2 := hid (hc.below hB)
  clear hc
  go_enter Tryz.func46, Tryz.ntmps46
  go_wp2_with fail
  refine (St.szS2 B x _ n _ h0 hn hk.2 hk.1 HC2.out).mono ?_
  rintro e w1 ⟨⟨r, rfl, hr1, hr2, hr3⟩, hb1⟩
  have HB1 := hid (hB.trans (hb1.mono hB.size))
  clear hb1
  by_cases hr : r < 0
  · go_wp2
    go_ret
    exact ⟨⟨-1, rfl, by omega, by omega, by omega⟩, HB1.out⟩
  · have hr3' := hid (hr3 (by omega))
    clear hr3
    go_wp2
    go_ret
    exact ⟨⟨r, rfl, by omega, by omega, fun _ => hr3'.out⟩, HB1.out⟩
set_option maxRecDepth 100000 in
set_option maxHeartbeats 1000000 in
theorem szS (B : Nat) (ss : List (List StepD)) (v : Value) (n : Int) (w : World) (h0 : 0 ≤ n) (hn : n ≤ 1048576) (hl : ss.length ≤ maxLen) (hk : Ok ss) (ha : At w B v ss) :
    Calls Tryz.prog 9 #[v, .int .i64 n] w fun e w' => (∃ r : Int, e = .returned (.int .i64 r) ∧ -1 ≤ r ∧ r ≤ n ∧ (0 ≤ r → Small n ss ∧ r + (wt ss : Int) ≤ n)) ∧ Below w.heap.size w w' := by
  obtain ⟨a, cap, rfl⟩ := ha.slice
  have HA := hid ha
  have HK := hid hk
  clear ha hk
  unfold maxLen at hl
  by_cases q1 : n - (ss.length : Int) < 0
  · go_enter Tryz.func9, Tryz.ntmps9
    go_wp2
    go_ret
    exact ⟨⟨-1, rfl, by omega, by omega, by omega⟩, Below.refl _ _⟩
  · go_enter Tryz.func9, Tryz.ntmps9
    go_wp2
    go_loopw [1, 5] (fun m i wr => ∃ (k : Nat) (z : Int), i = .int .i64 k ∧ m = .int .i64 z ∧ 0 ≤ z ∧ z ≤ n ∧ k ≤ ss.length ∧ z + (wt (ss.take k) : Int) ≤ n - (ss.length : Int) + (k : Int) ∧ Hid (∀ j (h : j < ss.length), j < k → Small1 n ss[j]) ∧ Below w.heap.size w wr) (fun _ i _ => ss.length - (intOf i).toNat)
    case atStart => exact ⟨0, _, rfl, rfl, by omega, by omega, Nat.zero_le _, by simp [wt], fun j _ h => by omega, Below.refl _ _⟩
    case round =>
      obtain ⟨k, z, rfl, rfl, hz0, hzn, hkl, hzw, HJ, hbel⟩ := hrel
      by_cases hlt : k < ss.length
      · obtain ⟨g, o, v1, rfl, hg, c0, hv⟩ := (HA.out.below hbel).at hlt
        obtain ⟨a21, k21, rfl⟩ := hv.slice
        have HV := hid hv
        clear hv
        have hke := HK.out ss[k] (List.getElem_mem hlt)
        have q1 : (k : Int) < (ss.length : Int) := by omega
        go_wp2_with fail
        refine (szOne B ss[k] _ z _ hz0 (by omega) hke HV.out).mono ?_
        rintro e w1 ⟨⟨r, rfl, hr1, hr2, hr3⟩, hb1⟩
        have hB := hbel.trans (hb1.mono hbel.size)
        by_cases hr : r < 0
        · go_wp2
          go_ret
          exact ⟨⟨-1, rfl, by omega, by omega, by omega⟩, hB⟩
        · have hr4 := hr3 (by omega)
          have hr5 := hr4.2
          have hr6 := wt_take hlt
          have HJ2 : Hid (∀ j (h : j < ss.length), j < k + 1 → Small1 n ss[j]) := hid (fun j h hj => by
            by_cases e : j = k
            · subst e
              exact hr4.1.mono hzn
            · exact HJ.out j h (by omega))
          have hzw2 : r + (wt (ss.take (k + 1)) : Int) ≤ n - (ss.length : Int) + ((k + 1 : Nat) : Int) := by omega
          clear hr3 hr4 hr5 hr6
          go_wp2
          exact ⟨⟨k + 1, r, by simp, rfl, by omega, by omega, by omega, hzw2, HJ2, hB⟩, by simp [intOf]; omega⟩
      · have HJ2 : Hid (Small n ss) := hid ⟨by omega, fun x hx => by
          obtain ⟨j, hj, rfl⟩ := List.getElem_of_mem hx
          exact HJ.out j hj (by omega)⟩
        rw [List.take_of_length_le (by omega)] at hzw
        go_wp2
        go_ret
        exact ⟨⟨z, rfl, by omega, by omega, fun _ => ⟨HJ2.out, by omega⟩⟩, hbel⟩
end Ep
end Go.Proofs.YtccklgopcjilcaaGreatDoor
