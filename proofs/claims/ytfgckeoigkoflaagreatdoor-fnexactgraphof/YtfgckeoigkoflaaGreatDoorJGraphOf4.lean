/- Laid together: StA, Nu, ExA, ExB. -/
import Derived.Test.YtfgckeoigkoflaaGreatDoorJGraphOf1
import Derived.Deep.SlicePairs
import Derived.Test.YtfgckeoigkoflaaGreatDoorProg
import Derived.WalkKit
import Derived.Below
import Derived.WalkSpells
import Derived.WalkLawsBesides
import Derived.ProofKit
import Derived.OpenShut
import Derived.Deep.Slices
import Derived.Deep.QuietTactic
import Derived.BigQuiet
import Derived.BigRegion
import Derived.Deep.RegionWith
import Derived.Deep.OwnRows
import Derived.Laws.MakeOwn
/- Lists of steps in memory, and the law's measure of them. -/
namespace Go.Proofs.YtfgckeoigkoflaaGreatDoor
open Go.RowKit Go.Deep
set_option linter.unusedVariables false
namespace St
open Ex (hid)
open Nd (NodeD)
structure StepD where
  kind : Int
  parent : Int
  name : ByteArray
  arg : Int
  cond : List NodeD
  expr : List NodeD
def At (w : World) (B : Nat) (v : Value) (ss : List StepD) : Prop :=
  ∃ a cap, v = .slice a ss.length cap ∧ ss.length ≤ cap ∧ cap ≤ maxLen ∧ (ss = [] ∨ ∃ g o, a = some ⟨g, o, none⟩ ∧ B ≤ g ∧ g < w.heap.size ∧
    ∀ i (h : i < ss.length), w.cell? ⟨g, o + i * 6, none⟩ = some (.int .i64 ss[i].kind) ∧ w.cell? ⟨g, o + i * 6 + 1, none⟩ = some (.int .i64 ss[i].parent) ∧ w.cell? ⟨g, o + i * 6 + 2, none⟩ = some (.string ss[i].name) ∧ w.cell? ⟨g, o + i * 6 + 3, none⟩ = some (.int .i64 ss[i].arg) ∧
      ∃ vc ve, w.cell? ⟨g, o + i * 6 + 4, none⟩ = some vc ∧ w.cell? ⟨g, o + i * 6 + 5, none⟩ = some ve ∧ Nd.At w B vc ss[i].cond ∧ Nd.At w B ve ss[i].expr)
theorem At.kept {w w' : World} {B : Nat} {v : Value} {ss : List StepD} (h : At w B v ss) (hs : w.heap.size ≤ w'.heap.size) (hb : ∀ g, B ≤ g → g < w.heap.size → w'.heap[g]? = w.heap[g]?) : At w' B v ss := by
  obtain ⟨a, cap, rfl, hle, hmx, h⟩ := h
  refine ⟨a, cap, rfl, hle, hmx, ?_⟩
  rcases h with h | ⟨g, o, rfl, hB, hg, hc⟩
  · exact .inl h
  · refine .inr ⟨g, o, rfl, hB, Nat.lt_of_lt_of_le hg hs, fun i hi => ?_⟩
    have e : ∀ off, w'.cell? ⟨g, off, none⟩ = w.cell? ⟨g, off, none⟩ := fun off => by simp only [World.cell?, hb g hB hg]
    obtain ⟨h0, h1, h2, h3, vc, ve, h4, h5, h6, h7⟩ := hc i hi
    exact ⟨(e _).trans h0, (e _).trans h1, (e _).trans h2, (e _).trans h3, vc, ve, (e _).trans h4, (e _).trans h5, h6.kept hs hb, h7.kept hs hb⟩
theorem At.below {w w' : World} {B : Nat} {v : Value} {ss : List StepD} (h : At w B v ss) (hb : Below w.heap.size w w') : At w' B v ss := h.kept hb.size (fun g _ hg => hb.block g hg)
theorem At.setBelow {w : World} {B : Nat} {v : Value} {ss : List StepD} (h : At w B v ss) {b o : Nat} (ha : b < B) (x : Value) : At (w.setCell ⟨b, o, none⟩ x) B v ss :=
  h.kept (by simp [World.setCell]) (fun g hg _ => Below.heap_setCell _ _ _ _ (by dsimp only; omega))
theorem At.mono {w : World} {B B' : Nat} {v : Value} {ss : List StepD} (h : At w B v ss) (hB : B' ≤ B) : At w B' v ss := by
  obtain ⟨a, cap, rfl, hle, hmx, h⟩ := h
  refine ⟨a, cap, rfl, hle, hmx, ?_⟩
  rcases h with h | ⟨g, o, rfl, hb, hg, hc⟩
  · exact .inl h
  · refine .inr ⟨g, o, rfl, Nat.le_trans hB hb, hg, fun i hi => ?_⟩
    obtain ⟨h0, h1, h2, h3, vc, ve, h4, h5, h6, h7⟩ := hc i hi
    exact ⟨h0, h1, h2, h3, vc, ve, h4, h5, h6.mono hB, h7.mono hB⟩
theorem At.slice {w : World} {B : Nat} {v : Value} {ss : List StepD} (h : At w B v ss) : ∃ a cap, v = .slice a ss.length cap := by
  obtain ⟨a, cap, rfl, _⟩ := h; exact ⟨a, cap, rfl⟩
theorem At.at {w : World} {B : Nat} {a : Option Addr} {n cap : Nat} {ss : List StepD} (h : At w B (.slice a n cap) ss) {i : Nat} (hi : i < ss.length) :
    ∃ g o vc ve, a = some ⟨g, o, none⟩ ∧ g < w.heap.size ∧ w.cell? ⟨g, o + i * 6, none⟩ = some (.int .i64 ss[i].kind) ∧ w.cell? ⟨g, o + i * 6 + 1, none⟩ = some (.int .i64 ss[i].parent) ∧ w.cell? ⟨g, o + i * 6 + 2, none⟩ = some (.string ss[i].name) ∧ w.cell? ⟨g, o + i * 6 + 3, none⟩ = some (.int .i64 ss[i].arg) ∧
      w.cell? ⟨g, o + i * 6 + 4, none⟩ = some vc ∧ w.cell? ⟨g, o + i * 6 + 5, none⟩ = some ve ∧ Nd.At w B vc ss[i].cond ∧ Nd.At w B ve ss[i].expr := by
  obtain ⟨a', cap', e, _, _, h⟩ := h
  cases e
  rcases h with h | ⟨g, o, rfl, _, hg, hc⟩
  · subst h; simp at hi
  · obtain ⟨h0, h1, h2, h3, vc, ve, h4⟩ := hc i hi
    exact ⟨g, o, vc, ve, rfl, hg, h0, h1, h2, h3, h4⟩
theorem At.cap {w : World} {B : Nat} {a : Option Addr} {n cap : Nat} {ss : List StepD} (h : At w B (.slice a n cap) ss) : ss.length ≤ cap ∧ cap ≤ maxLen := by
  obtain ⟨a', cap', e, h1, h2, _⟩ := h; cases e; exact ⟨h1, h2⟩
/-- No part of it is longer than it can be. -/
def Ok (ss : List StepD) : Prop := ∀ s ∈ ss, s.name.size ≤ maxLen ∧ s.cond.length ≤ maxLen ∧ s.expr.length ≤ maxLen
/-- All of it is within a bound. -/
def Small1 (n : Int) (s : StepD) : Prop := (s.name.size : Int) ≤ n ∧ (s.cond.length : Int) ≤ n ∧ (s.expr.length : Int) ≤ n
def Small (n : Int) (ss : List StepD) : Prop := (ss.length : Int) ≤ n ∧ ∀ s ∈ ss, Small1 n s
theorem Small1.mono {m n : Int} {s : StepD} (h : Small1 m s) (hm : m ≤ n) : Small1 n s := ⟨Int.le_trans h.1 hm, Int.le_trans h.2.1 hm, Int.le_trans h.2.2 hm⟩
theorem Small.at {n : Int} {ss : List StepD} (h : Small n ss) {i : Nat} (hi : i < ss.length) : Small1 n ss[i] := h.2 _ (List.getElem_mem hi)
set_option maxRecDepth 100000 in
set_option maxHeartbeats 1000000 in
theorem szOne (B : Nat) (x : StepD) (vc ve : Value) (n : Int) (w : World) (h0 : 0 ≤ n) (hn : n ≤ 1048576) (h1 : x.name.size ≤ maxLen) (h2 : x.cond.length ≤ maxLen) (h3 : x.expr.length ≤ maxLen) (hc : Nd.At w B vc x.cond) (he : Nd.At w B ve x.expr) :
    Calls Tryz.prog 13 #[.agg #[.int .i64 x.kind, .int .i64 x.parent, .string x.name, .int .i64 x.arg, vc, ve], .int .i64 n] w fun e w' => (∃ r : Int, e = .returned (.int .i64 r) ∧ -1 ≤ r ∧ r ≤ n ∧ (0 ≤ r → Small1 n x)) ∧ Below w.heap.size w w' := by
  unfold maxLen at h1
  obtain ⟨a, cap, rfl⟩ := hc.slice
  obtain ⟨a2, cap2, rfl⟩ := he.slice
  have HC := hid hc
  have HE := hid he
  clear hc he
  have hB : Below w.heap.size w (w.alloc (.cells #[.int .i64 x.kind, .int .i64 x.parent, .string x.name, .int .i64 x.arg, .slice a x.cond.length cap, .slice a2 x.expr.length cap2] 41)) := (Below.refl _ w).alloc (Nat.le_refl _) _
  have HC2 := hid (HC.out.below hB)
  have HE2 := hid (HE.out.below hB)
  clear HC HE
  by_cases q1 : n - (x.name.size : Int) < 0
  · go_enter Tryz.func13, Tryz.ntmps13
    go_wp2
    go_ret
    exact ⟨⟨-1, rfl, by omega, by omega, by omega⟩, hB⟩
  · go_enter Tryz.func13, Tryz.ntmps13
    go_wp2_with fail
    refine (Nd.szS x.cond _ (n - x.name.size) B _ (by omega) (by omega) h2 HC2.out).mono ?_
    rintro e w1 ⟨⟨r, rfl, hr1, hr2, hr3⟩, rfl⟩
    by_cases hr : r < 0
    · go_wp2
      go_ret
      exact ⟨⟨-1, rfl, by omega, by omega, by omega⟩, hB⟩
    · have hr3' := hr3 (by omega)
      clear hr3
      go_wp2_with fail
      refine (Nd.szS x.expr _ r B _ (by omega) (by omega) h3 HE2.out).mono ?_
      rintro e w1 ⟨⟨r2, rfl, hr4, hr5, hr6⟩, rfl⟩
      by_cases hr' : r2 < 0
      · go_wp2
        go_ret
        exact ⟨⟨-1, rfl, by omega, by omega, by omega⟩, hB⟩
      · have hr6' := hr6 (by omega)
        clear hr6
        go_wp2
        go_ret
        exact ⟨⟨r2, rfl, by omega, by omega, fun _ => ⟨by omega, by omega, by omega⟩⟩, hB⟩
set_option maxRecDepth 100000 in
set_option maxHeartbeats 1000000 in
theorem szS (B : Nat) (ss : List StepD) (v : Value) (n : Int) (w : World) (h0 : 0 ≤ n) (hn : n ≤ 1048576) (hl : ss.length ≤ maxLen) (hk : Ok ss) (ha : At w B v ss) :
    Calls Tryz.prog 4 #[v, .int .i64 n] w fun e w' => (∃ r : Int, e = .returned (.int .i64 r) ∧ -1 ≤ r ∧ r ≤ n ∧ (0 ≤ r → Small n ss)) ∧ Below w.heap.size w w' := by
  obtain ⟨a, cap, rfl⟩ := ha.slice
  have HA := hid ha
  have HK := hid hk
  clear ha hk
  unfold maxLen at hl
  by_cases q1 : n - (ss.length : Int) < 0
  · go_enter Tryz.func4, Tryz.ntmps4
    go_wp2
    go_ret
    exact ⟨⟨-1, rfl, by omega, by omega, by omega⟩, Below.refl _ _⟩
  · go_enter Tryz.func4, Tryz.ntmps4
    go_wp2
    go_loopw [1, 5] (fun m i wr => ∃ (k : Nat) (z : Int), i = .int .i64 k ∧ m = .int .i64 z ∧ 0 ≤ z ∧ z ≤ n ∧ k ≤ ss.length ∧ Hid (∀ j (h : j < ss.length), j < k → Small1 n ss[j]) ∧ Below w.heap.size w wr) (fun _ i _ => ss.length - (intOf i).toNat)
    case atStart => exact ⟨0, _, rfl, rfl, by omega, by omega, Nat.zero_le _, fun j _ h => by omega, Below.refl _ _⟩
    case round =>
      obtain ⟨k, z, rfl, rfl, hz0, hzn, hkl, HJ, hbel⟩ := hrel
      by_cases hlt : k < ss.length
      · obtain ⟨g, o, vc, ve, rfl, hg, c0, c1, c2, c3, c4, c5, hvc, hve⟩ := (HA.out.below hbel).at hlt
        obtain ⟨a2, cap2, rfl⟩ := hvc.slice
        obtain ⟨a3, cap3, rfl⟩ := hve.slice
        have HV := hid hvc
        have HE := hid hve
        clear hvc hve
        have hke := HK.out ss[k] (List.getElem_mem hlt)
        have hke1 := hke.1
        have hke2 := hke.2.1
        have hke3 := hke.2.2
        clear hke
        have q1 : (k : Int) < (ss.length : Int) := by omega
        go_wp2_with fail
        refine (szOne B ss[k] _ _ z _ hz0 (by omega) hke1 hke2 hke3 HV.out HE.out).mono ?_
        rintro e w1 ⟨⟨r, rfl, hr1, hr2, hr3⟩, hb1⟩
        have hB := hbel.trans (hb1.mono hbel.size)
        by_cases hr : r < 0
        · go_wp2
          go_ret
          exact ⟨⟨-1, rfl, by omega, by omega, by omega⟩, hB⟩
        · have HJ2 : Hid (∀ j (h : j < ss.length), j < k + 1 → Small1 n ss[j]) := hid (fun j h hj => by
            by_cases e : j = k
            · subst e
              exact (hr3 (by omega)).mono hzn
            · exact HJ.out j h (by omega))
          go_wp2
          exact ⟨⟨k + 1, r, by simp, rfl, by omega, by omega, by omega, HJ2, hB⟩, by simp [intOf]; omega⟩
      · have HJ2 : Hid (Small n ss) := hid ⟨by omega, fun x hx => by
          obtain ⟨j, hj, rfl⟩ := List.getElem_of_mem hx
          exact HJ.out j hj (by omega)⟩
        go_wp2
        go_ret
        exact ⟨⟨z, rfl, by omega, by omega, fun _ => HJ2.out⟩, hbel⟩
end St
end Go.Proofs.YtfgckeoigkoflaaGreatDoor
/- Lists of numbers in memory, and what the law does with them: copied, compared. -/
namespace Go.Proofs.YtfgckeoigkoflaaGreatDoor
open Go.RowKit Go.Deep
set_option linter.unusedVariables false
namespace Nu
def At (w : World) (B : Nat) (v : Value) (xs : List Int) : Prop :=
  ∃ a cap, v = .slice a xs.length cap ∧ xs.length ≤ cap ∧ cap ≤ maxLen ∧ (xs = [] ∨ ∃ g o, a = some ⟨g, o, none⟩ ∧ B ≤ g ∧ g < w.heap.size ∧ ∀ i (h : i < xs.length), w.cell? ⟨g, o + i, none⟩ = some (.int .i64 xs[i]))
theorem At.kept {w w' : World} {B : Nat} {v : Value} {xs : List Int} (h : At w B v xs) (hs : w.heap.size ≤ w'.heap.size) (hb : ∀ g, B ≤ g → g < w.heap.size → w'.heap[g]? = w.heap[g]?) : At w' B v xs := by
  obtain ⟨a, cap, rfl, hle, hmx, h⟩ := h
  refine ⟨a, cap, rfl, hle, hmx, ?_⟩
  rcases h with h | ⟨g, o, rfl, hB, hg, hc⟩
  · exact .inl h
  · refine .inr ⟨g, o, rfl, hB, Nat.lt_of_lt_of_le hg hs, fun i hi => ?_⟩
    have e : ∀ off, w'.cell? ⟨g, off, none⟩ = w.cell? ⟨g, off, none⟩ := fun off => by simp only [World.cell?, hb g hB hg]
    simp only [e]
    exact hc i hi
theorem At.below {w w' : World} {B : Nat} {v : Value} {xs : List Int} (h : At w B v xs) (hb : Below w.heap.size w w') : At w' B v xs := h.kept hb.size (fun g _ hg => hb.block g hg)
theorem At.setBelow {w : World} {B : Nat} {v : Value} {xs : List Int} (h : At w B v xs) {b o : Nat} (ha : b < B) (x : Value) : At (w.setCell ⟨b, o, none⟩ x) B v xs :=
  h.kept (by simp [World.setCell]) (fun g hg _ => Below.heap_setCell _ _ _ _ (by dsimp only; omega))
theorem At.mono {w : World} {B B' : Nat} {v : Value} {xs : List Int} (h : At w B v xs) (hB : B' ≤ B) : At w B' v xs := by
  obtain ⟨a, cap, rfl, hle, hmx, h⟩ := h
  refine ⟨a, cap, rfl, hle, hmx, ?_⟩
  rcases h with h | ⟨g, o, rfl, hb, hg, hc⟩
  · exact .inl h
  · exact .inr ⟨g, o, rfl, Nat.le_trans hB hb, hg, hc⟩
theorem At.slice {w : World} {B : Nat} {v : Value} {xs : List Int} (h : At w B v xs) : ∃ a cap, v = .slice a xs.length cap := by
  obtain ⟨a, cap, rfl, _⟩ := h; exact ⟨a, cap, rfl⟩
theorem At.at {w : World} {B : Nat} {a : Option Addr} {n cap : Nat} {xs : List Int} (h : At w B (.slice a n cap) xs) {i : Nat} (hi : i < xs.length) :
    ∃ g o, a = some ⟨g, o, none⟩ ∧ g < w.heap.size ∧ w.cell? ⟨g, o + i, none⟩ = some (.int .i64 xs[i]) := by
  obtain ⟨a', cap', e, _, _, h⟩ := h
  cases e
  rcases h with h | ⟨g, o, rfl, _, hg, hc⟩
  · subst h; simp at hi
  · exact ⟨g, o, rfl, hg, hc i hi⟩
theorem At.cap {w : World} {B : Nat} {a : Option Addr} {n cap : Nat} {xs : List Int} (h : At w B (.slice a n cap) xs) : xs.length ≤ cap ∧ cap ≤ maxLen := by
  obtain ⟨a', cap', e, h1, h2, _⟩ := h; cases e; exact ⟨h1, h2⟩
theorem cellsOne : Tryz.prog.cellsOf 2 = 1 := by kernel_rfl
theorem cellsI64 : Tryz.prog.cellsOf 2 = 1 := by kernel_rfl
section
variable {H : Type} {enc : TypeId × Value → H} {w : World} {base : Nat} {spare : Nat → Bool} {held : Bool} {fuel : Nat}
theorem add_add (a : Addr) (x y : Nat) : (a.add x).add y = a.add (x + y) := by
  unfold Addr.add
  by_cases hx : x = 0
  · simp [hx]
  · by_cases hy : y = 0
    · simp [hy]
    · simp [hx, hy, Nat.add_assoc]
theorem lt_of_cell {a : Addr} {v : Value} (h : w.cell? a = some v) : a.block < w.heap.size := by
  rcases Nat.lt_or_ge a.block w.heap.size with h1 | h1
  · exact h1
  · simp [World.cell?, Array.getElem?_eq_none h1] at h
set_option maxRecDepth 100000 in
theorem open_one {cs : List Value} {x : DataW H × List MemPlace} (h : DataW.trod enc Tryz.prog w base spare held fuel 2 cs = some x) : ∃ e : Int, cs = [.int .i64 e] := by
  obtain ⟨n1, e1, _, _⟩ := DataW.trod_int Tryz.underlying2 h
  exact ⟨n1, e1⟩
set_option maxRecDepth 100000 in
theorem open_all {v : Value} {x : DataW H × List MemPlace} (h : DataW.trod enc Tryz.prog w base spare held fuel 57 [v] = some x) :
    ∃ es, At w 0 v es ∧ es.length ≤ maxLen := by
  rcases open_slice Tryz.underlying57 h with ⟨hcs, _⟩ | ⟨a, len, cap, m, n, D, Pl, hcs, hb, hl, hcm, hm, _, hx⟩
  · obtain rfl : v = .slice none 0 0 := by simpa using hcs
    exact ⟨[], ⟨none, 0, rfl, Nat.le_refl _, Nat.zero_le _, .inl rfl⟩, Nat.zero_le _⟩
  · obtain rfl : v = .slice (some a) len cap := by simpa using hcs
    have hlm : len ≤ m := by rw [hm]; split <;> omega
    rw [cellsI64] at hx
    have each : ∀ i, i < len → ∃ q : Int, w.cell? (a.add (i * 1)) = some (.int .i64 q) := fun i hi => by
      obtain ⟨cs', c0, d0⟩ := hx i (by omega)
      obtain ⟨e, rfl⟩ := open_one d0
      obtain ⟨_, _, hc⟩ := World.cells?_some c0
      have k0 := hc 0 (by omega)
      rw [add_add] at k0
      exact ⟨e, k0⟩
    haveI : Inhabited Int := ⟨0⟩
    obtain ⟨F, hF⟩ := choose_lt each
    refine ⟨(List.range len).map F, ?_, by simp; omega⟩
    refine ⟨some a, cap, by simp, by simpa using hl, hcm, ?_⟩
    rcases Nat.eq_zero_or_pos len with h0 | h0
    · exact .inl (by simp [h0])
    · right
      obtain ⟨b, off, spot⟩ := a
      have hspot : spot = none := by simpa [Addr.add] using World.cell?_spot (hF 0 h0)
      subst hspot
      refine ⟨b, off, rfl, Nat.zero_le _, lt_of_cell (hF 0 h0), fun i hi => ?_⟩
      have hi' : i < len := by simpa using hi
      have h2 := hF i hi'
      simp only [List.getElem_map, List.getElem_range]
      simpa [Go.WideShapes.add_plain] using h2
end
theorem infoOne : (Tryz.prog.info? 2).map (fun i => (i.zero, i.size, i.bytes)) = some (some (Value.int .i64 0), 1, 8) := by kernel_rfl
theorem make_row {P : Program} {t e : TypeId} {z : Value} {sz bytes : Nat} (ht : P.underlying t = some (.slice e)) (hinfo : (P.info? e).map (fun i => (i.zero, i.size, i.bytes)) = some (some z, sz, bytes))
    (n : Nat) (hb : bytes * n ≤ 281474976710656) (hn : n ≤ 9223372036854775807) (w : World) :
    (Instr.makeSlice t (.int .i64 (n : Int)) (.int .i64 (n : Int))).run P w = .ok (.slice (some ⟨w.heap.size, 0, none⟩) n n) (w.alloc (.cells (madeCells z.cells (n * sz)) e)) := by
  cases hi : P.info? e with
  | none => rw [hi] at hinfo; cases hinfo
  | some i =>
    rw [hi] at hinfo
    simp only [Option.map_some, Option.some.injEq, Prod.mk.injEq] at hinfo
    obtain ⟨h1, h2, h3⟩ := hinfo
    have hb' : (i.bytes : Int) * (n : Int) ≤ 281474976710656 := by
      have h : ((i.bytes * n : Nat) : Int) ≤ 281474976710656 := by rw [h3]; omega
      rwa [Int.natCast_mul] at h
    have h := run_make (P := P) w t e i z ht hi h1 .i64 .i64 n n (by omega) (Int.le_refl _) hb' (by omega)
    rw [h2] at h
    simpa using h
theorem made_row (w : World) (z : Array Value) (n : Nat) (e : TypeId) : ∃ f, (w.alloc (.cells (madeCells z n) e)).rowIs w.heap.size e n f := by
  have h := World.rowIs_alloc w (madeCells z n) e (fun i => (madeCells z n)[i]!) (fun i hi => by simp [hi])
  rw [size_madeCells] at h
  exact ⟨_, h⟩
/-- A row that may be written into, between two blocks. -/
def Own (w : World) (B C : Nat) (v : Value) (m : Nat) : Prop := ∃ g f, v = .slice (some ⟨g, 0, none⟩) m m ∧ B ≤ g ∧ g < C ∧ w.rowIs g 2 (m * 1) f
theorem row_at {w : World} {g : Nat} {t : TypeId} {f : Nat → Value} {xs : List Int} (h : w.rowIs g t (xs.length * 1) f)
    (hf : ∀ j (hj : j < xs.length), f (j) = .int .i64 xs[j]) (cap : Nat) (hc : xs.length ≤ cap) (hm : cap ≤ maxLen) : At w g (.slice (some ⟨g, 0, none⟩) xs.length cap) xs := by
  refine ⟨_, _, rfl, hc, hm, .inr ⟨g, 0, rfl, Nat.le_refl _, h.lt, fun i hi => ?_⟩⟩
  have h1 := hf i hi
  simp only [Nat.zero_add]
  rw [← h1]; exact h.cell (by omega)
theorem setOne {w : World} {g : Nat} {t : TypeId} {k : Nat} {f : Nat → Value} {xs : List Int} (h : w.rowIs g t (xs.length * 1) f)
    (hf : ∀ j (hj : j < xs.length), j < k → f (j) = .int .i64 xs[j]) (hk : k < xs.length) :
    ∃ f', (w.setCell ⟨g, k, none⟩ (.int .i64 xs[k])).rowIs g t (xs.length * 1) f' ∧ ∀ j (hj : j < xs.length), j < k + 1 → f' (j) = .int .i64 xs[j] := by
  refine ⟨_, (h.set (k) _), fun j hj hjk => ?_⟩
  by_cases e : j = k
  · subst e
    simp
  · have h1 := hf j hj (by omega)
    have n00 : ¬ j = k := by omega
    simp only [n00, if_false]
    exact h1
end Nu
end Go.Proofs.YtfgckeoigkoflaaGreatDoor
/- The specification's small functions of expressions. -/
namespace Go.Proofs.YtfgckeoigkoflaaGreatDoor
open Go.RowKit
set_option linter.unusedVariables false
namespace Ex
open Nd (NodeD)
set_option maxRecDepth 100000 in
set_option maxHeartbeats 400000 in
theorem specIn (v a b : Int) (w : World) : Calls Tryz.prog 56 #[.int .i64 v, .int .i64 a, .int .i64 b] w fun e w' => e = .returned (.bool (inR v a b)) ∧ w' = w := by
  unfold inR
  by_cases h1 : a ≤ v
  · by_cases h2 : v ≤ b
    · go_enter Tryz.func56, Tryz.ntmps56
      go_wp2
      go_ret
      exact ⟨by simp [h1, h2], rfl⟩
    · go_enter Tryz.func56, Tryz.ntmps56
      go_wp2
      go_ret
      exact ⟨by simp [h2], rfl⟩
  · go_enter Tryz.func56, Tryz.ntmps56
    go_wp2
    go_ret
    exact ⟨by simp; omega, rfl⟩
set_option maxRecDepth 100000 in
set_option maxHeartbeats 400000 in
theorem specTwo (k : Int) (w : World) : Calls Tryz.prog 101 #[.int .i64 k] w fun e w' => e = .returned (.bool (two k)) ∧ w' = w := by
  have HI := hid (fun w' => specIn k 3 9 w')
  go_enter Tryz.func101, Tryz.ntmps101
  go_wp2_with (go_at_call 56; refine (HI.out _).mono ?_; rintro e w' ⟨rfl, rfl⟩)
  go_ret
  exact ⟨rfl, rfl⟩
end Ex
end Go.Proofs.YtfgckeoigkoflaaGreatDoor
/- The specification's look at one node. -/
namespace Go.Proofs.YtfgckeoigkoflaaGreatDoor
open Go.RowKit
set_option linter.unusedVariables false
namespace Ex
open Nd (NodeD)
set_option maxRecDepth 100000 in
set_option maxHeartbeats 4000000 in
theorem specNode (n : NodeD) (i : Int) (g off : Nat) (w : World) (hi : 0 ≤ i) (hi2 : i ≤ 1000000) (c0 : w.cell? ⟨g, off, none⟩ = some (.int .i64 n.kind)) (c1 : w.cell? ⟨g, off + 1, none⟩ = some (.int .i64 n.value)) (c2 : w.cell? ⟨g, off + 2, none⟩ = some (.int .i64 n.left)) (c3 : w.cell? ⟨g, off + 3, none⟩ = some (.int .i64 n.right)) :
    Calls Tryz.prog 88 #[.pointer (some ⟨g, off, none⟩), .int .i64 i] w fun e w' => e = .returned (.int .i64 (nCode n i)) ∧ w' = w := by
  generalize hk : n.kind = kind at *
  generalize hv : n.value = value at *
  generalize hl : n.left = left at *
  generalize hr : n.right = right at *
  cases h0 : inR kind 1 10
  · skip
    have HV := hid (n_kind (n := n) (i := i) (by rw [hk]; exact h0))
    clear hk hv hl hr 
    go_enter Tryz.func88, Tryz.ntmps88
    go_wp2_with (first | (go_at_call 56; refine (specIn _ _ _ _).mono ?_; rintro e w1 ⟨rfl, rfl⟩; try rw [h0]) | (go_at_call 101; refine (specTwo _ _).mono ?_; rintro e w1 ⟨rfl, rfl⟩; try rw [tt]))
    go_ret
    exact ⟨by rw [HV.out]; rfl, rfl⟩
  · skip
    have hb := inR_iff.1 h0
    have N1 : (kind == 10) = true ∨ (kind == 10) = false := by cases (kind == 10) <;> simp
    by_cases hle : kind ≤ 2
    · have t10 : (kind == 10) = false := beq_eq_false_iff_ne.2 (by omega)
      have tt : two kind = false := inR_not.2 (by omega)
      cases b1 : (left != 0)
      · cases b2 : (right != 0)
        · by_cases k1 : kind = 1
          · have t1 : (kind == 1) = true := beq_iff_eq.2 k1
            have t2 : (kind == 2) = false := beq_eq_false_iff_ne.2 (by omega)
            cases b3 : inR value 0 9999
            · skip
              have HV := hid (n_wide (n := n) (i := i) (by rw [hk]; exact h0) (by simp [has, hk, hv, hl, hr, hle, t10, b1, b2]) (by simp [wide, hk, hv, t1, b3]))
              clear hk hv hl hr k1 hb N1
              go_enter Tryz.func88, Tryz.ntmps88
              go_wp2_with (first | (go_at_call 56; refine (specIn _ _ _ _).mono ?_; rintro e w1 ⟨rfl, rfl⟩; try rw [b3]; try rw [h0]) | (go_at_call 101; refine (specTwo _ _).mono ?_; rintro e w1 ⟨rfl, rfl⟩; try rw [tt]))
              go_ret
              exact ⟨by rw [HV.out]; rfl, rfl⟩
            · skip
              have HV := hid (n_ok (n := n) (i := i) (by rw [hk]; exact h0) (by simp [has, hk, hv, hl, hr, hle, t10, b1, b2]) (by simp [wide, hk, hv, t1, t2, b3]) (by simp [far, hk, hle, tt]))
              clear hk hv hl hr k1 hb N1
              go_enter Tryz.func88, Tryz.ntmps88
              go_wp2_with (first | (go_at_call 56; refine (specIn _ _ _ _).mono ?_; rintro e w1 ⟨rfl, rfl⟩; try rw [b3]; try rw [h0]) | (go_at_call 101; refine (specTwo _ _).mono ?_; rintro e w1 ⟨rfl, rfl⟩; try rw [tt]))
              go_ret
              exact ⟨by rw [HV.out]; rfl, rfl⟩
          · have t1 : (kind == 1) = false := beq_eq_false_iff_ne.2 k1
            have t2 : (kind == 2) = true := beq_iff_eq.2 (by omega)
            cases b3 : inR value 0 3
            · skip
              have HV := hid (n_wide (n := n) (i := i) (by rw [hk]; exact h0) (by simp [has, hk, hv, hl, hr, hle, t10, b1, b2]) (by simp [wide, hk, hv, t1, t2, b3]))
              clear hk hv hl hr k1 hb N1
              go_enter Tryz.func88, Tryz.ntmps88
              go_wp2_with (first | (go_at_call 56; refine (specIn _ _ _ _).mono ?_; rintro e w1 ⟨rfl, rfl⟩; try rw [b3]; try rw [h0]) | (go_at_call 101; refine (specTwo _ _).mono ?_; rintro e w1 ⟨rfl, rfl⟩; try rw [tt]))
              go_ret
              exact ⟨by rw [HV.out]; rfl, rfl⟩
            · skip
              have HV := hid (n_ok (n := n) (i := i) (by rw [hk]; exact h0) (by simp [has, hk, hv, hl, hr, hle, t10, b1, b2]) (by simp [wide, hk, hv, t1, t2, b3]) (by simp [far, hk, hle, tt]))
              clear hk hv hl hr k1 hb N1
              go_enter Tryz.func88, Tryz.ntmps88
              go_wp2_with (first | (go_at_call 56; refine (specIn _ _ _ _).mono ?_; rintro e w1 ⟨rfl, rfl⟩; try rw [b3]; try rw [h0]) | (go_at_call 101; refine (specTwo _ _).mono ?_; rintro e w1 ⟨rfl, rfl⟩; try rw [tt]))
              go_ret
              exact ⟨by rw [HV.out]; rfl, rfl⟩
        · skip
          have HV := hid (n_has (n := n) (i := i) (by rw [hk]; exact h0) (by simp [has, hk, hv, hl, hr, hle, b1, b2]))
          clear hk hv hl hr hb N1
          go_enter Tryz.func88, Tryz.ntmps88
          go_wp2_with (first | (go_at_call 56; refine (specIn _ _ _ _).mono ?_; rintro e w1 ⟨rfl, rfl⟩; try rw [h0]) | (go_at_call 101; refine (specTwo _ _).mono ?_; rintro e w1 ⟨rfl, rfl⟩; try rw [tt]))
          go_ret
          exact ⟨by rw [HV.out]; rfl, rfl⟩
      · skip
        have HV := hid (n_has (n := n) (i := i) (by rw [hk]; exact h0) (by simp [has, hk, hv, hl, hr, hle, b1]))
        clear hk hv hl hr hb N1
        go_enter Tryz.func88, Tryz.ntmps88
        go_wp2_with (first | (go_at_call 56; refine (specIn _ _ _ _).mono ?_; rintro e w1 ⟨rfl, rfl⟩; try rw [h0]) | (go_at_call 101; refine (specTwo _ _).mono ?_; rintro e w1 ⟨rfl, rfl⟩; try rw [tt]))
        go_ret
        exact ⟨by rw [HV.out]; rfl, rfl⟩
    · have t1 : (kind == 1) = false := beq_eq_false_iff_ne.2 (by omega)
      have t2 : (kind == 2) = false := beq_eq_false_iff_ne.2 (by omega)
      cases b1 : (value != 0)
      · by_cases k10 : kind = 10
        · have t10 : (kind == 10) = true := beq_iff_eq.2 k10
          have tt : two kind = false := inR_not.2 (by omega)
          cases b2 : (right != 0)
          · cases b3 : inR left 0 (i - 1)
            · skip
              have HV := hid (n_far (n := n) (i := i) (by rw [hk]; exact h0) (by simp [has, hk, hv, hl, hr, hle, t10, b1, b2]) (by simp [wide, hk, hv, t1, t2]) (by simp [far, hk, hl, hle, b3]))
              clear hk hv hl hr k10 hb N1
              go_enter Tryz.func88, Tryz.ntmps88
              go_wp2_with (first | (go_at_call 56; refine (specIn _ _ _ _).mono ?_; rintro e w1 ⟨rfl, rfl⟩; try rw [b3]; try rw [h0]) | (go_at_call 101; refine (specTwo _ _).mono ?_; rintro e w1 ⟨rfl, rfl⟩; try rw [tt]))
              go_ret
              exact ⟨by rw [HV.out]; rfl, rfl⟩
            · skip
              have HV := hid (n_ok (n := n) (i := i) (by rw [hk]; exact h0) (by simp [has, hk, hv, hl, hr, hle, t10, b1, b2]) (by simp [wide, hk, hv, t1, t2]) (by simp [far, hk, hl, hle, b3, tt]))
              clear hk hv hl hr k10 hb N1
              go_enter Tryz.func88, Tryz.ntmps88
              go_wp2_with (first | (go_at_call 56; refine (specIn _ _ _ _).mono ?_; rintro e w1 ⟨rfl, rfl⟩; try rw [b3]; try rw [h0]) | (go_at_call 101; refine (specTwo _ _).mono ?_; rintro e w1 ⟨rfl, rfl⟩; try rw [tt]))
              go_ret
              exact ⟨by rw [HV.out]; rfl, rfl⟩
          · skip
            have HV := hid (n_has (n := n) (i := i) (by rw [hk]; exact h0) (by simp [has, hk, hv, hl, hr, hle, t10, b1, b2]))
            clear hk hv hl hr k10 hb N1
            go_enter Tryz.func88, Tryz.ntmps88
            go_wp2_with (first | (go_at_call 56; refine (specIn _ _ _ _).mono ?_; rintro e w1 ⟨rfl, rfl⟩; try rw [h0]) | (go_at_call 101; refine (specTwo _ _).mono ?_; rintro e w1 ⟨rfl, rfl⟩; try rw [tt]))
            go_ret
            exact ⟨by rw [HV.out]; rfl, rfl⟩
        · have t10 : (kind == 10) = false := beq_eq_false_iff_ne.2 k10
          have tt : two kind = true := inR_iff.2 (by omega)
          cases b3 : inR left 0 (i - 1)
          · skip
            have HV := hid (n_far (n := n) (i := i) (by rw [hk]; exact h0) (by simp [has, hk, hv, hl, hr, hle, t10, b1]) (by simp [wide, hk, hv, t1, t2]) (by simp [far, hk, hl, hle, b3]))
            clear hk hv hl hr k10 hb N1
            go_enter Tryz.func88, Tryz.ntmps88
            go_wp2_with (first | (go_at_call 56; refine (specIn _ _ _ _).mono ?_; rintro e w1 ⟨rfl, rfl⟩; try rw [b3]; try rw [h0]) | (go_at_call 101; refine (specTwo _ _).mono ?_; rintro e w1 ⟨rfl, rfl⟩; try rw [tt]))
            go_ret
            exact ⟨by rw [HV.out]; rfl, rfl⟩
          · skip
            cases b4 : inR right 0 (i - 1)
            · skip
              have HV := hid (n_far (n := n) (i := i) (by rw [hk]; exact h0) (by simp [has, hk, hv, hl, hr, hle, t10, b1]) (by simp [wide, hk, hv, t1, t2]) (by simp [far, hk, hl, hr, hle, b3, b4, tt]))
              clear hk hv hl hr k10 hb N1
              go_enter Tryz.func88, Tryz.ntmps88
              go_wp2_with (first | (go_at_call 56; refine (specIn _ _ _ _).mono ?_; rintro e w1 ⟨rfl, rfl⟩; try rw [b3]; try rw [b4]; try rw [h0]) | (go_at_call 101; refine (specTwo _ _).mono ?_; rintro e w1 ⟨rfl, rfl⟩; try rw [tt]))
              go_ret
              exact ⟨by rw [HV.out]; rfl, rfl⟩
            · skip
              have HV := hid (n_ok (n := n) (i := i) (by rw [hk]; exact h0) (by simp [has, hk, hv, hl, hr, hle, t10, b1]) (by simp [wide, hk, hv, t1, t2]) (by simp [far, hk, hl, hr, hle, b3, b4, tt]))
              clear hk hv hl hr k10 hb N1
              go_enter Tryz.func88, Tryz.ntmps88
              go_wp2_with (first | (go_at_call 56; refine (specIn _ _ _ _).mono ?_; rintro e w1 ⟨rfl, rfl⟩; try rw [b3]; try rw [b4]; try rw [h0]) | (go_at_call 101; refine (specTwo _ _).mono ?_; rintro e w1 ⟨rfl, rfl⟩; try rw [tt]))
              go_ret
              exact ⟨by rw [HV.out]; rfl, rfl⟩
      · skip
        have HV := hid (n_has (n := n) (i := i) (by rw [hk]; exact h0) (by simp [has, hk, hv, hl, hr, hle, b1]))
        clear hk hv hl hr hb N1
        go_enter Tryz.func88, Tryz.ntmps88
        go_wp2_with (first | (go_at_call 56; refine (specIn _ _ _ _).mono ?_; rintro e w1 ⟨rfl, rfl⟩; try rw [h0]) | (go_at_call 101; refine (specTwo _ _).mono ?_; rintro e w1 ⟨rfl, rfl⟩; try rw [tt]))
        go_ret
        exact ⟨by rw [HV.out]; rfl, rfl⟩
end Ex
end Go.Proofs.YtfgckeoigkoflaaGreatDoor
