/- Rows of records (GNode) in memory, and the law's measure of them. -/
import Derived.Test.YtepfkfhbkbkepaaDoorRcB
namespace Go.Proofs.YtepfkfhbkbkepaaDoor
open Go.RowKit Go.Deep
set_option linter.unusedVariables false
namespace Gn
open Ex (hid)
open Nd (NodeD)
open Rc
structure GNodeD where
  kind : Int
  step : Int
  name : ByteArray
  arg : Int
  expr : List NodeD
def At (w : World) (B : Nat) (v : Value) (ss : List GNodeD) : Prop :=
  ∃ a cap, v = .slice a ss.length cap ∧ ss.length ≤ cap ∧ cap ≤ maxLen ∧ (ss = [] ∨ ∃ g o, a = some ⟨g, o, none⟩ ∧ B ≤ g ∧ g < w.heap.size ∧
    ∀ i (h : i < ss.length), w.cell? ⟨g, o + i * 5, none⟩ = some (.int .i64 ss[i].kind) ∧ w.cell? ⟨g, o + i * 5 + 1, none⟩ = some (.int .i64 ss[i].step) ∧ w.cell? ⟨g, o + i * 5 + 2, none⟩ = some (.string ss[i].name) ∧ w.cell? ⟨g, o + i * 5 + 3, none⟩ = some (.int .i64 ss[i].arg) ∧ ∃ vx, w.cell? ⟨g, o + i * 5 + 4, none⟩ = some vx ∧ Nd.At w B vx ss[i].expr)
theorem At.kept {w w' : World} {B : Nat} {v : Value} {ss : List GNodeD} (h : At w B v ss) (hs : w.heap.size ≤ w'.heap.size) (hb : ∀ g, B ≤ g → g < w.heap.size → w'.heap[g]? = w.heap[g]?) : At w' B v ss := by
  obtain ⟨a, cap, rfl, hle, hmx, h⟩ := h
  refine ⟨a, cap, rfl, hle, hmx, ?_⟩
  rcases h with h | ⟨g, o, rfl, hB, hg, hc⟩
  · exact .inl h
  · refine .inr ⟨g, o, rfl, hB, Nat.lt_of_lt_of_le hg hs, fun i hi => ?_⟩
    have e : ∀ off, w'.cell? ⟨g, off, none⟩ = w.cell? ⟨g, off, none⟩ := fun off => by simp only [World.cell?, hb g hB hg]
    obtain ⟨h0, h1, h2, h3, vx, hx, hy⟩ := hc i hi
    exact ⟨(e _).trans h0, (e _).trans h1, (e _).trans h2, (e _).trans h3, vx, (e _).trans hx, hy.kept hs hb⟩
theorem At.below {w w' : World} {B : Nat} {v : Value} {ss : List GNodeD} (h : At w B v ss) (hb : Below w.heap.size w w') : At w' B v ss := h.kept hb.size (fun g _ hg => hb.block g hg)
theorem At.setBelow {w : World} {B : Nat} {v : Value} {ss : List GNodeD} (h : At w B v ss) {b o : Nat} (ha : b < B) (x : Value) : At (w.setCell ⟨b, o, none⟩ x) B v ss :=
  h.kept (by simp [World.setCell]) (fun g hg _ => Below.heap_setCell _ _ _ _ (by dsimp only; omega))
theorem At.mono {w : World} {B B' : Nat} {v : Value} {ss : List GNodeD} (h : At w B v ss) (hB : B' ≤ B) : At w B' v ss := by
  obtain ⟨a, cap, rfl, hle, hmx, h⟩ := h
  refine ⟨a, cap, rfl, hle, hmx, ?_⟩
  rcases h with h | ⟨g, o, rfl, hb, hg, hc⟩
  · exact .inl h
  · refine .inr ⟨g, o, rfl, Nat.le_trans hB hb, hg, fun i hi => ?_⟩
    obtain ⟨h0, h1, h2, h3, vx, hx, hy⟩ := hc i hi
    exact ⟨h0, h1, h2, h3, vx, hx, hy.mono hB⟩
theorem At.slice {w : World} {B : Nat} {v : Value} {ss : List GNodeD} (h : At w B v ss) : ∃ a cap, v = .slice a ss.length cap := by
  obtain ⟨a, cap, rfl, _⟩ := h; exact ⟨a, cap, rfl⟩
theorem At.at {w : World} {B : Nat} {a : Option Addr} {n cap : Nat} {ss : List GNodeD} (h : At w B (.slice a n cap) ss) {i : Nat} (hi : i < ss.length) :
    ∃ g o vx, a = some ⟨g, o, none⟩ ∧ g < w.heap.size ∧ w.cell? ⟨g, o + i * 5, none⟩ = some (.int .i64 ss[i].kind) ∧ w.cell? ⟨g, o + i * 5 + 1, none⟩ = some (.int .i64 ss[i].step) ∧ w.cell? ⟨g, o + i * 5 + 2, none⟩ = some (.string ss[i].name) ∧ w.cell? ⟨g, o + i * 5 + 3, none⟩ = some (.int .i64 ss[i].arg) ∧ w.cell? ⟨g, o + i * 5 + 4, none⟩ = some vx ∧ Nd.At w B vx ss[i].expr := by
  obtain ⟨a', cap', e, _, _, h⟩ := h
  cases e
  rcases h with h | ⟨g, o, rfl, _, hg, hc⟩
  · subst h; simp at hi
  · obtain ⟨h0, h1, h2, h3, vx, hx⟩ := hc i hi
    exact ⟨g, o, vx, rfl, hg, h0, h1, h2, h3, hx⟩
theorem At.cap {w : World} {B : Nat} {a : Option Addr} {n cap : Nat} {ss : List GNodeD} (h : At w B (.slice a n cap) ss) : ss.length ≤ cap ∧ cap ≤ maxLen := by
  obtain ⟨a', cap', e, h1, h2, _⟩ := h; cases e; exact ⟨h1, h2⟩
theorem At.nil (w : World) (B : Nat) : At w B (.slice none 0 0) [] := ⟨_, _, rfl, Nat.le_refl _, Nat.zero_le _, .inl rfl⟩
/-- No part of it is longer than it can be. -/
def Ok (ss : List GNodeD) : Prop := ∀ s ∈ ss, s.name.size ≤ maxLen ∧ s.expr.length ≤ maxLen
/-- All of it is within a bound. -/
def Small1 (n : Int) (s : GNodeD) : Prop := (s.name.size : Int) ≤ n ∧ (s.expr.length : Int) ≤ n
def Small (n : Int) (ss : List GNodeD) : Prop := (ss.length : Int) ≤ n ∧ ∀ s ∈ ss, Small1 n s
theorem Small1.mono {m n : Int} {s : GNodeD} (h : Small1 m s) (hm : m ≤ n) : Small1 n s := ⟨Int.le_trans h.1 hm, Int.le_trans h.2 hm⟩
theorem Small.at {n : Int} {ss : List GNodeD} (h : Small n ss) {i : Nat} (hi : i < ss.length) : Small1 n ss[i] := h.2 _ (List.getElem_mem hi)
theorem Small.mono {m n : Int} {ss : List GNodeD} (h : Small m ss) (hm : m ≤ n) : Small n ss := ⟨Int.le_trans h.1 hm, fun s hs => (h.2 s hs).mono hm⟩
set_option maxRecDepth 100000 in
set_option maxHeartbeats 1000000 in
theorem szOne (B : Nat) (x : GNodeD) (vx : Value) (n : Int) (w : World) (h0 : 0 ≤ n) (hn : n ≤ 1048576) (h1 : x.name.size ≤ maxLen) (h2 : x.expr.length ≤ maxLen) (hc : Nd.At w B vx x.expr) :
    Calls Tryd.prog 25 #[.agg #[.int .i64 x.kind, .int .i64 x.step, .string x.name, .int .i64 x.arg, vx], .int .i64 n] w fun e w' => (∃ r : Int, e = .returned (.int .i64 r) ∧ -1 ≤ r ∧ r ≤ n ∧ (0 ≤ r → Small1 n x)) ∧ Below w.heap.size w w' := by
  obtain ⟨a, cap, rfl⟩ := hc.slice
  have hB : Below w.heap.size w (w.alloc (.cells #[.int .i64 x.kind, .int .i64 x.step, .string x.name, .int .i64 x.arg, .slice a x.expr.length cap] 71)) := (Below.refl _ w).alloc (Nat.le_refl _) _
  have HC2 := hid (hc.below hB)
  clear hc
  unfold maxLen at h1
  by_cases q1 : n - (x.name.size : Int) < 0
  · go_enter Tryd.func25, Tryd.ntmps25
    go_wp2
    go_ret
    exact ⟨⟨-1, rfl, by omega, by omega, by omega⟩, hB⟩
  · go_enter Tryd.func25, Tryd.ntmps25
    go_wp2_with fail
    refine (Nd.szS x.expr _ (n - x.name.size) B _ (by omega) (by omega) h2 HC2.out).mono ?_
    rintro e w1 ⟨⟨r, rfl, hr1, hr2, hr3⟩, rfl⟩
    by_cases hr : r < 0
    · go_wp2
      go_ret
      exact ⟨⟨-1, rfl, by omega, by omega, by omega⟩, hB⟩
    · have hr3' := hr3 (by omega)
      clear hr3
      go_wp2
      go_ret
      exact ⟨⟨r, rfl, by omega, by omega, fun _ => ⟨by omega, by omega⟩⟩, hB⟩
set_option maxRecDepth 100000 in
set_option maxHeartbeats 1000000 in
theorem szS (B : Nat) (ss : List GNodeD) (v : Value) (n : Int) (w : World) (h0 : 0 ≤ n) (hn : n ≤ 1048576) (hl : ss.length ≤ maxLen) (hk : Ok ss) (ha : At w B v ss) :
    Calls Tryd.prog 10 #[v, .int .i64 n] w fun e w' => (∃ r : Int, e = .returned (.int .i64 r) ∧ -1 ≤ r ∧ r ≤ n ∧ (0 ≤ r → Small n ss)) ∧ Below w.heap.size w w' := by
  obtain ⟨a, cap, rfl⟩ := ha.slice
  have HA := hid ha
  have HK := hid hk
  clear ha hk
  unfold maxLen at hl
  by_cases q1 : n - (ss.length : Int) < 0
  · go_enter Tryd.func10, Tryd.ntmps10
    go_wp2
    go_ret
    exact ⟨⟨-1, rfl, by omega, by omega, by omega⟩, Below.refl _ _⟩
  · go_enter Tryd.func10, Tryd.ntmps10
    go_wp2
    go_loopw [1, 5] (fun m i wr => ∃ (k : Nat) (z : Int), i = .int .i64 k ∧ m = .int .i64 z ∧ 0 ≤ z ∧ z ≤ n ∧ k ≤ ss.length ∧ Hid (∀ j (h : j < ss.length), j < k → Small1 n ss[j]) ∧ Below w.heap.size w wr) (fun _ i _ => ss.length - (intOf i).toNat)
    case atStart => exact ⟨0, _, rfl, rfl, by omega, by omega, Nat.zero_le _, fun j _ h => by omega, Below.refl _ _⟩
    case round =>
      obtain ⟨k, z, rfl, rfl, hz0, hzn, hkl, HJ, hbel⟩ := hrel
      by_cases hlt : k < ss.length
      · obtain ⟨g, o, vx, rfl, hg, c0, c1, c2, c3, cx, hvx⟩ := (HA.out.below hbel).at hlt
        obtain ⟨a2, cap2, rfl⟩ := hvx.slice
        have HV := hid hvx
        clear hvx
        have hke := HK.out ss[k] (List.getElem_mem hlt)
        have hke1 := hke.1
        have hke2 := hke.2
        clear hke
        have q1 : (k : Int) < (ss.length : Int) := by omega
        go_wp2_with fail
        refine (szOne B ss[k] _ z _ hz0 (by omega) hke1 hke2 HV.out).mono ?_
        rintro e w1 ⟨⟨r, rfl, hr1, hr2, hr3⟩, hb1⟩
        have hB := hbel.trans (hb1.mono hbel.size)
        by_cases hr : r < 0
        · go_wp2
          go_ret
          exact ⟨⟨-1, rfl, by omega, by omega, by omega⟩, hB⟩
        · have HJ2 : Hid (∀ j (h : j < ss.length), j < k + 1 → Small1 n ss[j]) := hid (fun j h hj => by
            by_cases e : j = k
            · subst e
              exact (hr3 (by omega)).mono hzn
            · exact HJ.out j h (by omega))
          go_wp2
          exact ⟨⟨k + 1, r, by simp, rfl, by omega, by omega, by omega, HJ2, hB⟩, by simp [intOf]; omega⟩
      · have HJ2 : Hid (Small n ss) := hid ⟨by omega, fun x hx => by
          obtain ⟨j, hj, rfl⟩ := List.getElem_of_mem hx
          exact HJ.out j hj (by omega)⟩
        go_wp2
        go_ret
        exact ⟨⟨z, rfl, by omega, by omega, fun _ => HJ2.out⟩, hbel⟩
end Gn
end Go.Proofs.YtepfkfhbkbkepaaDoor
