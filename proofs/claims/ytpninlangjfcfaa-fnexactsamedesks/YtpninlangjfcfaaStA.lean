/- Lists of steps in memory, and the law's measure of them. -/
import Derived.Test.YtpninlangjfcfaaNd
import Derived.Test.YtpninlangjfcfaaExM
import Derived.Deep.SlicePairs
namespace Go.Proofs.Ytpninlangjfcfaa
open Go.RowKit Go.Deep
set_option linter.unusedVariables false
namespace St
open Ex (hid)
open Nd (NodeD)
structure StepD where
  kind : Int
  parent : Int
  name : ByteArray
  arg : Int
  cond : List NodeD
  expr : List NodeD
def At (w : World) (B : Nat) (v : Value) (ss : List StepD) : Prop :=
  ∃ a cap, v = .slice a ss.length cap ∧ ss.length ≤ cap ∧ cap ≤ maxLen ∧ (ss = [] ∨ ∃ g o, a = some ⟨g, o, none⟩ ∧ B ≤ g ∧ g < w.heap.size ∧
    ∀ i (h : i < ss.length), w.cell? ⟨g, o + i * 6, none⟩ = some (.int .i64 ss[i].kind) ∧ w.cell? ⟨g, o + i * 6 + 1, none⟩ = some (.int .i64 ss[i].parent) ∧ w.cell? ⟨g, o + i * 6 + 2, none⟩ = some (.string ss[i].name) ∧ w.cell? ⟨g, o + i * 6 + 3, none⟩ = some (.int .i64 ss[i].arg) ∧
      ∃ vc ve, w.cell? ⟨g, o + i * 6 + 4, none⟩ = some vc ∧ w.cell? ⟨g, o + i * 6 + 5, none⟩ = some ve ∧ Nd.At w B vc ss[i].cond ∧ Nd.At w B ve ss[i].expr)
theorem At.kept {w w' : World} {B : Nat} {v : Value} {ss : List StepD} (h : At w B v ss) (hs : w.heap.size ≤ w'.heap.size) (hb : ∀ g, B ≤ g → g < w.heap.size → w'.heap[g]? = w.heap[g]?) : At w' B v ss := by
  obtain ⟨a, cap, rfl, hle, hmx, h⟩ := h
  refine ⟨a, cap, rfl, hle, hmx, ?_⟩
  rcases h with h | ⟨g, o, rfl, hB, hg, hc⟩
  · exact .inl h
  · refine .inr ⟨g, o, rfl, hB, Nat.lt_of_lt_of_le hg hs, fun i hi => ?_⟩
    have e : ∀ off, w'.cell? ⟨g, off, none⟩ = w.cell? ⟨g, off, none⟩ := fun off => by simp only [World.cell?, hb g hB hg]
    obtain ⟨h0, h1, h2, h3, vc, ve, h4, h5, h6, h7⟩ := hc i hi
    exact ⟨(e _).trans h0, (e _).trans h1, (e _).trans h2, (e _).trans h3, vc, ve, (e _).trans h4, (e _).trans h5, h6.kept hs hb, h7.kept hs hb⟩
theorem At.below {w w' : World} {B : Nat} {v : Value} {ss : List StepD} (h : At w B v ss) (hb : Below w.heap.size w w') : At w' B v ss := h.kept hb.size (fun g _ hg => hb.block g hg)
theorem At.setBelow {w : World} {B : Nat} {v : Value} {ss : List StepD} (h : At w B v ss) {b o : Nat} (ha : b < B) (x : Value) : At (w.setCell ⟨b, o, none⟩ x) B v ss :=
  h.kept (by simp [World.setCell]) (fun g hg _ => Below.heap_setCell _ _ _ _ (by dsimp only; omega))
theorem At.mono {w : World} {B B' : Nat} {v : Value} {ss : List StepD} (h : At w B v ss) (hB : B' ≤ B) : At w B' v ss := by
  obtain ⟨a, cap, rfl, hle, hmx, h⟩ := h
  refine ⟨a, cap, rfl, hle, hmx, ?_⟩
  rcases h with h | ⟨g, o, rfl, hb, hg, hc⟩
  · exact .inl h
  · refine .inr ⟨g, o, rfl, Nat.le_trans hB hb, hg, fun i hi => ?_⟩
    obtain ⟨h0, h1, h2, h3, vc, ve, h4, h5, h6, h7⟩ := hc i hi
    exact ⟨h0, h1, h2, h3, vc, ve, h4, h5, h6.mono hB, h7.mono hB⟩
theorem At.slice {w : World} {B : Nat} {v : Value} {ss : List StepD} (h : At w B v ss) : ∃ a cap, v = .slice a ss.length cap := by
  obtain ⟨a, cap, rfl, _⟩ := h; exact ⟨a, cap, rfl⟩
theorem At.at {w : World} {B : Nat} {a : Option Addr} {n cap : Nat} {ss : List StepD} (h : At w B (.slice a n cap) ss) {i : Nat} (hi : i < ss.length) :
    ∃ g o vc ve, a = some ⟨g, o, none⟩ ∧ g < w.heap.size ∧ w.cell? ⟨g, o + i * 6, none⟩ = some (.int .i64 ss[i].kind) ∧ w.cell? ⟨g, o + i * 6 + 1, none⟩ = some (.int .i64 ss[i].parent) ∧ w.cell? ⟨g, o + i * 6 + 2, none⟩ = some (.string ss[i].name) ∧ w.cell? ⟨g, o + i * 6 + 3, none⟩ = some (.int .i64 ss[i].arg) ∧
      w.cell? ⟨g, o + i * 6 + 4, none⟩ = some vc ∧ w.cell? ⟨g, o + i * 6 + 5, none⟩ = some ve ∧ Nd.At w B vc ss[i].cond ∧ Nd.At w B ve ss[i].expr := by
  obtain ⟨a', cap', e, _, _, h⟩ := h
  cases e
  rcases h with h | ⟨g, o, rfl, _, hg, hc⟩
  · subst h; simp at hi
  · obtain ⟨h0, h1, h2, h3, vc, ve, h4⟩ := hc i hi
    exact ⟨g, o, vc, ve, rfl, hg, h0, h1, h2, h3, h4⟩
theorem At.cap {w : World} {B : Nat} {a : Option Addr} {n cap : Nat} {ss : List StepD} (h : At w B (.slice a n cap) ss) : ss.length ≤ cap ∧ cap ≤ maxLen := by
  obtain ⟨a', cap', e, h1, h2, _⟩ := h; cases e; exact ⟨h1, h2⟩
/-- No part of it is longer than it can be. -/
def Ok (ss : List StepD) : Prop := ∀ s ∈ ss, s.name.size ≤ maxLen ∧ s.cond.length ≤ maxLen ∧ s.expr.length ≤ maxLen
/-- All of it is within a bound. -/
def Small1 (n : Int) (s : StepD) : Prop := (s.name.size : Int) ≤ n ∧ (s.cond.length : Int) ≤ n ∧ (s.expr.length : Int) ≤ n
def Small (n : Int) (ss : List StepD) : Prop := (ss.length : Int) ≤ n ∧ ∀ s ∈ ss, Small1 n s
theorem Small1.mono {m n : Int} {s : StepD} (h : Small1 m s) (hm : m ≤ n) : Small1 n s := ⟨Int.le_trans h.1 hm, Int.le_trans h.2.1 hm, Int.le_trans h.2.2 hm⟩
theorem Small.at {n : Int} {ss : List StepD} (h : Small n ss) {i : Nat} (hi : i < ss.length) : Small1 n ss[i] := h.2 _ (List.getElem_mem hi)
set_option maxRecDepth 100000 in
set_option maxHeartbeats 1000000 in
theorem szOne (B : Nat) (x : StepD) (vc ve : Value) (n : Int) (w : World) (h0 : 0 ≤ n) (hn : n ≤ 1048576) (h1 : x.name.size ≤ maxLen) (h2 : x.cond.length ≤ maxLen) (h3 : x.expr.length ≤ maxLen) (hc : Nd.At w B vc x.cond) (he : Nd.At w B ve x.expr) :
    Calls Try.prog 50 #[.agg #[.int .i64 x.kind, .int .i64 x.parent, .string x.name, .int .i64 x.arg, vc, ve], .int .i64 n] w fun e w' => (∃ r : Int, e = .returned (.int .i64 r) ∧ -1 ≤ r ∧ r ≤ n ∧ (0 ≤ r → Small1 n x)) ∧ Below w.heap.size w w' := by
  unfold maxLen at h1
  obtain ⟨a, cap, rfl⟩ := hc.slice
  obtain ⟨a2, cap2, rfl⟩ := he.slice
  have HC := hid hc
  have HE := hid he
  clear hc he
  have hB : Below w.heap.size w (w.alloc (.cells #[.int .i64 x.kind, .int .i64 x.parent, .string x.name, .int .i64 x.arg, .slice a x.cond.length cap, .slice a2 x.expr.length cap2] 97)) := (Below.refl _ w).alloc (Nat.le_refl _) _
  have HC2 := hid (HC.out.below hB)
  have HE2 := hid (HE.out.below hB)
  clear HC HE
  by_cases q1 : n - (x.name.size : Int) < 0
  · go_enter Try.func50, Try.ntmps50
    go_wp2
    go_ret
    exact ⟨⟨-1, rfl, by omega, by omega, by omega⟩, hB⟩
  · go_enter Try.func50, Try.ntmps50
    go_wp2_with fail
    refine (Nd.szS x.cond _ (n - x.name.size) B _ (by omega) (by omega) h2 HC2.out).mono ?_
    rintro e w1 ⟨⟨r, rfl, hr1, hr2, hr3⟩, rfl⟩
    by_cases hr : r < 0
    · go_wp2
      go_ret
      exact ⟨⟨-1, rfl, by omega, by omega, by omega⟩, hB⟩
    · have hr3' := hr3 (by omega)
      clear hr3
      go_wp2_with fail
      refine (Nd.szS x.expr _ r B _ (by omega) (by omega) h3 HE2.out).mono ?_
      rintro e w1 ⟨⟨r2, rfl, hr4, hr5, hr6⟩, rfl⟩
      by_cases hr' : r2 < 0
      · go_wp2
        go_ret
        exact ⟨⟨-1, rfl, by omega, by omega, by omega⟩, hB⟩
      · have hr6' := hr6 (by omega)
        clear hr6
        go_wp2
        go_ret
        exact ⟨⟨r2, rfl, by omega, by omega, fun _ => ⟨by omega, by omega, by omega⟩⟩, hB⟩
set_option maxRecDepth 100000 in
set_option maxHeartbeats 1000000 in
theorem szS (B : Nat) (ss : List StepD) (v : Value) (n : Int) (w : World) (h0 : 0 ≤ n) (hn : n ≤ 1048576) (hl : ss.length ≤ maxLen) (hk : Ok ss) (ha : At w B v ss) :
    Calls Try.prog 41 #[v, .int .i64 n] w fun e w' => (∃ r : Int, e = .returned (.int .i64 r) ∧ -1 ≤ r ∧ r ≤ n ∧ (0 ≤ r → Small n ss)) ∧ Below w.heap.size w w' := by
  obtain ⟨a, cap, rfl⟩ := ha.slice
  have HA := hid ha
  have HK := hid hk
  clear ha hk
  unfold maxLen at hl
  by_cases q1 : n - (ss.length : Int) < 0
  · go_enter Try.func41, Try.ntmps41
    go_wp2
    go_ret
    exact ⟨⟨-1, rfl, by omega, by omega, by omega⟩, Below.refl _ _⟩
  · go_enter Try.func41, Try.ntmps41
    go_wp2
    go_loopw [1, 5] (fun m i wr => ∃ (k : Nat) (z : Int), i = .int .i64 k ∧ m = .int .i64 z ∧ 0 ≤ z ∧ z ≤ n ∧ k ≤ ss.length ∧ Hid (∀ j (h : j < ss.length), j < k → Small1 n ss[j]) ∧ Below w.heap.size w wr) (fun _ i _ => ss.length - (intOf i).toNat)
    case atStart => exact ⟨0, _, rfl, rfl, by omega, by omega, Nat.zero_le _, fun j _ h => by omega, Below.refl _ _⟩
    case round =>
      obtain ⟨k, z, rfl, rfl, hz0, hzn, hkl, HJ, hbel⟩ := hrel
      by_cases hlt : k < ss.length
      · obtain ⟨g, o, vc, ve, rfl, hg, c0, c1, c2, c3, c4, c5, hvc, hve⟩ := (HA.out.below hbel).at hlt
        obtain ⟨a2, cap2, rfl⟩ := hvc.slice
        obtain ⟨a3, cap3, rfl⟩ := hve.slice
        have HV := hid hvc
        have HE := hid hve
        clear hvc hve
        have hke := HK.out ss[k] (List.getElem_mem hlt)
        have hke1 := hke.1
        have hke2 := hke.2.1
        have hke3 := hke.2.2
        clear hke
        have q1 : (k : Int) < (ss.length : Int) := by omega
        go_wp2_with fail
        refine (szOne B ss[k] _ _ z _ hz0 (by omega) hke1 hke2 hke3 HV.out HE.out).mono ?_
        rintro e w1 ⟨⟨r, rfl, hr1, hr2, hr3⟩, hb1⟩
        have hB := hbel.trans (hb1.mono hbel.size)
        by_cases hr : r < 0
        · go_wp2
          go_ret
          exact ⟨⟨-1, rfl, by omega, by omega, by omega⟩, hB⟩
        · have HJ2 : Hid (∀ j (h : j < ss.length), j < k + 1 → Small1 n ss[j]) := hid (fun j h hj => by
            by_cases e : j = k
            · subst e
              exact (hr3 (by omega)).mono hzn
            · exact HJ.out j h (by omega))
          go_wp2
          exact ⟨⟨k + 1, r, by simp, rfl, by omega, by omega, by omega, HJ2, hB⟩, by simp [intOf]; omega⟩
      · have HJ2 : Hid (Small n ss) := hid ⟨by omega, fun x hx => by
          obtain ⟨j, hj, rfl⟩ := List.getElem_of_mem hx
          exact HJ.out j hj (by omega)⟩
        go_wp2
        go_ret
        exact ⟨⟨z, rfl, by omega, by omega, fun _ => HJ2.out⟩, hbel⟩
end St
end Go.Proofs.Ytpninlangjfcfaa
