/- Rows of instances in memory, and the law's measure of them. -/
import Derived.Test.YtpninlangjfcfaaStC
import Derived.Test.YtpninlangjfcfaaStW
import Derived.Test.YtpninlangjfcfaaChM
namespace Go.Proofs.Ytpninlangjfcfaa
open Go.RowKit Go.Deep
set_option linter.unusedVariables false
namespace Ei
open Ex (hid)
open St (StepD old_cell old_free setB)
structure InstD where
  proc : Int
  chart : Ch.RunD
def Ok1 (s : InstD) : Prop := Ch.Ok s.chart
def Small1 (n : Int) (s : InstD) : Prop := Ch.Small n s.chart
theorem Small1.mono {m n : Int} {s : InstD} (h : Small1 m s) (hm : m ≤ n) : Small1 n s := Ch.Small.mono h hm
def wt1 (s : InstD) : Nat := 0
def At (w : World) (B : Nat) (v : Value) (ss : List InstD) : Prop :=
  ∃ a cap, v = .slice a ss.length cap ∧ ss.length ≤ cap ∧ cap ≤ maxLen ∧ (ss = [] ∨ ∃ g o, a = some ⟨g, o, none⟩ ∧ B ≤ g ∧ g < w.heap.size ∧
    ∀ i (h : i < ss.length), ∃ v1 v2 v3, w.cell? ⟨g, o + i * 6, none⟩ = some (.int .i64 ss[i].proc) ∧ w.cell? ⟨g, o + i * 6 + 1, none⟩ = some (.int .i64 ss[i].chart.status) ∧ w.cell? ⟨g, o + i * 6 + 2, none⟩ = some (.int .i64 ss[i].chart.now) ∧ w.cell? ⟨g, o + i * 6 + 3, none⟩ = some v1 ∧ w.cell? ⟨g, o + i * 6 + 4, none⟩ = some v2 ∧ w.cell? ⟨g, o + i * 6 + 5, none⟩ = some v3 ∧ Ch.At w B v1 v2 v3 ss[i].chart)
theorem At.kept {w w' : World} {B : Nat} {v : Value} {ss : List InstD} (h : At w B v ss) (hs : w.heap.size ≤ w'.heap.size) (hb : ∀ g, B ≤ g → g < w.heap.size → w'.heap[g]? = w.heap[g]?) : At w' B v ss := by
  obtain ⟨a, cap, rfl, hle, hmx, h⟩ := h
  refine ⟨a, cap, rfl, hle, hmx, ?_⟩
  rcases h with h | ⟨g, o, rfl, hB, hg, hc⟩
  · exact .inl h
  · refine .inr ⟨g, o, rfl, hB, Nat.lt_of_lt_of_le hg hs, fun i hi => ?_⟩
    have e : ∀ off, w'.cell? ⟨g, off, none⟩ = w.cell? ⟨g, off, none⟩ := fun off => by simp only [World.cell?, hb g hB hg]
    obtain ⟨v1, v2, v3, h0, h1, h2, h3, h4, h5, hy⟩ := hc i hi
    exact ⟨v1, v2, v3, (e _).trans h0, (e _).trans h1, (e _).trans h2, (e _).trans h3, (e _).trans h4, (e _).trans h5, hy.kept hs hb⟩
theorem At.below {w w' : World} {B : Nat} {v : Value} {ss : List InstD} (h : At w B v ss) (hb : Below w.heap.size w w') : At w' B v ss := h.kept hb.size (fun g _ hg => hb.block g hg)
theorem At.setBelow {w : World} {B : Nat} {v : Value} {ss : List InstD} (h : At w B v ss) {b o : Nat} (ha : b < B) (x : Value) : At (w.setCell ⟨b, o, none⟩ x) B v ss :=
  h.kept (by simp [World.setCell]) (fun g hg _ => Below.heap_setCell _ _ _ _ (by dsimp only; omega))
theorem At.mono {w : World} {B B' : Nat} {v : Value} {ss : List InstD} (h : At w B v ss) (hB : B' ≤ B) : At w B' v ss := by
  obtain ⟨a, cap, rfl, hle, hmx, h⟩ := h
  refine ⟨a, cap, rfl, hle, hmx, ?_⟩
  rcases h with h | ⟨g, o, rfl, hb, hg, hc⟩
  · exact .inl h
  · refine .inr ⟨g, o, rfl, Nat.le_trans hB hb, hg, fun i hi => ?_⟩
    obtain ⟨v1, v2, v3, h0, h1, h2, h3, h4, h5, hy⟩ := hc i hi
    exact ⟨v1, v2, v3, h0, h1, h2, h3, h4, h5, hy.mono hB⟩
theorem At.slice {w : World} {B : Nat} {v : Value} {ss : List InstD} (h : At w B v ss) : ∃ a cap, v = .slice a ss.length cap := by
  obtain ⟨a, cap, rfl, _⟩ := h; exact ⟨a, cap, rfl⟩
theorem At.at {w : World} {B : Nat} {a : Option Addr} {n cap : Nat} {ss : List InstD} (h : At w B (.slice a n cap) ss) {i : Nat} (hi : i < ss.length) :
    ∃ g o v1 v2 v3, a = some ⟨g, o, none⟩ ∧ g < w.heap.size ∧ w.cell? ⟨g, o + i * 6, none⟩ = some (.int .i64 ss[i].proc) ∧ w.cell? ⟨g, o + i * 6 + 1, none⟩ = some (.int .i64 ss[i].chart.status) ∧ w.cell? ⟨g, o + i * 6 + 2, none⟩ = some (.int .i64 ss[i].chart.now) ∧ w.cell? ⟨g, o + i * 6 + 3, none⟩ = some v1 ∧ w.cell? ⟨g, o + i * 6 + 4, none⟩ = some v2 ∧ w.cell? ⟨g, o + i * 6 + 5, none⟩ = some v3 ∧ Ch.At w B v1 v2 v3 ss[i].chart := by
  obtain ⟨a', cap', e, _, _, h⟩ := h
  cases e
  rcases h with h | ⟨g, o, rfl, _, hg, hc⟩
  · subst h; simp at hi
  · obtain ⟨v1, v2, v3, hx⟩ := hc i hi
    exact ⟨g, o, v1, v2, v3, rfl, hg, hx⟩
theorem At.nil (w : World) (B : Nat) : At w B (.slice none 0 0) [] := ⟨_, _, rfl, Nat.le_refl _, Nat.zero_le _, .inl rfl⟩
theorem At.cap {w : World} {B : Nat} {a : Option Addr} {n cap : Nat} {ss : List InstD} (h : At w B (.slice a n cap) ss) : ss.length ≤ cap ∧ cap ≤ maxLen := by
  obtain ⟨a', cap', e, h1, h2, _⟩ := h; cases e; exact ⟨h1, h2⟩
def Ok (ss : List InstD) : Prop := ∀ s ∈ ss, Ok1 s
def Small (n : Int) (ss : List InstD) : Prop := (ss.length : Int) ≤ n ∧ ∀ s ∈ ss, Small1 n s
theorem Small.at {n : Int} {ss : List InstD} (h : Small n ss) {i : Nat} (hi : i < ss.length) : Small1 n ss[i] := h.2 _ (List.getElem_mem hi)
theorem Small.mono {m n : Int} {ss : List InstD} (h : Small m ss) (hm : m ≤ n) : Small n ss := ⟨Int.le_trans h.1 hm, fun s hs => (h.2 s hs).mono hm⟩
/-- How much there is in all. -/
def wt : List InstD → Nat
  | [] => 0
  | s :: ss => 1 + wt1 s + wt ss
theorem wt_take {ss : List InstD} {k : Nat} (h : k < ss.length) : wt (ss.take (k + 1)) = wt (ss.take k) + 1 + wt1 ss[k] := by
  induction ss generalizing k with
  | nil => simp at h
  | cons s ss ih =>
    cases k with
    | zero => simp [wt]
    | succ k =>
      have := ih (k := k) (by simpa using h)
      simp only [List.take_succ_cons, wt, List.getElem_cons_succ] at this ⊢
      omega
set_option maxRecDepth 100000 in
set_option maxHeartbeats 1000000 in
theorem szOne (B : Nat) (x : InstD) (v1 v2 v3 : Value) (n : Int) (w : World) (h0 : 0 ≤ n) (hn : n ≤ 1048576) (hk : Ok1 x) (hc : Ch.At w B v1 v2 v3 x.chart) :
    Calls Try.prog 32 #[.agg #[.int .i64 x.proc, .int .i64 x.chart.status, .int .i64 x.chart.now, v1, v2, v3], .int .i64 n] w fun e w' => (∃ r : Int, e = .returned (.int .i64 r) ∧ -1 ≤ r ∧ r ≤ n ∧ (0 ≤ r → Small1 n x ∧ r + (wt1 x : Int) ≤ n)) ∧ Below w.heap.size w w' := by
  obtain ⟨a1, k1, rfl⟩ := hc.vars.slice
  obtain ⟨a2, k2, rfl⟩ := hc.marks.slice
  obtain ⟨a3, k3, rfl⟩ := hc.dues.slice
  have hB : Below w.heap.size w (w.alloc (.cells #[.int .i64 x.proc, .int .i64 x.chart.status, .int .i64 x.chart.now, .slice a1 x.chart.vars.length k1, .slice a2 x.chart.marks.length k2, .slice a3 x.chart.dues.length k3] 76)) := (Below.refl _ w).alloc (Nat.le_refl _) _
  have HC2 := hid (hc.below hB)
  clear hc
  go_enter Try.func32, Try.ntmps32
  go_wp2_with fail
  refine (Ch.sz B x.chart _ _ _ n _ h0 hn hk HC2.out).mono ?_
  rintro e w1 ⟨⟨r, rfl, hr1, hr2, hr3⟩, hb1⟩
  have HB1 := hid (hB.trans (hb1.mono hB.size))
  clear hb1
  by_cases hr : r < 0
  · go_wp2
    go_ret
    exact ⟨⟨-1, rfl, by omega, by omega, by omega⟩, HB1.out⟩
  · have hr3' := hid (hr3 (by omega))
    clear hr3
    go_wp2
    go_ret
    exact ⟨⟨r, rfl, by omega, by omega, fun _ => ⟨hr3'.out, by unfold wt1; omega⟩⟩, HB1.out⟩
set_option maxRecDepth 100000 in
set_option maxHeartbeats 1000000 in
theorem szS (B : Nat) (ss : List InstD) (v : Value) (n : Int) (w : World) (h0 : 0 ≤ n) (hn : n ≤ 1048576) (hl : ss.length ≤ maxLen) (hk : Ok ss) (ha : At w B v ss) :
    Calls Try.prog 19 #[v, .int .i64 n] w fun e w' => (∃ r : Int, e = .returned (.int .i64 r) ∧ -1 ≤ r ∧ r ≤ n ∧ (0 ≤ r → Small n ss ∧ r + (wt ss : Int) ≤ n)) ∧ Below w.heap.size w w' := by
  obtain ⟨a, cap, rfl⟩ := ha.slice
  have HA := hid ha
  have HK := hid hk
  clear ha hk
  unfold maxLen at hl
  by_cases q1 : n - (ss.length : Int) < 0
  · go_enter Try.func19, Try.ntmps19
    go_wp2
    go_ret
    exact ⟨⟨-1, rfl, by omega, by omega, by omega⟩, Below.refl _ _⟩
  · go_enter Try.func19, Try.ntmps19
    go_wp2
    go_loopw [1, 5] (fun m i wr => ∃ (k : Nat) (z : Int), i = .int .i64 k ∧ m = .int .i64 z ∧ 0 ≤ z ∧ z ≤ n ∧ k ≤ ss.length ∧ z + (wt (ss.take k) : Int) ≤ n - (ss.length : Int) + (k : Int) ∧ Hid (∀ j (h : j < ss.length), j < k → Small1 n ss[j]) ∧ Below w.heap.size w wr) (fun _ i _ => ss.length - (intOf i).toNat)
    case atStart => exact ⟨0, _, rfl, rfl, by omega, by omega, Nat.zero_le _, by simp [wt], fun j _ h => by omega, Below.refl _ _⟩
    case round =>
      obtain ⟨k, z, rfl, rfl, hz0, hzn, hkl, hzw, HJ, hbel⟩ := hrel
      by_cases hlt : k < ss.length
      · obtain ⟨g, o, v1, v2, v3, rfl, hg, c0, c1, c2, c3, c4, c5, hv⟩ := (HA.out.below hbel).at hlt
        obtain ⟨a21, k21, rfl⟩ := hv.vars.slice
        obtain ⟨a22, k22, rfl⟩ := hv.marks.slice
        obtain ⟨a23, k23, rfl⟩ := hv.dues.slice
        have HV := hid hv
        clear hv
        have hke := HK.out ss[k] (List.getElem_mem hlt)
        have q1 : (k : Int) < (ss.length : Int) := by omega
        go_wp2_with fail
        refine (szOne B ss[k] _ _ _ z _ hz0 (by omega) hke HV.out).mono ?_
        rintro e w1 ⟨⟨r, rfl, hr1, hr2, hr3⟩, hb1⟩
        have hB := hbel.trans (hb1.mono hbel.size)
        by_cases hr : r < 0
        · go_wp2
          go_ret
          exact ⟨⟨-1, rfl, by omega, by omega, by omega⟩, hB⟩
        · have hr4 := hr3 (by omega)
          have hr5 := hr4.2
          have hr6 := wt_take hlt
          have HJ2 : Hid (∀ j (h : j < ss.length), j < k + 1 → Small1 n ss[j]) := hid (fun j h hj => by
            by_cases e : j = k
            · subst e
              exact hr4.1.mono hzn
            · exact HJ.out j h (by omega))
          have hzw2 : r + (wt (ss.take (k + 1)) : Int) ≤ n - (ss.length : Int) + ((k + 1 : Nat) : Int) := by omega
          clear hr3 hr4 hr5 hr6
          go_wp2
          exact ⟨⟨k + 1, r, by simp, rfl, by omega, by omega, by omega, hzw2, HJ2, hB⟩, by simp [intOf]; omega⟩
      · have HJ2 : Hid (Small n ss) := hid ⟨by omega, fun x hx => by
          obtain ⟨j, hj, rfl⟩ := List.getElem_of_mem hx
          exact HJ.out j hj (by omega)⟩
        rw [List.take_of_length_le (by omega)] at hzw
        go_wp2
        go_ret
        exact ⟨⟨z, rfl, by omega, by omega, fun _ => ⟨HJ2.out, by omega⟩⟩, hbel⟩
end Ei
end Go.Proofs.Ytpninlangjfcfaa
