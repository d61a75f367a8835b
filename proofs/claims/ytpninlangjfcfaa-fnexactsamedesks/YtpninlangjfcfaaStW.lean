/- The law's measure of a row of steps, with all that there is in it. -/
import Derived.Test.YtpninlangjfcfaaStA
namespace Go.Proofs.Ytpninlangjfcfaa
open Go.RowKit Go.Deep
set_option linter.unusedVariables false
namespace St
open Ex (hid)
open Nd (NodeD)
def wt1 (s : StepD) : Nat := s.name.size + s.cond.length + s.expr.length
def wt : List StepD → Nat
  | [] => 0
  | s :: ss => 1 + wt1 s + wt ss
theorem wt_take {ss : List StepD} {k : Nat} (h : k < ss.length) : wt (ss.take (k + 1)) = wt (ss.take k) + 1 + wt1 ss[k] := by
  induction ss generalizing k with
  | nil => simp at h
  | cons s ss ih =>
    cases k with
    | zero => simp [wt]
    | succ k =>
      have := ih (k := k) (by simpa using h)
      simp only [List.take_succ_cons, wt, List.getElem_cons_succ] at this ⊢
      omega
set_option maxRecDepth 100000 in
set_option maxHeartbeats 1000000 in
theorem szN2 (xs : List NodeD) (a : Option Addr) (cap : Nat) (n : Int) (w : World) (h0 : 0 ≤ n) (hn : n ≤ 1048576) (hk : xs.length ≤ maxLen) :
    Calls Try.prog 57 #[.slice a xs.length cap, .int .i64 n] w fun e w' => (∃ r : Int, e = .returned (.int .i64 r) ∧ -1 ≤ r ∧ r ≤ n ∧ (0 ≤ r → r + (xs.length : Int) ≤ n)) ∧ w' = w := by
  unfold maxLen at hk
  by_cases h : n - (xs.length : Int) < 0
  · go_enter Try.func57, Try.ntmps57
    go_wp2
    go_ret
    exact ⟨⟨-1, rfl, by omega, by omega, by omega⟩, rfl⟩
  · go_enter Try.func57, Try.ntmps57
    go_wp2
    go_ret
    exact ⟨⟨n - xs.length, rfl, by omega, by omega, by omega⟩, rfl⟩
set_option maxRecDepth 100000 in
set_option maxHeartbeats 1000000 in
theorem szOne2 (B : Nat) (x : StepD) (vc ve : Value) (n : Int) (w : World) (h0 : 0 ≤ n) (hn : n ≤ 1048576) (h1 : x.name.size ≤ maxLen) (h2 : x.cond.length ≤ maxLen) (h3 : x.expr.length ≤ maxLen) (hc : Nd.At w B vc x.cond) (he : Nd.At w B ve x.expr) :
    Calls Try.prog 50 #[.agg #[.int .i64 x.kind, .int .i64 x.parent, .string x.name, .int .i64 x.arg, vc, ve], .int .i64 n] w fun e w' => (∃ r : Int, e = .returned (.int .i64 r) ∧ -1 ≤ r ∧ r ≤ n ∧ (0 ≤ r → Small1 n x ∧ r + (wt1 x : Int) ≤ n)) ∧ Below w.heap.size w w' := by
  unfold maxLen at h1
  obtain ⟨a, cap, rfl⟩ := hc.slice
  obtain ⟨a2, cap2, rfl⟩ := he.slice
  have HC := hid hc
  have HE := hid he
  clear hc he
  have hB : Below w.heap.size w (w.alloc (.cells #[.int .i64 x.kind, .int .i64 x.parent, .string x.name, .int .i64 x.arg, .slice a x.cond.length cap, .slice a2 x.expr.length cap2] 97)) := (Below.refl _ w).alloc (Nat.le_refl _) _
  have HC2 := hid (HC.out.below hB)
  have HE2 := hid (HE.out.below hB)
  clear HC HE
  by_cases q1 : n - (x.name.size : Int) < 0
  · go_enter Try.func50, Try.ntmps50
    go_wp2
    go_ret
    exact ⟨⟨-1, rfl, by omega, by omega, by omega⟩, hB⟩
  · go_enter Try.func50, Try.ntmps50
    go_wp2_with fail
    refine (szN2 x.cond _ _ (n - x.name.size) _ (by omega) (by omega) h2).mono ?_
    rintro e w1 ⟨⟨r, rfl, hr1, hr2, hr3⟩, rfl⟩
    by_cases hr : r < 0
    · go_wp2
      go_ret
      exact ⟨⟨-1, rfl, by omega, by omega, by omega⟩, hB⟩
    · have hr3' := hr3 (by omega)
      clear hr3
      go_wp2_with fail
      refine (szN2 x.expr _ _ r _ (by omega) (by omega) h3).mono ?_
      rintro e w1 ⟨⟨r2, rfl, hr4, hr5, hr6⟩, rfl⟩
      by_cases hr' : r2 < 0
      · go_wp2
        go_ret
        exact ⟨⟨-1, rfl, by omega, by omega, by omega⟩, hB⟩
      · have hr6' := hr6 (by omega)
        clear hr6
        go_wp2
        go_ret
        exact ⟨⟨r2, rfl, by omega, by omega, fun _ => ⟨⟨by omega, by omega, by omega⟩, by unfold wt1; omega⟩⟩, hB⟩
set_option maxRecDepth 100000 in
set_option maxHeartbeats 1000000 in
theorem szS2 (B : Nat) (ss : List StepD) (v : Value) (n : Int) (w : World) (h0 : 0 ≤ n) (hn : n ≤ 1048576) (hl : ss.length ≤ maxLen) (hk : Ok ss) (ha : At w B v ss) :
    Calls Try.prog 41 #[v, .int .i64 n] w fun e w' => (∃ r : Int, e = .returned (.int .i64 r) ∧ -1 ≤ r ∧ r ≤ n ∧ (0 ≤ r → Small n ss ∧ r + (wt ss : Int) ≤ n)) ∧ Below w.heap.size w w' := by
  obtain ⟨a, cap, rfl⟩ := ha.slice
  have HA := hid ha
  have HK := hid hk
  clear ha hk
  unfold maxLen at hl
  by_cases q1 : n - (ss.length : Int) < 0
  · go_enter Try.func41, Try.ntmps41
    go_wp2
    go_ret
    exact ⟨⟨-1, rfl, by omega, by omega, by omega⟩, Below.refl _ _⟩
  · go_enter Try.func41, Try.ntmps41
    go_wp2
    go_loopw [1, 5] (fun m i wr => ∃ (k : Nat) (z : Int), i = .int .i64 k ∧ m = .int .i64 z ∧ 0 ≤ z ∧ z ≤ n ∧ k ≤ ss.length ∧ z + (wt (ss.take k) : Int) ≤ n - (ss.length : Int) + (k : Int) ∧ Hid (∀ j (h : j < ss.length), j < k → Small1 n ss[j]) ∧ Below w.heap.size w wr) (fun _ i _ => ss.length - (intOf i).toNat)
    case atStart => exact ⟨0, _, rfl, rfl, by omega, by omega, Nat.zero_le _, by simp [wt], fun j _ h => by omega, Below.refl _ _⟩
    case round =>
      obtain ⟨k, z, rfl, rfl, hz0, hzn, hkl, hzw, HJ, hbel⟩ := hrel
      by_cases hlt : k < ss.length
      · obtain ⟨g, o, vc, ve, rfl, hg, c0, c1, c2, c3, c4, c5, hvc, hve⟩ := (HA.out.below hbel).at hlt
        obtain ⟨a2, cap2, rfl⟩ := hvc.slice
        obtain ⟨a3, cap3, rfl⟩ := hve.slice
        have HV := hid hvc
        have HE := hid hve
        clear hvc hve
        have hke := HK.out ss[k] (List.getElem_mem hlt)
        have hke1 := hke.1
        have hke2 := hke.2.1
        have hke3 := hke.2.2
        clear hke
        have q1 : (k : Int) < (ss.length : Int) := by omega
        go_wp2_with fail
        refine (szOne2 B ss[k] _ _ z _ hz0 (by omega) hke1 hke2 hke3 HV.out HE.out).mono ?_
        rintro e w1 ⟨⟨r, rfl, hr1, hr2, hr3⟩, hb1⟩
        have hB := hbel.trans (hb1.mono hbel.size)
        by_cases hr : r < 0
        · go_wp2
          go_ret
          exact ⟨⟨-1, rfl, by omega, by omega, by omega⟩, hB⟩
        · have hr4 := hr3 (by omega)
          have hr5 := hr4.2
          have hr6 := wt_take hlt
          have HJ2 : Hid (∀ j (h : j < ss.length), j < k + 1 → Small1 n ss[j]) := hid (fun j h hj => by
            by_cases e : j = k
            · subst e
              exact hr4.1.mono hzn
            · exact HJ.out j h (by omega))
          have hzw2 : r + (wt (ss.take (k + 1)) : Int) ≤ n - (ss.length : Int) + ((k + 1 : Nat) : Int) := by omega
          clear hr3 hr4 hr5 hr6
          go_wp2
          exact ⟨⟨k + 1, r, by simp, rfl, by omega, by omega, by omega, hzw2, HJ2, hB⟩, by simp [intOf]; omega⟩
      · have HJ2 : Hid (Small n ss) := hid ⟨by omega, fun x hx => by
          obtain ⟨j, hj, rfl⟩ := List.getElem_of_mem hx
          exact HJ.out j hj (by omega)⟩
        rw [List.take_of_length_le (by omega)] at hzw
        go_wp2
        go_ret
        exact ⟨⟨z, rfl, by omega, by omega, fun _ => ⟨HJ2.out, by omega⟩⟩, hbel⟩
end St
end Go.Proofs.Ytpninlangjfcfaa
