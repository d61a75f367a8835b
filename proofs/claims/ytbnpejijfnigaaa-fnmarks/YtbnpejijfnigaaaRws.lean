/- Whether two lists of texts are the same, as the law asks it. -/
import Derived.Test.YtbnpejijfnigaaaCut4
import Derived.Deep.QuietTactic
import Derived.BigQuiet
namespace Go.Proofs.Ytbnpejijfnigaaa
open Go.Shelf Go.RowKit
set_option linter.unusedVariables false
namespace Cut
/-- A slice of texts that lies in memory. -/
def RowAt (w : World) (v : Value) (ts : List (List UInt8)) : Prop :=
  (v = .slice none 0 0 ∧ ts = []) ∨ ∃ g cap, v = .slice (some ⟨g, 0, none⟩) ts.length cap ∧ g < w.heap.size ∧ ∀ i t, ts[i]? = some t → w.cell? ⟨g, i, none⟩ = some (strv t)
theorem RowAt.slice {w : World} {v : Value} {ts : List (List UInt8)} (h : RowAt w v ts) : ∃ a cap, v = .slice a ts.length cap := by
  rcases h with ⟨rfl, rfl⟩ | ⟨g, cap, rfl, _⟩
  · exact ⟨none, 0, rfl⟩
  · exact ⟨_, _, rfl⟩
theorem RowAt.at {w : World} {v : Value} {ts : List (List UInt8)} (h : RowAt w v ts) {i : Nat} (hi : i < ts.length) : ∃ g cap, v = .slice (some ⟨g, 0, none⟩) ts.length cap ∧ g < w.heap.size ∧ w.cell? ⟨g, i, none⟩ = some (strv ts[i]) := by
  rcases h with ⟨rfl, rfl⟩ | ⟨g, cap, rfl, hg, hc⟩
  · simp at hi
  · exact ⟨g, cap, rfl, hg, hc i _ (List.getElem?_eq_getElem hi)⟩
theorem RowAt.below {w w' : World} {v : Value} {ts : List (List UInt8)} (h : RowAt w v ts) (hb : Below w.heap.size w w') : RowAt w' v ts := by
  rcases h with h | ⟨g, cap, rfl, hg, hc⟩
  · exact .inl h
  · exact .inr ⟨g, cap, rfl, Nat.lt_of_lt_of_le hg hb.size, fun i t ht => (hb.cell (p := ⟨g, i, none⟩) hg).trans (hc i t ht)⟩
theorem RowAt.of {w : World} {base : Nat} {v : Value} {ts : List (List UInt8)} (h : w.ownsRow base 9 1 v ts.length (ts.map strv)) : RowAt w v ts := by
  obtain ⟨hl, ⟨rfl, h0⟩ | ⟨g, cap, cur, rfl, hbg, hg, hle, hm, hs, ht⟩⟩ := h
  · exact .inl ⟨rfl, List.length_eq_zero_iff.1 h0⟩
  · refine .inr ⟨g, cap, rfl, (Array.getElem?_eq_some_iff.1 hg).1, fun i t hti => ?_⟩
    have hi : i < ts.length := (List.getElem?_eq_some_iff.1 hti).1
    have : cur[i]? = some (strv t) := by
      have h2 := congrArg (·[i]?) ht
      simp only [Nat.mul_one, List.getElem?_take, List.getElem?_map, hti, Option.map_some, hi, if_true] at h2
      simpa using h2
    simp [World.cell?, hg, this]
theorem below_drewN {B : Nat} {a w : World} (h : Below B a w) (n : Nat) : Below B a (w.drewN n) := ⟨h.os, h.tape, h.output, h.size, h.block⟩
theorem strv_ne (a : List UInt8) : ((ByteArray.mk a.toArray).toList != (ByteArray.mk a.toArray).toList) = false := by simp
set_option maxHeartbeats 2000000 in
theorem eqS (v1 v2 : Value) (ts : List (List UInt8)) (w : World) (hn : ts.length ≤ 1048576) (h1 : RowAt w v1 ts) (h2 : RowAt w v2 ts) :
    Calls Try.prog 8 #[v1, v2] w fun e w' => e = .returned (.bool true) ∧ Below w.heap.size w w' := by
  obtain ⟨a1, c1, rfl⟩ := h1.slice
  obtain ⟨a2, c2, rfl⟩ := h2.slice
  have H1 : Hid (RowAt w (.slice a1 ts.length c1) ts) := h1
  have H2 : Hid (RowAt w (.slice a2 ts.length c2) ts) := h2
  clear h1 h2
  have hb : ((ts.length : Int) != (ts.length : Int)) = false := by simp
  go_enter Try.func8, Try.ntmps8
  go_wp2
  go_loopw [5] (fun i wr => ∃ k : Nat, i = .int .i64 k ∧ k ≤ ts.length ∧ Below w.heap.size w wr) (fun i _ => ts.length - (intOf i).toNat)
  case atStart => exact ⟨0, rfl, Nat.zero_le _, Below.refl _ _⟩
  case round =>
    obtain ⟨k, rfl, hk, hbel⟩ := hrel
    by_cases hlt : k < ts.length
    · obtain ⟨g1, d1, e1, hg1, hc1⟩ := (H1.out.below hbel).at hlt
      obtain ⟨g2, d2, e2, hg2, hc2⟩ := (H2.out.below hbel).at hlt
      cases e1
      cases e2
      generalize hts : ts[k] = t at *
      clear hts
      unfold strv at hc1 hc2
      have hne := strv_ne t
      have q1 : (k : Int) < (ts.length : Int) := by omega
      go_wp2
      go_quiet (fail)
      go_wp2
      exact ⟨⟨k + 1, by simp, by omega, below_drewN hbel nq⟩, by simp [intOf]; omega⟩
    · go_wp2
      go_ret
      exact ⟨rfl, hbel⟩
end Cut
end Go.Proofs.Ytbnpejijfnigaaa
