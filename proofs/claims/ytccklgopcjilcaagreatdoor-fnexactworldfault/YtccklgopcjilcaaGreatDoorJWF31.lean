/- Laid together: IntsX, PqB, PqU, FpM, PlM. -/
import Derived.Test.YtccklgopcjilcaaGreatDoorJWF1
import Derived.Deep.QuietTactic
import Derived.BigQuiet
import Derived.Laws.OwnMore
import Derived.RangeFuncBox
import Derived.Test.YtccklgopcjilcaaGreatDoorJWF30
import Derived.Deep.RegionHeld3
import Derived.Test.YtccklgopcjilcaaGreatDoorJWF5
/- The law's own helpers over lists of numbers: whether two are the same, marks written into one, and whether it still holds them. -/
namespace Go.Proofs.YtccklgopcjilcaaGreatDoor
open Go.RowKit
set_option linter.unusedVariables false
namespace Ints
open Ex (hid)
def vals (xs : List Int) : List Value := xs.map fun x => .int .i64 x
/-- A slice of numbers that lies in memory. -/
def IntsAt (w : World) (v : Value) (xs : List Int) : Prop :=
  (v = .slice none 0 0 ∧ xs = []) ∨ ∃ g cap, v = .slice (some ⟨g, 0, none⟩) xs.length cap ∧ g < w.heap.size ∧ ∀ i x, xs[i]? = some x → w.cell? ⟨g, i, none⟩ = some (.int .i64 x)
theorem IntsAt.slice {w : World} {v : Value} {xs : List Int} (h : IntsAt w v xs) : ∃ a cap, v = .slice a xs.length cap := by
  rcases h with ⟨rfl, rfl⟩ | ⟨g, cap, rfl, _⟩
  · exact ⟨none, 0, rfl⟩
  · exact ⟨_, _, rfl⟩
theorem IntsAt.at {w : World} {a : Option Addr} {n cap : Nat} {xs : List Int} (h : IntsAt w (.slice a n cap) xs) {i : Nat} (hi : i < xs.length) : ∃ g, a = some ⟨g, 0, none⟩ ∧ g < w.heap.size ∧ w.cell? ⟨g, i, none⟩ = some (.int .i64 xs[i]) := by
  rcases h with ⟨_, rfl⟩ | ⟨g, cap, e, hg, hc⟩
  · simp at hi
  · cases e
    exact ⟨g, rfl, hg, hc i _ (List.getElem?_eq_getElem hi)⟩
theorem IntsAt.kept {w w' : World} {v : Value} {xs : List Int} (h : IntsAt w v xs) (hs : w.heap.size ≤ w'.heap.size) (hb : ∀ b, v.ownBlock = some b → b < w.heap.size → w'.heap[b]? = w.heap[b]?) : IntsAt w' v xs := by
  rcases h with h | ⟨g, cap, rfl, hg, hc⟩
  · exact .inl h
  · exact .inr ⟨g, cap, rfl, Nat.lt_of_lt_of_le hg hs, fun i x hx => by simp only [World.cell?, hb g rfl hg]; exact hc i x hx⟩
theorem IntsAt.below {w w' : World} {v : Value} {xs : List Int} (h : IntsAt w v xs) (hb : Below w.heap.size w w') : IntsAt w' v xs := h.kept hb.size (fun b _ h => hb.block b h)
theorem IntsAt.of {w : World} {base : Nat} {v : Value} {xs : List Int} (h : w.ownsRow base 2 1 v xs.length (vals xs)) : IntsAt w v xs := by
  obtain ⟨hl, ⟨rfl, h0⟩ | ⟨g, cap, cur, rfl, hbg, hg, hle, hm, hs, ht⟩⟩ := h
  · exact .inl ⟨rfl, List.length_eq_zero_iff.1 h0⟩
  · refine .inr ⟨g, cap, rfl, (Array.getElem?_eq_some_iff.1 hg).1, fun i t hti => ?_⟩
    have hi : i < xs.length := (List.getElem?_eq_some_iff.1 hti).1
    have : cur[i]? = some (.int .i64 t) := by
      have h2 := congrArg (·[i]?) ht
      simp only [vals, Nat.mul_one, List.getElem?_take, List.getElem?_map, hti, Option.map_some, hi, if_true] at h2
      simpa using h2
    simp [World.cell?, hg, this]
theorem below_drewN {B : Nat} {a w : World} (h : Below B a w) (n : Nat) : Below B a (w.drewN n) := ⟨h.os, h.tape, h.output, h.size, h.block⟩
set_option maxRecDepth 100000 in
set_option maxHeartbeats 2000000 in
theorem eqS (v1 v2 : Value) (xs : List Int) (w : World) (hn : xs.length ≤ 1048576) (h1 : IntsAt w v1 xs) (h2 : IntsAt w v2 xs) :
    Calls Tryz.prog 201 #[v1, v2] w fun e w' => e = .returned (.bool true) ∧ Below w.heap.size w w' := by
  obtain ⟨a1, c1, rfl⟩ := h1.slice
  obtain ⟨a2, c2, rfl⟩ := h2.slice
  have H1 := hid h1
  have H2 := hid h2
  clear h1 h2
  have hb : ((xs.length : Int) != (xs.length : Int)) = false := by simp
  go_enter Tryz.func201, Tryz.ntmps201
  go_wp2
  go_loopw [5] (fun i wr => ∃ k : Nat, i = .int .i64 k ∧ k ≤ xs.length ∧ Below w.heap.size w wr) (fun i _ => xs.length - (intOf i).toNat)
  case atStart => exact ⟨0, rfl, Nat.zero_le _, Below.refl _ _⟩
  case round =>
    obtain ⟨k, rfl, hk, hbel⟩ := hrel
    by_cases hlt : k < xs.length
    · obtain ⟨g1, rfl, hg1, hc1⟩ := (H1.out.below hbel).at hlt
      obtain ⟨g2, rfl, hg2, hc2⟩ := (H2.out.below hbel).at hlt
      generalize xs[k] = x at *
      have hne : (x != x) = false := by simp
      have hne2 : (x == x) = true := by simp
      have q1 : (k : Int) < (xs.length : Int) := by omega
      go_wp2
      go_quiet (fail)
      go_wp2
      exact ⟨⟨k + 1, by simp, by omega, below_drewN hbel nq⟩, by simp [intOf]; omega⟩
    · go_wp2
      go_ret
      exact ⟨rfl, hbel⟩
def marksTo (n : Nat) : List Int := (List.range n).map fun (i : Nat) => (i : Int) + 1
theorem marksTo_len (n : Nat) : (marksTo n).length = n := by simp [marksTo]
theorem marksTo_succ (n : Nat) : marksTo (n + 1) = marksTo n ++ [(n : Int) + 1] := by simp [marksTo, List.range_succ]
theorem marksTo_get {n i : Nat} (h : i < n) : (marksTo n)[i]? = some ((i : Int) + 1) := by simp [marksTo, h]
def half (xs : List Int) (i : Nat) : List Int := marksTo i ++ xs.drop i
theorem half_set {xs : List Int} {i : Nat} (h : i < xs.length) : (half xs i).set i ((i : Int) + 1) = half xs (i + 1) := by
  unfold half
  rw [marksTo_succ, List.drop_eq_getElem_cons h, List.set_append_right _ _ (Nat.le_of_eq (marksTo_len i)), marksTo_len, Nat.sub_self, List.set_cons_zero, List.append_assoc]
  rfl
theorem owns_cell {w : World} {base g n cap i : Nat} {e : TypeId} {xs : List Value} (h : w.ownsRow base e 1 (.slice (some ⟨g, 0, none⟩) n cap) n xs) (hi : i < n) :
    (∃ u, w.cell? ⟨g, i, none⟩ = some u) ∧ w.frozen? ⟨g, i, none⟩ = false ∧ base ≤ g ∧ g < w.heap.size := by
  obtain ⟨hl, ⟨h0, _⟩ | ⟨g', cap', cur, hv, hbg, hg, hle, hm, hs, ht⟩⟩ := h
  · cases h0
  · cases hv
    have hlt : i < cur.size := by omega
    exact ⟨⟨cur[i], by simp [World.cell?, hg, hlt]⟩, by simp [World.frozen?, hg], hbg, (Array.getElem?_eq_some_iff.1 hg).1⟩
theorem owns_some {w : World} {base n : Nat} {e : TypeId} {v : Value} {xs : List Value} (h : w.ownsRow base e 1 v n xs) (hn : 0 < n) : ∃ g cap, v = .slice (some ⟨g, 0, none⟩) n cap := by
  obtain ⟨hl, ⟨_, h0⟩ | ⟨g', cap', cur, hv, _⟩⟩ := h
  · omega
  · exact ⟨_, _, hv⟩
theorem owns_slice {w : World} {base n : Nat} {e : TypeId} {v : Value} {xs : List Value} (h : w.ownsRow base e 1 v n xs) : ∃ a cap, v = .slice a n cap := by
  obtain ⟨hl, ⟨rfl, rfl⟩ | ⟨g', cap', cur, hv, _⟩⟩ := h
  · exact ⟨_, _, rfl⟩
  · exact ⟨_, _, hv⟩
theorem owns_below {w w' : World} {base : Nat} {e : TypeId} {size n : Nat} {v : Value} {xs : List Value} (h : w.ownsRow base e size v n xs) (hb : Below w.heap.size w w') : w'.ownsRow base e size v n xs :=
  h.kept (row := none) ⟨hb.os, hb.tape, hb.output, hb.size, fun k hk _ => hb.block k hk⟩ (by cases v.ownBlock <;> simp)
theorem grown_refl (w : World) (row : Option Nat) : w.grownBy w row := ⟨rfl, rfl, rfl, Nat.le_refl _, fun _ _ _ => rfl⟩
theorem grown_after {w w1 w2 : World} {row : Option Nat} (h : w.grownBy w1 row) (h2 : w1.grownBy w2 row) : w.grownBy w2 row :=
  ⟨h2.os.trans h.os, h2.tape.trans h.tape, h2.output.trans h.output, Nat.le_trans h.size h2.size, fun k hk hr => (h2.block k (Nat.lt_of_lt_of_le hk h.size) hr).trans (h.block k hk hr)⟩
theorem grown_set {w w1 : World} {g : Nat} (h : w.grownBy w1 (some g)) (i : Nat) (u : Value) : w.grownBy (w1.setCell ⟨g, i, none⟩ u) (some g) :=
  grown_after h ⟨rfl, rfl, rfl, by simp [World.setCell], fun k hk hr => Below.heap_setCell _ _ _ _ (fun e => hr (by rw [e]))⟩
set_option maxRecDepth 100000 in
set_option maxHeartbeats 2000000 in
theorem markS (B : Nat) (v : Value) (xs : List Int) (w : World) (hn : xs.length ≤ 1048576) (h : w.ownsRow B 2 1 v xs.length (vals xs)) :
    Calls Tryz.prog 126 #[v, .int .i64 1] w fun e w' => e = .returned (.int .i64 (1 + (xs.length : Int))) ∧ w'.ownsRow B 2 1 v xs.length (vals (marksTo xs.length)) ∧ w.grownBy w' v.ownBlock := by
  obtain ⟨a, cap, rfl⟩ := owns_slice h
  have HO := hid h
  clear h
  go_enter Tryz.func126, Tryz.ntmps126
  go_wp2
  go_loopw [1, 5] (fun q i wr => ∃ k : Nat, i = .int .i64 k ∧ q = .int .i64 (1 + (k : Int)) ∧ k ≤ xs.length ∧ Hid (wr.ownsRow B 2 1 (.slice a xs.length cap) xs.length (vals (half xs k))) ∧ w.grownBy wr (Value.slice a xs.length cap).ownBlock) (fun _ i _ => xs.length - (intOf i).toNat)
  case atStart => exact ⟨0, rfl, rfl, Nat.zero_le _, hid (by simpa [half, marksTo] using HO.out), grown_refl _ _⟩
  case round =>
    obtain ⟨k, rfl, rfl, hk, HR, hbel⟩ := hrel
    by_cases hlt : k < xs.length
    · obtain ⟨g, c2, e2⟩ := owns_some HR.out (by omega)
      cases e2
      have q1 : (k : Int) < (xs.length : Int) := by omega
      obtain ⟨⟨u, hcu⟩, hfu, hbg, hgl⟩ := owns_cell HR.out hlt
      have HS : Hid ((wr.setCell ⟨g, k, none⟩ (.int .i64 (1 + (k : Int)))).ownsRow B 2 1 (.slice (some ⟨g, 0, none⟩) xs.length cap) xs.length (vals (half xs (k + 1)))) := hid (by
        have h := (HR.out.stored k (.int .i64 (1 + (k : Int)))).1
        have e : (vals (half xs k)).set k (.int .i64 (1 + (k : Int))) = vals (half xs (k + 1)) := by
          unfold vals
          rw [show (1 + (k : Int)) = (k : Int) + 1 by omega, ← half_set hlt]
          simp
        rw [e] at h
        exact h)
      have hb2 : w.grownBy (wr.setCell ⟨g, k, none⟩ (.int .i64 (1 + (k : Int)))) (some g) := grown_set hbel k _
      go_wp2
      exact ⟨⟨k + 1, by simp, by simp; omega, by omega, HS, hb2⟩, by simp [intOf]; omega⟩
    · obtain rfl : k = xs.length := by omega
      have HS : Hid (wr.ownsRow B 2 1 (.slice a xs.length cap) xs.length (vals (marksTo xs.length))) := hid (by simpa [half] using HR.out)
      go_wp2
      go_ret
      exact ⟨rfl, HS.out, hbel⟩
set_option maxRecDepth 100000 in
set_option maxHeartbeats 2000000 in
theorem heldS (v : Value) (n : Nat) (w : World) (hn : n ≤ 1048576) (h : IntsAt w v (marksTo n)) :
    Calls Tryz.prog 170 #[v, .int .i64 1] w fun e w' => e = .returned (.int .i64 (1 + (n : Int))) ∧ w' = w := by
  obtain ⟨a, cap, rfl⟩ := h.slice
  rw [marksTo_len] at h ⊢
  have H1 := hid h
  clear h
  go_enter Tryz.func170, Tryz.ntmps170
  go_wp2
  go_loop [1, 5] (fun q i => ∃ k : Nat, i = .int .i64 k ∧ q = .int .i64 (1 + (k : Int)) ∧ k ≤ n) (fun _ i => n - (intOf i).toNat)
  case atStart => exact ⟨0, rfl, rfl, Nat.zero_le _⟩
  case round =>
    obtain ⟨k, rfl, rfl, hk⟩ := hrel
    by_cases hlt : k < n
    · obtain ⟨g, rfl, hg, hc⟩ := H1.out.at (i := k) (by rw [marksTo_len]; exact hlt)
      have hmt : (marksTo n)[k]'(by rw [marksTo_len]; exact hlt) = 1 + (k : Int) := by
        have h := marksTo_get hlt
        rw [List.getElem?_eq_getElem (by rw [marksTo_len]; exact hlt)] at h
        rw [Option.some.inj h]; omega
      rw [hmt] at hc
      have hne : ((1 + (k : Int)) != (1 + (k : Int))) = false := by simp
      clear hmt
      have q1 : (k : Int) < (n : Int) := by omega
      go_wp2
      exact ⟨⟨k + 1, by simp, by simp; omega, by omega⟩, by simp [intOf]; omega⟩
    · obtain rfl : k = n := by omega
      go_wp2
      go_ret
      exact ⟨rfl, rfl⟩
end Ints
end Go.Proofs.YtccklgopcjilcaaGreatDoor
/- LeavesOf, of the specification and of the program. Condition of the second: the table of rules lies as its initialiser lays it. -/
namespace Go.Proofs.YtccklgopcjilcaaGreatDoor
open Go.RowKit
set_option linter.unusedVariables false
namespace Pf
open Ex (hid inR eFault)
open Nd (NodeD)
open St (StepD)
open Tr (Chain cutTo onPath top nf ElemD)
open Pt (kidVals infoI64 info_parts)
open Ints (vals IntsAt)
def intsOf (l : List Nat) : List Int := l.map fun (n : Nat) => (n : Int)
theorem kidVals_eq (l : List Nat) : kidVals l = vals (intsOf l) := by simp [kidVals, vals, intsOf]
theorem intsOf_len (l : List Nat) : (intsOf l).length = l.length := by simp [intsOf]
def leafK (k : Int) : Bool := (k == 2) || (k == 5) || (k == 6)
def leavesN (ss : List StepD) (n : Nat) : List Nat := (List.range n).filter fun i => leafK (PJ ss i).kind
theorem leavesN_succ (ss : List StepD) (n : Nat) : leavesN ss (n + 1) = leavesN ss n ++ (if leafK (PJ ss n).kind = true then [n] else []) := by
  unfold leavesN
  rw [List.range_succ, List.filter_append]
  congr 1
  cases h : leafK (PJ ss n).kind
  · simp [h]
  · simp [h]
theorem leavesN_le (ss : List StepD) (n : Nat) : (leavesN ss n).length ≤ n := by
  unfold leavesN
  have := List.length_filter_le (fun i => leafK (PJ ss i).kind) (List.range n)
  simpa using this
def leavesL (ss : List StepD) : List Int := if pFault ss = 0 then intsOf (leavesN ss ss.length) else []
theorem leaves_ok {ss : List StepD} (h : pFault ss = 0) : leavesL ss = intsOf (leavesN ss ss.length) := by unfold leavesL; rw [if_pos h]
theorem leaves_bad {ss : List StepD} (h : pFault ss ≠ 0) : leavesL ss = [] := by unfold leavesL; rw [if_neg h]
theorem leavesL_len {ss : List StepD} : (leavesL ss).length ≤ ss.length := by
  unfold leavesL
  split
  · rw [intsOf_len]; exact leavesN_le ss ss.length
  · exact Nat.zero_le _
/-- What a function answers that answers a list of numbers. -/
def IPost (c : Int) (l : List Int) (w : World) (e : Ending) (w' : World) : Prop :=
  (∃ u, e = .returned (.agg #[.int .i64 c, u]) ∧ w'.ownsRow (w.heap.size + 1) 2 1 u l.length (vals l)) ∧ Below w.heap.size w w'
theorem retI {c d : Int} {v : Value} (h : c = d) : Ending.returned (.agg #[.int .i64 c, v]) = .returned (.agg #[.int .i64 d, v]) := by rw [h]
theorem own_set {w : World} {B n b c : Nat} {v u : Value} {xs : List Value} (h : w.ownsRow B 2 1 v n xs) (hb : b < B) : (w.setCell ⟨b, c, none⟩ u).ownsRow B 2 1 v n xs := ownsRow_setCell_below h (a := ⟨b, c, none⟩) hb u
theorem own_mono {w : World} {B B' n : Nat} {e : TypeId} {sz : Nat} {v : Value} {xs : List Value} (h : w.ownsRow B e sz v n xs) (hb : B' ≤ B) : w.ownsRow B' e sz v n xs := by
  refine ⟨h.1, ?_⟩
  rcases h.2 with h | ⟨g, cap, cur, rfl, h1, r⟩
  · exact .inl h
  · exact .inr ⟨g, cap, cur, rfl, Nat.le_trans hb h1, r⟩
end Pf
end Go.Proofs.YtccklgopcjilcaaGreatDoor
/- A step and what is below it: plainly, and by the specification. -/
namespace Go.Proofs.YtccklgopcjilcaaGreatDoor
open Go.RowKit
set_option linter.unusedVariables false
namespace Pf
open Ex (hid inR eFault specIn)
open Nd (NodeD)
open St (StepD)
open Tr (Chain cutTo onPath top nf ElemD)
open Pt (kidVals infoI64 info_parts)
open Ints (vals IntsAt)
def dOf (ss : List StepD) (i : Nat) : Nat := (path ss (i + 1)).length
/-- The places from i on, as long as they stand deeper than k. -/
def uFrom (ss : List StepD) (k i : Nat) : List Nat := (List.range' i (ss.length - i)).takeWhile fun j => decide (dOf ss k < dOf ss j)
theorem u_step {ss : List StepD} {k i : Nat} (hi : i < ss.length) (h : dOf ss k < dOf ss i) : uFrom ss k i = i :: uFrom ss k (i + 1) := by
  unfold uFrom
  rw [show ss.length - i = (ss.length - (i + 1)) + 1 by omega, List.range'_succ, List.takeWhile_cons, if_pos (by simpa using h)]
theorem u_stop {ss : List StepD} {k i : Nat} (hi : i < ss.length) (h : ¬ dOf ss k < dOf ss i) : uFrom ss k i = [] := by
  unfold uFrom
  rw [show ss.length - i = (ss.length - (i + 1)) + 1 by omega, List.range'_succ, List.takeWhile_cons, if_neg (by simpa using h)]
theorem u_end {ss : List StepD} {k i : Nat} (hi : ss.length ≤ i) : uFrom ss k i = [] := by
  unfold uFrom
  rw [show ss.length - i = 0 by omega]
  rfl
def underN (ss : List StepD) (k : Nat) : List Nat := k :: uFrom ss k (k + 1)
def underC (ss : List StepD) (at' : Int) : Int := if pFault ss ≠ 0 then pFault ss else if 0 ≤ at' ∧ at' < ss.length then 0 else 3
def underL (ss : List StepD) (at' : Int) : List Int := if underC ss at' = 0 then intsOf (underN ss at'.toNat) else []
theorem under_fault {ss : List StepD} {at' : Int} (h : pFault ss ≠ 0) : underC ss at' = pFault ss ∧ underL ss at' = [] := by
  have e : underC ss at' = pFault ss := by unfold underC; rw [if_pos h]
  exact ⟨e, by unfold underL; rw [if_neg (by rw [e]; exact h)]⟩
theorem under_range {ss : List StepD} {at' : Int} (h : pFault ss = 0) (h2 : ¬ (0 ≤ at' ∧ at' < ss.length)) : underC ss at' = 3 ∧ underL ss at' = [] := by
  have e : underC ss at' = 3 := by unfold underC; rw [if_neg (by simp [h]), if_neg h2]
  exact ⟨e, by unfold underL; rw [if_neg (by rw [e]; decide)]⟩
theorem under_ok {ss : List StepD} {k : Nat} (h : pFault ss = 0) (hk : k < ss.length) : underC ss k = 0 ∧ underL ss k = intsOf (underN ss k) := by
  have e : underC ss k = 0 := by unfold underC; rw [if_neg (by simp [h]), if_pos (by omega)]
  exact ⟨e, by unfold underL; rw [if_pos e, Int.toNat_natCast]⟩
theorem uFrom_le (ss : List StepD) (k i : Nat) : (uFrom ss k i).length ≤ ss.length - i := by
  unfold uFrom
  have := List.takeWhile_sublist (l := List.range' i (ss.length - i)) (fun j => decide (dOf ss k < dOf ss j)) |>.length_le
  simpa using this
theorem underL_len {ss : List StepD} {at' : Int} : (underL ss at').length ≤ ss.length := by
  unfold underL
  split
  · rename_i h
    have hr : 0 ≤ at' ∧ at' < ss.length := by
      unfold underC at h
      by_cases hf : pFault ss ≠ 0
      · rw [if_pos hf] at h; exact absurd h hf
      · rw [if_neg hf] at h
        by_cases h2 : 0 ≤ at' ∧ at' < ss.length
        · exact h2
        · rw [if_neg h2] at h; omega
    rw [intsOf_len, underN, List.length_cons]
    have := uFrom_le ss at'.toNat (at'.toNat + 1)
    omega
  · exact Nat.zero_le _
theorem row_one (w : World) (k : Nat) : (w.alloc (.cells #[.int .i64 (k : Int)] 2)).ownsRow w.heap.size 2 1 (.slice (some ⟨w.heap.size, 0, none⟩) 1 1) 1 (kidVals [k]) :=
  ⟨rfl, .inr ⟨w.heap.size, 1, #[.int .i64 (k : Int)], rfl, Nat.le_refl _, World.alloc_heap_new w _, Nat.le_refl _, by unfold maxLen; omega, rfl, rfl⟩⟩
end Pf
end Go.Proofs.YtccklgopcjilcaaGreatDoor
/- What is under a step, as plain facts: it stands in one piece; nothing is under leaves; all is under the first. -/
namespace Go.Proofs.YtccklgopcjilcaaGreatDoor
set_option linter.unusedVariables false
namespace Pf
open St (StepD)
open Tr (Chain cutTo onPath top nf ElemD cut_no cut_le top_cut)
theorem take_range (p : Nat → Bool) : ∀ (n s : Nat), ∃ m, m ≤ n ∧ (List.range' s n).takeWhile p = List.range' s m
  | 0, s => ⟨0, Nat.le_refl _, rfl⟩
  | n + 1, s => by
    rw [List.range'_succ, List.takeWhile_cons]
    by_cases h : p s = true
    · rw [if_pos h]
      obtain ⟨m, hm, e⟩ := take_range p n (s + 1)
      exact ⟨m + 1, by omega, by rw [e, List.range'_succ]⟩
    · rw [if_neg h]
      exact ⟨0, Nat.zero_le _, rfl⟩
theorem under_range' (ss : List StepD) (k : Nat) : ∃ m, underN ss k = List.range' k (m + 1) := by
  obtain ⟨m, _, e⟩ := take_range (fun j => decide (dOf ss k < dOf ss j)) (ss.length - (k + 1)) (k + 1)
  refine ⟨m, ?_⟩
  unfold underN uFrom
  rw [e, List.range'_succ]
theorem under_get {ss : List StepD} {k q : Nat} (h : q < (intsOf (underN ss k)).length) : (intsOf (underN ss k))[q] = (k : Int) + (q : Int) := by
  obtain ⟨m, e⟩ := under_range' ss k
  have : ∀ (l : List Nat) (hq : q < (intsOf l).length), l = List.range' k (m + 1) → (intsOf l)[q] = (k : Int) + (q : Int) := by
    intro l hq hl
    subst hl
    simp [intsOf]
  exact this _ h e
theorem deep_one (ss : List StepD) (i : Nat) : 1 ≤ dOf ss i := by
  unfold dOf
  rw [path]
  simp
theorem leaf_kids {ss : List StepD} {k : Nat} (hp : pFault ss = 0) (hk : k < ss.length) (hl : leafK (PJ ss k).kind = true) : kidsL ss k = [] := by
  have h := first_all (of_p hp).2.2.1 hk
  have hm : manyOk (PJ ss k).kind (kidsL ss k).length = true := by
    cases hx : manyOk (PJ ss k).kind (kidsL ss k).length
    · rw [link_many hx] at h; cases h
    · rfl
  have h3 : (PJ ss k).kind = 2 ∨ (PJ ss k).kind = 5 ∨ (PJ ss k).kind = 6 := by
    unfold leafK at hl
    simp at hl
    omega
  unfold manyOk at hm
  rw [if_neg (by omega), if_neg (by omega), if_neg (by omega)] at hm
  exact List.eq_nil_of_length_eq_zero (by simpa using hm)
theorem not_kid {ss : List StepD} {k i : Nat} (h : kidsL ss k = []) (hi : i < ss.length) : (PJ ss i).parent ≠ (k : Int) := by
  intro e
  have : i ∈ kidsL ss k := by
    unfold kidsL kidsN
    rw [List.mem_filter]
    exact ⟨List.mem_range.2 hi, by simp [e]⟩
  rw [h] at this
  cases this
theorem leaf_under {ss : List StepD} {k : Nat} (hp : pFault ss = 0) (hk : k < ss.length) (hl : leafK (PJ ss k).kind = true) : underN ss k = [k] := by
  unfold underN
  by_cases h : k + 1 < ss.length
  · have hn := not_kid (leaf_kids hp hk hl) h
    rw [u_stop h]
    intro hd
    have e1 : dOf ss (k + 1) = (cutTo (PJ ss (k + 1)).parent (k :: cutTo (PJ ss k).parent (path ss k))).length + 1 := rfl
    have e2 : dOf ss k = (cutTo (PJ ss k).parent (path ss k)).length + 1 := rfl
    rw [e1, e2, cut_no (fun e => hn e.symm)] at hd
    have := cut_le (p := (PJ ss (k + 1)).parent) (S := cutTo (PJ ss k).parent (path ss k))
    omega
  · rw [u_end (by omega)]
theorem first_deep {ss : List StepD} {i : Nat} (hp : pFault ss = 0) (hi : i < ss.length) (h0 : 0 < i) : dOf ss 0 < dOf ss i := by
  have h := of_one (first_all (of_p hp).2.1 hi)
  have hon : onPath (PJ ss i).parent (path ss i) = true := by
    cases hx : onPath (PJ ss i).parent (path ss i)
    · exact absurd ⟨h0, hx⟩ h.2.2.1
    · rfl
  unfold dOf
  rw [path, path, path]
  have : cutTo (PJ ss i).parent (path ss i) ≠ [] := by
    intro e
    have h2 := top_cut hon
    rw [e] at h2
    have := Tr.on_nonneg hon
    rw [← h2] at this
    exact absurd this (by decide)
  have h5 : 0 < (cutTo (PJ ss i).parent (path ss i)).length := by
    cases hx : cutTo (PJ ss i).parent (path ss i) with
    | nil => exact absurd hx this
    | cons a r => simp
  have h6 : (cutTo (PJ ss 0).parent ([] : List Nat)).length = 0 := rfl
  rw [List.length_cons, List.length_cons, h6]
  omega
theorem all_from {ss : List StepD} (hp : pFault ss = 0) : ∀ (n i : Nat), i + n = ss.length → 0 < i → (uFrom ss 0 i).length = n
  | 0, i, h, h0 => by rw [u_end (by omega)]; rfl
  | n + 1, i, h, h0 => by
    rw [u_step (by omega) (first_deep hp (by omega) h0), List.length_cons, all_from hp n (i + 1) (by omega) (by omega)]
theorem all_under {ss : List StepD} (hp : pFault ss = 0) : (underN ss 0).length = ss.length := by
  have h1 := (of_p hp).1
  unfold underN
  rw [List.length_cons, all_from hp (ss.length - 1) (0 + 1) (by omega) (by omega)]
  omega
theorem deep_pos {ss : List StepD} : ∀ {n : Nat}, 0 < n → 1 ≤ deepN ss n
  | n + 1, _ => by
    have := deep_one ss n
    unfold dOf at this
    rw [deepN]
    omega
theorem leaf_mem {ss : List StepD} {q : Nat} (h : q < (intsOf (leavesN ss ss.length)).length) : ∃ k : Nat, k < ss.length ∧ leafK (PJ ss k).kind = true ∧ (intsOf (leavesN ss ss.length))[q] = (k : Int) := by
  rw [intsOf_len] at h
  have hm := List.getElem_mem h
  have h2 : (leavesN ss ss.length)[q] ∈ (List.range ss.length).filter fun i => leafK (PJ ss i).kind := hm
  rw [List.mem_filter] at h2
  exact ⟨(leavesN ss ss.length)[q], List.mem_range.1 h2.1, h2.2, by simp [intsOf]⟩
end Pf
end Go.Proofs.YtccklgopcjilcaaGreatDoor
/- A process made plain, as plain functions: the tree of a step, made plain, and the list that it comes to. -/
namespace Go.Proofs.YtccklgopcjilcaaGreatDoor
open Go.RowKit
set_option linter.unusedVariables false
namespace Pl
open Ex (hid inR)
open Nd (NodeD)
open St (StepD)
open Tr (Chain cutTo onPath top nf ElemD)
open Pf
/-- A step with what is below it. -/
structure PT where
  s : StepD
  kids : List PT
def gT (ss : List StepD) : Nat → Nat → PT
  | 0, k => ⟨PJ ss k, []⟩
  | f + 1, k => ⟨PJ ss k, (kidsL ss k).map (gT ss f)⟩
def pieceT (b : PT) : List PT := if b.s.kind = 1 then b.kids else [b]
def lineT (l : List PT) : List PT := l.flatMap pieceT
def TJ (l : List PT) (i : Nat) : PT := l[i]?.getD ⟨⟨0, 0, ByteArray.empty, 0, [], []⟩, []⟩
theorem TJ_eq {l : List PT} {i : Nat} (h : i < l.length) : TJ l i = l[i] := by unfold TJ; rw [List.getElem?_eq_getElem h]; rfl
def condT (c : List NodeD) (t : PT) : PT := if 0 < c.length then ⟨{ t.s with cond := c }, t.kids⟩ else t
def wholeT (s : StepD) (l : List PT) : PT := if l.length = 1 then condT s.cond (TJ l 0) else ⟨s, l⟩
def plB (ss : List StepD) : Nat → Nat → PT
  | 0, k => ⟨PJ ss k, []⟩
  | f + 1, k => if (PJ ss k).kind = 1 then wholeT (PJ ss k) (lineT ((kidsL ss k).map (plB ss f))) else ⟨PJ ss k, (kidsL ss k).map (plB ss f)⟩
def lst : Nat → List StepD → PT → Int → List StepD
  | 0, acc, _, _ => acc
  | f + 1, acc, t, par => t.kids.foldl (fun a b => lst f a b (acc.length : Int)) (acc ++ [{ t.s with parent := par }])
def cnt : Nat → PT → Nat
  | 0, _ => 0
  | f + 1, t => 1 + (t.kids.map (cnt f)).sum
theorem line_snoc (l : List PT) (b : PT) : lineT (l ++ [b]) = lineT l ++ pieceT b := by simp [lineT]
theorem lst_len : ∀ (f : Nat) (acc : List StepD) (t : PT) (par : Int), (lst f acc t par).length = acc.length + cnt f t
  | 0, acc, t, par => by simp [lst, cnt]
  | f + 1, acc, t, par => by
    have h : ∀ (ks : List PT) (a : List StepD), (ks.foldl (fun a b => lst f a b (acc.length : Int)) a).length = a.length + (ks.map (cnt f)).sum := by
      intro ks
      induction ks with
      | nil => intro a; simp
      | cons b ks ih => intro a; rw [List.foldl_cons, ih, lst_len f]; simp; omega
    rw [lst, h, cnt]
    simp
    omega
/-- How the list stands when some kids are told. -/
def lstK (f : Nat) (acc : List StepD) (t : PT) (par : Int) (m : Nat) : List StepD := (t.kids.take m).foldl (fun a b => lst f a b (acc.length : Int)) (acc ++ [{ t.s with parent := par }])
theorem lstK_zero (f : Nat) (acc : List StepD) (t : PT) (par : Int) : lstK f acc t par 0 = acc ++ [{ t.s with parent := par }] := by simp [lstK]
theorem lstK_succ (f : Nat) (acc : List StepD) (t : PT) (par : Int) {m : Nat} (h : m < t.kids.length) : lstK f acc t par (m + 1) = lst f (lstK f acc t par m) t.kids[m] (acc.length : Int) := by
  unfold lstK
  rw [List.take_succ_eq_append_getElem h, List.foldl_append]
  rfl
theorem lstK_all (f : Nat) (acc : List StepD) (t : PT) (par : Int) : lstK f acc t par t.kids.length = lst (f + 1) acc t par := by
  unfold lstK
  rw [List.take_length]
  rfl
theorem fold_le (f : Nat) (n : Int) : ∀ (ks : List PT) (a : List StepD), a.length ≤ (ks.foldl (fun a b => lst f a b n) a).length := by
  intro ks
  induction ks with
  | nil => intro a; simp
  | cons b ks ih => intro a; rw [List.foldl_cons]; have := ih (lst f a b n); rw [lst_len] at this; omega
theorem lstK_le (f : Nat) (acc : List StepD) (t : PT) (par : Int) (m : Nat) : (lstK f acc t par m).length ≤ (lst (f + 1) acc t par).length := by
  have e : lst (f + 1) acc t par = (t.kids.drop m).foldl (fun a b => lst f a b (acc.length : Int)) (lstK f acc t par m) := by
    unfold lstK
    rw [← List.foldl_append, List.take_append_drop]
    rfl
  rw [e]
  exact fold_le _ _ _ _
theorem lstK_lst_le (f : Nat) (acc : List StepD) (t : PT) (par : Int) {m : Nat} (h : m < t.kids.length) : (lst f (lstK f acc t par m) t.kids[m] (acc.length : Int)).length ≤ (lst (f + 1) acc t par).length := by
  rw [← lstK_succ f acc t par h]
  exact lstK_le _ _ _ _ _
theorem lstK_pos (f : Nat) (acc : List StepD) (t : PT) (par : Int) (m : Nat) : acc.length < (lstK f acc t par m).length := by
  have h := fold_le f (acc.length : Int) (t.kids.take m) (acc ++ [{ t.s with parent := par }])
  rw [List.length_append, List.length_singleton] at h
  unfold lstK
  omega
/-! ### how much of it there can be -/
def SB : Nat → Nat
  | 0 => 1
  | f + 1 => 1 + 24 * SB f
theorem SB8 : SB 8 ≤ 1000000000000 := by decide
theorem kids_le {ss : List StepD} (hl : ss.length ≤ 24) (k : Nat) : (kidsL ss k).length ≤ 24 := Nat.le_trans (Pf.kidsN_le ss ss.length k) hl
theorem sum_le {α : Type} (g : α → Nat) (b : Nat) : ∀ (l : List α), (∀ x ∈ l, g x ≤ b) → (l.map g).sum ≤ l.length * b
  | [], _ => by simp
  | x :: l, h => by
    have h1 := h x (by simp)
    have h2 := sum_le g b l (fun y hy => h y (by simp [hy]))
    simp only [List.map_cons, List.sum_cons, List.length_cons, Nat.succ_mul]
    omega
theorem mem_sum {α : Type} (g : α → Nat) : ∀ (l : List α) (x : α), x ∈ l → g x ≤ (l.map g).sum
  | [], x, h => by cases h
  | y :: l, x, h => by
    simp only [List.map_cons, List.sum_cons]
    rcases List.mem_cons.1 h with rfl | h
    · omega
    · have := mem_sum g l x h
      omega
theorem line_sum (F b : Nat) : ∀ (l : List PT), (∀ x ∈ l, ∀ F, cnt F x ≤ b) → ((lineT l).map (cnt F)).sum ≤ l.length * b
  | [], _ => by simp [lineT]
  | x :: l, h => by
    have h1 := h x (by simp)
    have h2 := line_sum F b l (fun y hy => h y (by simp [hy]))
    have e : lineT (x :: l) = pieceT x ++ lineT l := by simp [lineT]
    have h3 : ((pieceT x).map (cnt F)).sum ≤ b := by
      unfold pieceT
      by_cases hk : x.s.kind = 1
      · rw [if_pos hk]
        have := h1 (F + 1)
        rw [cnt] at this
        omega
      · rw [if_neg hk]
        simpa using h1 F
    rw [e, List.map_append, List.sum_append, List.length_cons, Nat.succ_mul]
    omega
theorem cnt_cond (F : Nat) (c : List NodeD) (t : PT) : cnt F (condT c t) = cnt F t := by
  unfold condT
  by_cases h : 0 < c.length
  · rw [if_pos h]
    cases F <;> rfl
  · rw [if_neg h]
theorem cnt_plB {ss : List StepD} (hl : ss.length ≤ 24) : ∀ (f k F : Nat), cnt F (plB ss f k) ≤ SB f
  | 0, k, F => by
    cases F
    · simp [cnt, SB]
    · simp [cnt, plB, SB]
  | f + 1, k, 0 => by simp [cnt]
  | f + 1, k, F + 1 => by
    have hk := kids_le hl k
    have hm : ∀ x ∈ (kidsL ss k).map (plB ss f), ∀ F, cnt F x ≤ SB f := by
      intro x hx F
      obtain ⟨j, _, rfl⟩ := List.mem_map.1 hx
      exact cnt_plB hl f j F
    have hb : ((kidsL ss k).map (plB ss f)).length * SB f ≤ 24 * SB f := Nat.mul_le_mul_right _ (by simpa using hk)
    rw [plB]
    by_cases h1 : (PJ ss k).kind = 1
    · rw [if_pos h1]
      have hs := fun F => line_sum F (SB f) _ hm
      unfold wholeT
      by_cases h2 : (lineT ((kidsL ss k).map (plB ss f))).length = 1
      · rw [if_pos h2, cnt_cond, TJ_eq (by omega), SB]
        have h3 := mem_sum (cnt (F + 1)) (lineT ((kidsL ss k).map (plB ss f))) _ (List.getElem_mem (show 0 < _ by omega))
        have := hs (F + 1)
        omega
      · rw [if_neg h2, cnt, SB]
        have := hs F
        simp only
        omega
    · rw [if_neg h1, cnt, SB]
      have := sum_le (cnt F) (SB f) _ (fun x hx => hm x hx F)
      simp only
      omega
/-! ### how deep -/
theorem chain_one {es : List Tr.ElemD} : ∀ {l m : List Nat}, Chain es l → Chain es m → top l = top m → l = m
  | [], [], _, _, _ => rfl
  | [], b :: m, _, _, h => by have : (-1 : Int) = (b : Int) := h; omega
  | a :: l, [], _, _, h => by have : (a : Int) = (-1 : Int) := h; omega
  | a :: l, b :: m, h1, h2, h => by
    have e : a = b := by have : (a : Int) = (b : Int) := h; omega
    subst e
    obtain ⟨⟨e1, x1, y1⟩, _, z1⟩ := h1
    obtain ⟨⟨e2, x2, y2⟩, _, z2⟩ := h2
    have : e1 = e2 := Option.some.inj (x1.symm.trans x2)
    subst this
    rw [chain_one z1 z2 (y1.symm.trans y2)]
theorem kid_mem {ss : List StepD} {k j : Nat} (h : j ∈ kidsL ss k) : j < ss.length ∧ (PJ ss j).parent = (k : Int) := by
  unfold kidsL Pf.kidsN at h
  have := List.mem_filter.1 h
  exact ⟨List.mem_range.1 this.1, by simpa using this.2⟩
def deepG (ss : List StepD) (k : Nat) : Nat := (path ss (k + 1)).length
theorem deep_le {ss : List StepD} {k : Nat} (h : pFault ss = 0) (hk : k < ss.length) : deepG ss k ≤ 7 := (walked (ss := ss) (i := k + 1) hk (first_to (of_p h).2.1 hk)).deep
theorem kid_deep {ss : List StepD} {k j : Nat} (h : pFault ss = 0) (hk : k < ss.length) (hj : j ∈ kidsL ss k) : deepG ss j = deepG ss k + 1 := by
  obtain ⟨hj1, hj2⟩ := kid_mem hj
  have w1 := (walked (ss := ss) (i := j + 1) hj1 (first_to (of_p h).2.1 hj1)).chain
  have w2 := (walked (ss := ss) (i := k + 1) hk (first_to (of_p h).2.1 hk)).chain
  have e : path ss (j + 1) = j :: cutTo (PJ ss j).parent (path ss j) := rfl
  rw [e] at w1
  obtain ⟨⟨e1, x1, y1⟩, _, z1⟩ := w1
  have hp : e1.parent = (k : Int) := by
    rw [← hj2]
    have : (es ss)[j]? = some ⟨ss[j].name, ss[j].parent, []⟩ := by simp [es, hj1]
    rw [x1] at this
    cases this
    rw [PJ_eq hj1]
  have h3 := chain_one z1 w2 (by rw [← y1, hp]; rfl)
  unfold deepG
  rw [e, h3]
  simp
end Pl
end Go.Proofs.YtccklgopcjilcaaGreatDoor
