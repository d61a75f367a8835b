/- Laid together: PqA, IntsX, PqB. -/
import Derived.Test.YtpmlialjoonpeaaGreatDoorJEF30
import Derived.Test.YtpmlialjoonpeaaGreatDoorJEF35
import Derived.Test.YtpmlialjoonpeaaGreatDoorJEF1
import Derived.Test.YtpmlialjoonpeaaGreatDoorJEF2
import Derived.Deep.QuietTactic
import Derived.BigQuiet
import Derived.Laws.OwnMore
import Derived.RangeFuncBox
/- DeepOf, of the specification and of the program. Condition of the second: the table of rules lies as its initialiser lays it. -/
namespace Go.Proofs.YtpmlialjoonpeaaGreatDoor
open Go.RowKit
set_option linter.unusedVariables false
namespace Pf
open Ex (hid inR eFault)
open Nd (NodeD)
open St (StepD)
open Tr (Chain cutTo onPath top nf ElemD)
def deepN (ss : List StepD) : Nat → Nat
  | 0 => 0
  | n + 1 => max (deepN ss n) (path ss (n + 1)).length
def deepV (ss : List StepD) : Int := if pFault ss = 0 then (deepN ss ss.length : Int) else 0
theorem deepV_ok {ss : List StepD} (h : pFault ss = 0) : deepV ss = (deepN ss ss.length : Int) := by unfold deepV; rw [if_pos h]
theorem deepV_bad {ss : List StepD} (h : pFault ss ≠ 0) : deepV ss = 0 := by unfold deepV; rw [if_neg h]
theorem deep_le {ss : List StepD} (h : firstC (oneC ss) ss.length = 0) : ∀ {n : Nat}, n ≤ ss.length → deepN ss n ≤ 7
  | 0, _ => Nat.zero_le _
  | n + 1, hn => by
    have h1 := deep_le h (n := n) (by omega)
    have h2 := (walked hn (first_to h hn)).deep
    rw [deepN]
    omega
theorem kept_cell {B : Nat} {W w : World} (h : Below B W w) {b o : Nat} (hb : b < B) {v : Value} (hc : W.cell? ⟨b, o, none⟩ = some v) : w.cell? ⟨b, o, none⟩ = some v := (h.cell (p := ⟨b, o, none⟩) hb).trans hc
theorem kept_free {B : Nat} {W w : World} (h : Below B W w) {b o : Nat} (hb : b < B) (hc : W.frozen? ⟨b, o, none⟩ = false) : w.frozen? ⟨b, o, none⟩ = false := (h.frozen (p := ⟨b, o, none⟩) hb).trans hc
theorem ret2 {c d e f : Int} (h : c = d) (h2 : e = f) : Ending.returned (.agg #[.int .i64 c, .int .i64 e]) = .returned (.agg #[.int .i64 d, .int .i64 f]) := by rw [h, h2]
theorem specDeepAt (B : Nat) (ss : List StepD) (v : Value) (i : Nat) (w : World) (hl : ss.length ≤ 24) (hi : i < ss.length) (h1 : firstC (oneC ss) ss.length = 0) (ha : St.At w B v ss) :
    Calls Tryz.prog 157 #[v, .int .i64 (i : Int)] w fun e w' => e = .returned (.int .i64 ((path ss (i + 1)).length : Int)) ∧ w' = w := by
  have W := walked (ss := ss) (i := i + 1) (by omega) (first_to h1 (by omega))
  have h := specDeep B ss v (path ss (i + 1)) w hl W.chain (by have := W.deep; omega) ha
  rw [W.first] at h
  rw [show ((i + 1 : Nat) : Int) - 1 = (i : Int) by omega] at h
  exact h
end Pf
end Go.Proofs.YtpmlialjoonpeaaGreatDoor
/- The law's own helpers over lists of numbers: whether two are the same, marks written into one, and whether it still holds them. -/
namespace Go.Proofs.YtpmlialjoonpeaaGreatDoor
open Go.RowKit
set_option linter.unusedVariables false
namespace Ints
open Ex (hid)
def vals (xs : List Int) : List Value := xs.map fun x => .int .i64 x
/-- A slice of numbers that lies in memory. -/
def IntsAt (w : World) (v : Value) (xs : List Int) : Prop :=
  (v = .slice none 0 0 ∧ xs = []) ∨ ∃ g cap, v = .slice (some ⟨g, 0, none⟩) xs.length cap ∧ g < w.heap.size ∧ ∀ i x, xs[i]? = some x → w.cell? ⟨g, i, none⟩ = some (.int .i64 x)
theorem IntsAt.slice {w : World} {v : Value} {xs : List Int} (h : IntsAt w v xs) : ∃ a cap, v = .slice a xs.length cap := by
  rcases h with ⟨rfl, rfl⟩ | ⟨g, cap, rfl, _⟩
  · exact ⟨none, 0, rfl⟩
  · exact ⟨_, _, rfl⟩
theorem IntsAt.at {w : World} {a : Option Addr} {n cap : Nat} {xs : List Int} (h : IntsAt w (.slice a n cap) xs) {i : Nat} (hi : i < xs.length) : ∃ g, a = some ⟨g, 0, none⟩ ∧ g < w.heap.size ∧ w.cell? ⟨g, i, none⟩ = some (.int .i64 xs[i]) := by
  rcases h with ⟨_, rfl⟩ | ⟨g, cap, e, hg, hc⟩
  · simp at hi
  · cases e
    exact ⟨g, rfl, hg, hc i _ (List.getElem?_eq_getElem hi)⟩
theorem IntsAt.kept {w w' : World} {v : Value} {xs : List Int} (h : IntsAt w v xs) (hs : w.heap.size ≤ w'.heap.size) (hb : ∀ b, v.ownBlock = some b → b < w.heap.size → w'.heap[b]? = w.heap[b]?) : IntsAt w' v xs := by
  rcases h with h | ⟨g, cap, rfl, hg, hc⟩
  · exact .inl h
  · exact .inr ⟨g, cap, rfl, Nat.lt_of_lt_of_le hg hs, fun i x hx => by simp only [World.cell?, hb g rfl hg]; exact hc i x hx⟩
theorem IntsAt.below {w w' : World} {v : Value} {xs : List Int} (h : IntsAt w v xs) (hb : Below w.heap.size w w') : IntsAt w' v xs := h.kept hb.size (fun b _ h => hb.block b h)
theorem IntsAt.of {w : World} {base : Nat} {v : Value} {xs : List Int} (h : w.ownsRow base 2 1 v xs.length (vals xs)) : IntsAt w v xs := by
  obtain ⟨hl, ⟨rfl, h0⟩ | ⟨g, cap, cur, rfl, hbg, hg, hle, hm, hs, ht⟩⟩ := h
  · exact .inl ⟨rfl, List.length_eq_zero_iff.1 h0⟩
  · refine .inr ⟨g, cap, rfl, (Array.getElem?_eq_some_iff.1 hg).1, fun i t hti => ?_⟩
    have hi : i < xs.length := (List.getElem?_eq_some_iff.1 hti).1
    have : cur[i]? = some (.int .i64 t) := by
      have h2 := congrArg (·[i]?) ht
      simp only [vals, Nat.mul_one, List.getElem?_take, List.getElem?_map, hti, Option.map_some, hi, if_true] at h2
      simpa using h2
    simp [World.cell?, hg, this]
theorem below_drewN {B : Nat} {a w : World} (h : Below B a w) (n : Nat) : Below B a (w.drewN n) := ⟨h.os, h.tape, h.output, h.size, h.block⟩
set_option maxRecDepth 100000 in
set_option maxHeartbeats 2000000 in
theorem eqS (v1 v2 : Value) (xs : List Int) (w : World) (hn : xs.length ≤ 1048576) (h1 : IntsAt w v1 xs) (h2 : IntsAt w v2 xs) :
    Calls Tryz.prog 27 #[v1, v2] w fun e w' => e = .returned (.bool true) ∧ Below w.heap.size w w' := by
  obtain ⟨a1, c1, rfl⟩ := h1.slice
  obtain ⟨a2, c2, rfl⟩ := h2.slice
  have H1 := hid h1
  have H2 := hid h2
  clear h1 h2
  have hb : ((xs.length : Int) != (xs.length : Int)) = false := by simp
  go_enter Tryz.func27, Tryz.ntmps27
  go_wp2
  go_loopw [5] (fun i wr => ∃ k : Nat, i = .int .i64 k ∧ k ≤ xs.length ∧ Below w.heap.size w wr) (fun i _ => xs.length - (intOf i).toNat)
  case atStart => exact ⟨0, rfl, Nat.zero_le _, Below.refl _ _⟩
  case round =>
    obtain ⟨k, rfl, hk, hbel⟩ := hrel
    by_cases hlt : k < xs.length
    · obtain ⟨g1, rfl, hg1, hc1⟩ := (H1.out.below hbel).at hlt
      obtain ⟨g2, rfl, hg2, hc2⟩ := (H2.out.below hbel).at hlt
      generalize xs[k] = x at *
      have hne : (x != x) = false := by simp
      have hne2 : (x == x) = true := by simp
      have q1 : (k : Int) < (xs.length : Int) := by omega
      go_wp2
      go_quiet (fail)
      go_wp2
      exact ⟨⟨k + 1, by simp, by omega, below_drewN hbel nq⟩, by simp [intOf]; omega⟩
    · go_wp2
      go_ret
      exact ⟨rfl, hbel⟩
def marksTo (n : Nat) : List Int := (List.range n).map fun (i : Nat) => (i : Int) + 1
theorem marksTo_len (n : Nat) : (marksTo n).length = n := by simp [marksTo]
theorem marksTo_succ (n : Nat) : marksTo (n + 1) = marksTo n ++ [(n : Int) + 1] := by simp [marksTo, List.range_succ]
theorem marksTo_get {n i : Nat} (h : i < n) : (marksTo n)[i]? = some ((i : Int) + 1) := by simp [marksTo, h]
def half (xs : List Int) (i : Nat) : List Int := marksTo i ++ xs.drop i
theorem half_set {xs : List Int} {i : Nat} (h : i < xs.length) : (half xs i).set i ((i : Int) + 1) = half xs (i + 1) := by
  unfold half
  rw [marksTo_succ, List.drop_eq_getElem_cons h, List.set_append_right _ _ (Nat.le_of_eq (marksTo_len i)), marksTo_len, Nat.sub_self, List.set_cons_zero, List.append_assoc]
  rfl
theorem owns_cell {w : World} {base g n cap i : Nat} {e : TypeId} {xs : List Value} (h : w.ownsRow base e 1 (.slice (some ⟨g, 0, none⟩) n cap) n xs) (hi : i < n) :
    (∃ u, w.cell? ⟨g, i, none⟩ = some u) ∧ w.frozen? ⟨g, i, none⟩ = false ∧ base ≤ g ∧ g < w.heap.size := by
  obtain ⟨hl, ⟨h0, _⟩ | ⟨g', cap', cur, hv, hbg, hg, hle, hm, hs, ht⟩⟩ := h
  · cases h0
  · cases hv
    have hlt : i < cur.size := by omega
    exact ⟨⟨cur[i], by simp [World.cell?, hg, hlt]⟩, by simp [World.frozen?, hg], hbg, (Array.getElem?_eq_some_iff.1 hg).1⟩
theorem owns_some {w : World} {base n : Nat} {e : TypeId} {v : Value} {xs : List Value} (h : w.ownsRow base e 1 v n xs) (hn : 0 < n) : ∃ g cap, v = .slice (some ⟨g, 0, none⟩) n cap := by
  obtain ⟨hl, ⟨_, h0⟩ | ⟨g', cap', cur, hv, _⟩⟩ := h
  · omega
  · exact ⟨_, _, hv⟩
theorem owns_slice {w : World} {base n : Nat} {e : TypeId} {v : Value} {xs : List Value} (h : w.ownsRow base e 1 v n xs) : ∃ a cap, v = .slice a n cap := by
  obtain ⟨hl, ⟨rfl, rfl⟩ | ⟨g', cap', cur, hv, _⟩⟩ := h
  · exact ⟨_, _, rfl⟩
  · exact ⟨_, _, hv⟩
theorem owns_below {w w' : World} {base : Nat} {e : TypeId} {size n : Nat} {v : Value} {xs : List Value} (h : w.ownsRow base e size v n xs) (hb : Below w.heap.size w w') : w'.ownsRow base e size v n xs :=
  h.kept (row := none) ⟨hb.os, hb.tape, hb.output, hb.size, fun k hk _ => hb.block k hk⟩ (by cases v.ownBlock <;> simp)
theorem grown_refl (w : World) (row : Option Nat) : w.grownBy w row := ⟨rfl, rfl, rfl, Nat.le_refl _, fun _ _ _ => rfl⟩
theorem grown_after {w w1 w2 : World} {row : Option Nat} (h : w.grownBy w1 row) (h2 : w1.grownBy w2 row) : w.grownBy w2 row :=
  ⟨h2.os.trans h.os, h2.tape.trans h.tape, h2.output.trans h.output, Nat.le_trans h.size h2.size, fun k hk hr => (h2.block k (Nat.lt_of_lt_of_le hk h.size) hr).trans (h.block k hk hr)⟩
theorem grown_set {w w1 : World} {g : Nat} (h : w.grownBy w1 (some g)) (i : Nat) (u : Value) : w.grownBy (w1.setCell ⟨g, i, none⟩ u) (some g) :=
  grown_after h ⟨rfl, rfl, rfl, by simp [World.setCell], fun k hk hr => Below.heap_setCell _ _ _ _ (fun e => hr (by rw [e]))⟩
set_option maxRecDepth 100000 in
set_option maxHeartbeats 2000000 in
theorem markS (B : Nat) (v : Value) (xs : List Int) (w : World) (hn : xs.length ≤ 1048576) (h : w.ownsRow B 2 1 v xs.length (vals xs)) :
    Calls Tryz.prog 29 #[v, .int .i64 1] w fun e w' => e = .returned (.int .i64 (1 + (xs.length : Int))) ∧ w'.ownsRow B 2 1 v xs.length (vals (marksTo xs.length)) ∧ w.grownBy w' v.ownBlock := by
  obtain ⟨a, cap, rfl⟩ := owns_slice h
  have HO := hid h
  clear h
  go_enter Tryz.func29, Tryz.ntmps29
  go_wp2
  go_loopw [1, 5] (fun q i wr => ∃ k : Nat, i = .int .i64 k ∧ q = .int .i64 (1 + (k : Int)) ∧ k ≤ xs.length ∧ Hid (wr.ownsRow B 2 1 (.slice a xs.length cap) xs.length (vals (half xs k))) ∧ w.grownBy wr (Value.slice a xs.length cap).ownBlock) (fun _ i _ => xs.length - (intOf i).toNat)
  case atStart => exact ⟨0, rfl, rfl, Nat.zero_le _, hid (by simpa [half, marksTo] using HO.out), grown_refl _ _⟩
  case round =>
    obtain ⟨k, rfl, rfl, hk, HR, hbel⟩ := hrel
    by_cases hlt : k < xs.length
    · obtain ⟨g, c2, e2⟩ := owns_some HR.out (by omega)
      cases e2
      have q1 : (k : Int) < (xs.length : Int) := by omega
      obtain ⟨⟨u, hcu⟩, hfu, hbg, hgl⟩ := owns_cell HR.out hlt
      have HS : Hid ((wr.setCell ⟨g, k, none⟩ (.int .i64 (1 + (k : Int)))).ownsRow B 2 1 (.slice (some ⟨g, 0, none⟩) xs.length cap) xs.length (vals (half xs (k + 1)))) := hid (by
        have h := (HR.out.stored k (.int .i64 (1 + (k : Int)))).1
        have e : (vals (half xs k)).set k (.int .i64 (1 + (k : Int))) = vals (half xs (k + 1)) := by
          unfold vals
          rw [show (1 + (k : Int)) = (k : Int) + 1 by omega, ← half_set hlt]
          simp
        rw [e] at h
        exact h)
      have hb2 : w.grownBy (wr.setCell ⟨g, k, none⟩ (.int .i64 (1 + (k : Int)))) (some g) := grown_set hbel k _
      go_wp2
      exact ⟨⟨k + 1, by simp, by simp; omega, by omega, HS, hb2⟩, by simp [intOf]; omega⟩
    · obtain rfl : k = xs.length := by omega
      have HS : Hid (wr.ownsRow B 2 1 (.slice a xs.length cap) xs.length (vals (marksTo xs.length))) := hid (by simpa [half] using HR.out)
      go_wp2
      go_ret
      exact ⟨rfl, HS.out, hbel⟩
set_option maxRecDepth 100000 in
set_option maxHeartbeats 2000000 in
theorem heldS (v : Value) (n : Nat) (w : World) (hn : n ≤ 1048576) (h : IntsAt w v (marksTo n)) :
    Calls Tryz.prog 130 #[v, .int .i64 1] w fun e w' => e = .returned (.int .i64 (1 + (n : Int))) ∧ w' = w := by
  obtain ⟨a, cap, rfl⟩ := h.slice
  rw [marksTo_len] at h ⊢
  have H1 := hid h
  clear h
  go_enter Tryz.func130, Tryz.ntmps130
  go_wp2
  go_loop [1, 5] (fun q i => ∃ k : Nat, i = .int .i64 k ∧ q = .int .i64 (1 + (k : Int)) ∧ k ≤ n) (fun _ i => n - (intOf i).toNat)
  case atStart => exact ⟨0, rfl, rfl, Nat.zero_le _⟩
  case round =>
    obtain ⟨k, rfl, rfl, hk⟩ := hrel
    by_cases hlt : k < n
    · obtain ⟨g, rfl, hg, hc⟩ := H1.out.at (i := k) (by rw [marksTo_len]; exact hlt)
      have hmt : (marksTo n)[k]'(by rw [marksTo_len]; exact hlt) = 1 + (k : Int) := by
        have h := marksTo_get hlt
        rw [List.getElem?_eq_getElem (by rw [marksTo_len]; exact hlt)] at h
        rw [Option.some.inj h]; omega
      rw [hmt] at hc
      have hne : ((1 + (k : Int)) != (1 + (k : Int))) = false := by simp
      clear hmt
      have q1 : (k : Int) < (n : Int) := by omega
      go_wp2
      exact ⟨⟨k + 1, by simp, by simp; omega, by omega⟩, by simp [intOf]; omega⟩
    · obtain rfl : k = n := by omega
      go_wp2
      go_ret
      exact ⟨rfl, rfl⟩
end Ints
end Go.Proofs.YtpmlialjoonpeaaGreatDoor
/- LeavesOf, of the specification and of the program. Condition of the second: the table of rules lies as its initialiser lays it. -/
namespace Go.Proofs.YtpmlialjoonpeaaGreatDoor
open Go.RowKit
set_option linter.unusedVariables false
namespace Pf
open Ex (hid inR eFault)
open Nd (NodeD)
open St (StepD)
open Tr (Chain cutTo onPath top nf ElemD)
open Pt (kidVals infoI64 info_parts)
open Ints (vals IntsAt)
def intsOf (l : List Nat) : List Int := l.map fun (n : Nat) => (n : Int)
theorem kidVals_eq (l : List Nat) : kidVals l = vals (intsOf l) := by simp [kidVals, vals, intsOf]
theorem intsOf_len (l : List Nat) : (intsOf l).length = l.length := by simp [intsOf]
def leafK (k : Int) : Bool := (k == 2) || (k == 5) || (k == 6)
def leavesN (ss : List StepD) (n : Nat) : List Nat := (List.range n).filter fun i => leafK (PJ ss i).kind
theorem leavesN_succ (ss : List StepD) (n : Nat) : leavesN ss (n + 1) = leavesN ss n ++ (if leafK (PJ ss n).kind = true then [n] else []) := by
  unfold leavesN
  rw [List.range_succ, List.filter_append]
  congr 1
  cases h : leafK (PJ ss n).kind
  · simp [h]
  · simp [h]
theorem leavesN_le (ss : List StepD) (n : Nat) : (leavesN ss n).length ≤ n := by
  unfold leavesN
  have := List.length_filter_le (fun i => leafK (PJ ss i).kind) (List.range n)
  simpa using this
def leavesL (ss : List StepD) : List Int := if pFault ss = 0 then intsOf (leavesN ss ss.length) else []
theorem leaves_ok {ss : List StepD} (h : pFault ss = 0) : leavesL ss = intsOf (leavesN ss ss.length) := by unfold leavesL; rw [if_pos h]
theorem leaves_bad {ss : List StepD} (h : pFault ss ≠ 0) : leavesL ss = [] := by unfold leavesL; rw [if_neg h]
theorem leavesL_len {ss : List StepD} : (leavesL ss).length ≤ ss.length := by
  unfold leavesL
  split
  · rw [intsOf_len]; exact leavesN_le ss ss.length
  · exact Nat.zero_le _
/-- What a function answers that answers a list of numbers. -/
def IPost (c : Int) (l : List Int) (w : World) (e : Ending) (w' : World) : Prop :=
  (∃ u, e = .returned (.agg #[.int .i64 c, u]) ∧ w'.ownsRow (w.heap.size + 1) 2 1 u l.length (vals l)) ∧ Below w.heap.size w w'
theorem retI {c d : Int} {v : Value} (h : c = d) : Ending.returned (.agg #[.int .i64 c, v]) = .returned (.agg #[.int .i64 d, v]) := by rw [h]
theorem own_set {w : World} {B n b c : Nat} {v u : Value} {xs : List Value} (h : w.ownsRow B 2 1 v n xs) (hb : b < B) : (w.setCell ⟨b, c, none⟩ u).ownsRow B 2 1 v n xs := ownsRow_setCell_below h (a := ⟨b, c, none⟩) hb u
theorem own_mono {w : World} {B B' n : Nat} {e : TypeId} {sz : Nat} {v : Value} {xs : List Value} (h : w.ownsRow B e sz v n xs) (hb : B' ≤ B) : w.ownsRow B' e sz v n xs := by
  refine ⟨h.1, ?_⟩
  rcases h.2 with h | ⟨g, cap, cur, rfl, h1, r⟩
  · exact .inl h
  · exact .inr ⟨g, cap, cur, rfl, Nat.le_trans hb h1, r⟩
end Pf
end Go.Proofs.YtpmlialjoonpeaaGreatDoor
