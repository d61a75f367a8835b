/- The law's own helpers over lists of numbers: whether two are the same, marks written into one, and whether it still holds them. -/
import Derived.Test.YtepfkfhbkbkepaaDoorNd
import Derived.Test.YtepfkfhbkbkepaaDoorExM
import Derived.Deep.QuietTactic
import Derived.BigQuiet
import Derived.Laws.OwnMore
import Derived.RangeFuncBox
namespace Go.Proofs.YtepfkfhbkbkepaaDoor
open Go.RowKit
set_option linter.unusedVariables false
namespace Ints
open Ex (hid)
def vals (xs : List Int) : List Value := xs.map fun x => .int .i64 x
/-- A slice of numbers that lies in memory. -/
def IntsAt (w : World) (v : Value) (xs : List Int) : Prop :=
  (v = .slice none 0 0 ∧ xs = []) ∨ ∃ g cap, v = .slice (some ⟨g, 0, none⟩) xs.length cap ∧ g < w.heap.size ∧ ∀ i x, xs[i]? = some x → w.cell? ⟨g, i, none⟩ = some (.int .i64 x)
theorem IntsAt.slice {w : World} {v : Value} {xs : List Int} (h : IntsAt w v xs) : ∃ a cap, v = .slice a xs.length cap := by
  rcases h with ⟨rfl, rfl⟩ | ⟨g, cap, rfl, _⟩
  · exact ⟨none, 0, rfl⟩
  · exact ⟨_, _, rfl⟩
theorem IntsAt.at {w : World} {a : Option Addr} {n cap : Nat} {xs : List Int} (h : IntsAt w (.slice a n cap) xs) {i : Nat} (hi : i < xs.length) : ∃ g, a = some ⟨g, 0, none⟩ ∧ g < w.heap.size ∧ w.cell? ⟨g, i, none⟩ = some (.int .i64 xs[i]) := by
  rcases h with ⟨_, rfl⟩ | ⟨g, cap, e, hg, hc⟩
  · simp at hi
  · cases e
    exact ⟨g, rfl, hg, hc i _ (List.getElem?_eq_getElem hi)⟩
theorem IntsAt.kept {w w' : World} {v : Value} {xs : List Int} (h : IntsAt w v xs) (hs : w.heap.size ≤ w'.heap.size) (hb : ∀ b, v.ownBlock = some b → b < w.heap.size → w'.heap[b]? = w.heap[b]?) : IntsAt w' v xs := by
  rcases h with h | ⟨g, cap, rfl, hg, hc⟩
  · exact .inl h
  · exact .inr ⟨g, cap, rfl, Nat.lt_of_lt_of_le hg hs, fun i x hx => by simp only [World.cell?, hb g rfl hg]; exact hc i x hx⟩
theorem IntsAt.below {w w' : World} {v : Value} {xs : List Int} (h : IntsAt w v xs) (hb : Below w.heap.size w w') : IntsAt w' v xs := h.kept hb.size (fun b _ h => hb.block b h)
theorem IntsAt.of {w : World} {base : Nat} {v : Value} {xs : List Int} (h : w.ownsRow base 2 1 v xs.length (vals xs)) : IntsAt w v xs := by
  obtain ⟨hl, ⟨rfl, h0⟩ | ⟨g, cap, cur, rfl, hbg, hg, hle, hm, hs, ht⟩⟩ := h
  · exact .inl ⟨rfl, List.length_eq_zero_iff.1 h0⟩
  · refine .inr ⟨g, cap, rfl, (Array.getElem?_eq_some_iff.1 hg).1, fun i t hti => ?_⟩
    have hi : i < xs.length := (List.getElem?_eq_some_iff.1 hti).1
    have : cur[i]? = some (.int .i64 t) := by
      have h2 := congrArg (·[i]?) ht
      simp only [vals, Nat.mul_one, List.getElem?_take, List.getElem?_map, hti, Option.map_some, hi, if_true] at h2
      simpa using h2
    simp [World.cell?, hg, this]
theorem below_drewN {B : Nat} {a w : World} (h : Below B a w) (n : Nat) : Below B a (w.drewN n) := ⟨h.os, h.tape, h.output, h.size, h.block⟩
def marksTo (n : Nat) : List Int := (List.range n).map fun (i : Nat) => (i : Int) + 1
theorem marksTo_len (n : Nat) : (marksTo n).length = n := by simp [marksTo]
theorem marksTo_succ (n : Nat) : marksTo (n + 1) = marksTo n ++ [(n : Int) + 1] := by simp [marksTo, List.range_succ]
theorem marksTo_get {n i : Nat} (h : i < n) : (marksTo n)[i]? = some ((i : Int) + 1) := by simp [marksTo, h]
def half (xs : List Int) (i : Nat) : List Int := marksTo i ++ xs.drop i
theorem half_set {xs : List Int} {i : Nat} (h : i < xs.length) : (half xs i).set i ((i : Int) + 1) = half xs (i + 1) := by
  unfold half
  rw [marksTo_succ, List.drop_eq_getElem_cons h, List.set_append_right _ _ (Nat.le_of_eq (marksTo_len i)), marksTo_len, Nat.sub_self, List.set_cons_zero, List.append_assoc]
  rfl
theorem owns_cell {w : World} {base g n cap i : Nat} {e : TypeId} {xs : List Value} (h : w.ownsRow base e 1 (.slice (some ⟨g, 0, none⟩) n cap) n xs) (hi : i < n) :
    (∃ u, w.cell? ⟨g, i, none⟩ = some u) ∧ w.frozen? ⟨g, i, none⟩ = false ∧ base ≤ g ∧ g < w.heap.size := by
  obtain ⟨hl, ⟨h0, _⟩ | ⟨g', cap', cur, hv, hbg, hg, hle, hm, hs, ht⟩⟩ := h
  · cases h0
  · cases hv
    have hlt : i < cur.size := by omega
    exact ⟨⟨cur[i], by simp [World.cell?, hg, hlt]⟩, by simp [World.frozen?, hg], hbg, (Array.getElem?_eq_some_iff.1 hg).1⟩
theorem owns_some {w : World} {base n : Nat} {e : TypeId} {v : Value} {xs : List Value} (h : w.ownsRow base e 1 v n xs) (hn : 0 < n) : ∃ g cap, v = .slice (some ⟨g, 0, none⟩) n cap := by
  obtain ⟨hl, ⟨_, h0⟩ | ⟨g', cap', cur, hv, _⟩⟩ := h
  · omega
  · exact ⟨_, _, hv⟩
theorem owns_slice {w : World} {base n : Nat} {e : TypeId} {v : Value} {xs : List Value} (h : w.ownsRow base e 1 v n xs) : ∃ a cap, v = .slice a n cap := by
  obtain ⟨hl, ⟨rfl, rfl⟩ | ⟨g', cap', cur, hv, _⟩⟩ := h
  · exact ⟨_, _, rfl⟩
  · exact ⟨_, _, hv⟩
theorem owns_below {w w' : World} {base : Nat} {e : TypeId} {size n : Nat} {v : Value} {xs : List Value} (h : w.ownsRow base e size v n xs) (hb : Below w.heap.size w w') : w'.ownsRow base e size v n xs :=
  h.kept (row := none) ⟨hb.os, hb.tape, hb.output, hb.size, fun k hk _ => hb.block k hk⟩ (by cases v.ownBlock <;> simp)
theorem grown_refl (w : World) (row : Option Nat) : w.grownBy w row := ⟨rfl, rfl, rfl, Nat.le_refl _, fun _ _ _ => rfl⟩
theorem grown_after {w w1 w2 : World} {row : Option Nat} (h : w.grownBy w1 row) (h2 : w1.grownBy w2 row) : w.grownBy w2 row :=
  ⟨h2.os.trans h.os, h2.tape.trans h.tape, h2.output.trans h.output, Nat.le_trans h.size h2.size, fun k hk hr => (h2.block k (Nat.lt_of_lt_of_le hk h.size) hr).trans (h.block k hk hr)⟩
theorem grown_set {w w1 : World} {g : Nat} (h : w.grownBy w1 (some g)) (i : Nat) (u : Value) : w.grownBy (w1.setCell ⟨g, i, none⟩ u) (some g) :=
  grown_after h ⟨rfl, rfl, rfl, by simp [World.setCell], fun k hk hr => Below.heap_setCell _ _ _ _ (fun e => hr (by rw [e]))⟩
end Ints
end Go.Proofs.YtepfkfhbkbkepaaDoor
