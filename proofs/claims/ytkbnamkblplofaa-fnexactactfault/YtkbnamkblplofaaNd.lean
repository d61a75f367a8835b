/- Lists of nodes in memory, and what the law does with them: measured, copied, compared. -/
import Derived.Test.YtkbnamkblplofaaProg
import Derived.WalkKit
import Derived.Below
import Derived.WalkSpells
import Derived.WalkLawsBesides
import Derived.ProofKit
import Derived.OpenShut
import Derived.Deep.Slices
import Derived.Deep.QuietTactic
import Derived.BigQuiet
import Derived.BigRegion
import Derived.Deep.RegionWith
import Derived.Deep.OwnRows
import Derived.Laws.MakeOwn
namespace Go.Proofs.Ytkbnamkblplofaa
open Go.RowKit Go.Deep
set_option linter.unusedVariables false
namespace Nd
structure NodeD where
  kind : Int
  value : Int
  left : Int
  right : Int
def At (w : World) (B : Nat) (v : Value) (xs : List NodeD) : Prop :=
  ∃ a cap, v = .slice a xs.length cap ∧ xs.length ≤ cap ∧ cap ≤ maxLen ∧ (xs = [] ∨ ∃ g o, a = some ⟨g, o, none⟩ ∧ B ≤ g ∧ g < w.heap.size ∧ ∀ i (h : i < xs.length), w.cell? ⟨g, o + i * 4, none⟩ = some (.int .i64 xs[i].kind) ∧ w.cell? ⟨g, o + i * 4 + 1, none⟩ = some (.int .i64 xs[i].value) ∧ w.cell? ⟨g, o + i * 4 + 2, none⟩ = some (.int .i64 xs[i].left) ∧ w.cell? ⟨g, o + i * 4 + 3, none⟩ = some (.int .i64 xs[i].right))
theorem At.kept {w w' : World} {B : Nat} {v : Value} {xs : List NodeD} (h : At w B v xs) (hs : w.heap.size ≤ w'.heap.size) (hb : ∀ g, B ≤ g → g < w.heap.size → w'.heap[g]? = w.heap[g]?) : At w' B v xs := by
  obtain ⟨a, cap, rfl, hle, hmx, h⟩ := h
  refine ⟨a, cap, rfl, hle, hmx, ?_⟩
  rcases h with h | ⟨g, o, rfl, hB, hg, hc⟩
  · exact .inl h
  · refine .inr ⟨g, o, rfl, hB, Nat.lt_of_lt_of_le hg hs, fun i hi => ?_⟩
    have e : ∀ off, w'.cell? ⟨g, off, none⟩ = w.cell? ⟨g, off, none⟩ := fun off => by simp only [World.cell?, hb g hB hg]
    simp only [e]
    exact hc i hi
theorem At.below {w w' : World} {B : Nat} {v : Value} {xs : List NodeD} (h : At w B v xs) (hb : Below w.heap.size w w') : At w' B v xs := h.kept hb.size (fun g _ hg => hb.block g hg)
theorem At.setBelow {w : World} {B : Nat} {v : Value} {xs : List NodeD} (h : At w B v xs) {b o : Nat} (ha : b < B) (x : Value) : At (w.setCell ⟨b, o, none⟩ x) B v xs :=
  h.kept (by simp [World.setCell]) (fun g hg _ => Below.heap_setCell _ _ _ _ (by dsimp only; omega))
theorem At.mono {w : World} {B B' : Nat} {v : Value} {xs : List NodeD} (h : At w B v xs) (hB : B' ≤ B) : At w B' v xs := by
  obtain ⟨a, cap, rfl, hle, hmx, h⟩ := h
  refine ⟨a, cap, rfl, hle, hmx, ?_⟩
  rcases h with h | ⟨g, o, rfl, hb, hg, hc⟩
  · exact .inl h
  · exact .inr ⟨g, o, rfl, Nat.le_trans hB hb, hg, hc⟩
theorem At.slice {w : World} {B : Nat} {v : Value} {xs : List NodeD} (h : At w B v xs) : ∃ a cap, v = .slice a xs.length cap := by
  obtain ⟨a, cap, rfl, _⟩ := h; exact ⟨a, cap, rfl⟩
theorem At.at {w : World} {B : Nat} {a : Option Addr} {n cap : Nat} {xs : List NodeD} (h : At w B (.slice a n cap) xs) {i : Nat} (hi : i < xs.length) :
    ∃ g o, a = some ⟨g, o, none⟩ ∧ g < w.heap.size ∧ w.cell? ⟨g, o + i * 4, none⟩ = some (.int .i64 xs[i].kind) ∧ w.cell? ⟨g, o + i * 4 + 1, none⟩ = some (.int .i64 xs[i].value) ∧ w.cell? ⟨g, o + i * 4 + 2, none⟩ = some (.int .i64 xs[i].left) ∧ w.cell? ⟨g, o + i * 4 + 3, none⟩ = some (.int .i64 xs[i].right) := by
  obtain ⟨a', cap', e, _, _, h⟩ := h
  cases e
  rcases h with h | ⟨g, o, rfl, _, hg, hc⟩
  · subst h; simp at hi
  · exact ⟨g, o, rfl, hg, hc i hi⟩
theorem At.cap {w : World} {B : Nat} {a : Option Addr} {n cap : Nat} {xs : List NodeD} (h : At w B (.slice a n cap) xs) : xs.length ≤ cap ∧ cap ≤ maxLen := by
  obtain ⟨a', cap', e, h1, h2, _⟩ := h; cases e; exact ⟨h1, h2⟩
theorem cellsI64 : Try.prog.cellsOf 2 = 1 := by kernel_rfl
section
variable {H : Type} {enc : TypeId × Value → H} {w : World} {base : Nat} {spare : Nat → Bool} {held : Bool} {fuel : Nat}
theorem add_add (a : Addr) (x y : Nat) : (a.add x).add y = a.add (x + y) := by
  unfold Addr.add
  by_cases hx : x = 0
  · simp [hx]
  · by_cases hy : y = 0
    · simp [hy]
    · simp [hx, hy, Nat.add_assoc]
theorem lt_of_cell {a : Addr} {v : Value} (h : w.cell? a = some v) : a.block < w.heap.size := by
  rcases Nat.lt_or_ge a.block w.heap.size with h1 | h1
  · exact h1
  · simp [World.cell?, Array.getElem?_eq_none h1] at h
end
theorem make_row {P : Program} {t e : TypeId} {z : Value} {sz bytes : Nat} (ht : P.underlying t = some (.slice e)) (hinfo : (P.info? e).map (fun i => (i.zero, i.size, i.bytes)) = some (some z, sz, bytes))
    (n : Nat) (hb : bytes * n ≤ 281474976710656) (hn : n ≤ 9223372036854775807) (w : World) :
    (Instr.makeSlice t (.int .i64 (n : Int)) (.int .i64 (n : Int))).run P w = .ok (.slice (some ⟨w.heap.size, 0, none⟩) n n) (w.alloc (.cells (madeCells z.cells (n * sz)) e)) := by
  cases hi : P.info? e with
  | none => rw [hi] at hinfo; cases hinfo
  | some i =>
    rw [hi] at hinfo
    simp only [Option.map_some, Option.some.injEq, Prod.mk.injEq] at hinfo
    obtain ⟨h1, h2, h3⟩ := hinfo
    have hb' : (i.bytes : Int) * (n : Int) ≤ 281474976710656 := by
      have h : ((i.bytes * n : Nat) : Int) ≤ 281474976710656 := by rw [h3]; omega
      rwa [Int.natCast_mul] at h
    have h := run_make (P := P) w t e i z ht hi h1 .i64 .i64 n n (by omega) (Int.le_refl _) hb' (by omega)
    rw [h2] at h
    simpa using h
theorem made_row (w : World) (z : Array Value) (n : Nat) (e : TypeId) : ∃ f, (w.alloc (.cells (madeCells z n) e)).rowIs w.heap.size e n f := by
  have h := World.rowIs_alloc w (madeCells z n) e (fun i => (madeCells z n)[i]!) (fun i hi => by simp [hi])
  rw [size_madeCells] at h
  exact ⟨_, h⟩
theorem row_at {w : World} {g : Nat} {t : TypeId} {f : Nat → Value} {xs : List NodeD} (h : w.rowIs g t (xs.length * 4) f)
    (hf : ∀ j (hj : j < xs.length), f (j * 4) = .int .i64 xs[j].kind ∧ f (j * 4 + 1) = .int .i64 xs[j].value ∧ f (j * 4 + 2) = .int .i64 xs[j].left ∧ f (j * 4 + 3) = .int .i64 xs[j].right) (cap : Nat) (hc : xs.length ≤ cap) (hm : cap ≤ maxLen) : At w g (.slice (some ⟨g, 0, none⟩) xs.length cap) xs := by
  refine ⟨_, _, rfl, hc, hm, .inr ⟨g, 0, rfl, Nat.le_refl _, h.lt, fun i hi => ?_⟩⟩
  have h1 := hf i hi
  simp only [Nat.zero_add]
  obtain ⟨e0, e1, e2, e3⟩ := h1
  rw [← e0, ← e1, ← e2, ← e3]
  exact ⟨h.cell (by omega), h.cell (by omega), h.cell (by omega), h.cell (by omega)⟩
theorem setOne {w : World} {g : Nat} {t : TypeId} {k : Nat} {f : Nat → Value} {xs : List NodeD} (h : w.rowIs g t (xs.length * 4) f)
    (hf : ∀ j (hj : j < xs.length), j < k → f (j * 4) = .int .i64 xs[j].kind ∧ f (j * 4 + 1) = .int .i64 xs[j].value ∧ f (j * 4 + 2) = .int .i64 xs[j].left ∧ f (j * 4 + 3) = .int .i64 xs[j].right) (hk : k < xs.length) :
    ∃ f', ((((w.setCell ⟨g, k * 4, none⟩ (.int .i64 xs[k].kind)).setCell ⟨g, k * 4 + 1, none⟩ (.int .i64 xs[k].value)).setCell ⟨g, k * 4 + 2, none⟩ (.int .i64 xs[k].left)).setCell ⟨g, k * 4 + 3, none⟩ (.int .i64 xs[k].right)).rowIs g t (xs.length * 4) f' ∧ ∀ j (hj : j < xs.length), j < k + 1 → f' (j * 4) = .int .i64 xs[j].kind ∧ f' (j * 4 + 1) = .int .i64 xs[j].value ∧ f' (j * 4 + 2) = .int .i64 xs[j].left ∧ f' (j * 4 + 3) = .int .i64 xs[j].right := by
  refine ⟨_, ((((h.set (k * 4) _).set (k * 4 + 1) _).set (k * 4 + 2) _).set (k * 4 + 3) _), fun j hj hjk => ?_⟩
  by_cases e : j = k
  · subst e
    exact ⟨by simp, by simp, by simp, by simp⟩
  · have h1 := hf j hj (by omega)
    have n00 : ¬ j * 4 = k * 4 := by omega
    have n01 : ¬ j * 4 = k * 4 + 1 := by omega
    have n02 : ¬ j * 4 = k * 4 + 2 := by omega
    have n03 : ¬ j * 4 = k * 4 + 3 := by omega
    have n10 : ¬ j * 4 + 1 = k * 4 := by omega
    have n11 : ¬ j * 4 + 1 = k * 4 + 1 := by omega
    have n12 : ¬ j * 4 + 1 = k * 4 + 2 := by omega
    have n13 : ¬ j * 4 + 1 = k * 4 + 3 := by omega
    have n20 : ¬ j * 4 + 2 = k * 4 := by omega
    have n21 : ¬ j * 4 + 2 = k * 4 + 1 := by omega
    have n22 : ¬ j * 4 + 2 = k * 4 + 2 := by omega
    have n23 : ¬ j * 4 + 2 = k * 4 + 3 := by omega
    have n30 : ¬ j * 4 + 3 = k * 4 := by omega
    have n31 : ¬ j * 4 + 3 = k * 4 + 1 := by omega
    have n32 : ¬ j * 4 + 3 = k * 4 + 2 := by omega
    have n33 : ¬ j * 4 + 3 = k * 4 + 3 := by omega
    simp only [n00, n01, n02, n03, n10, n11, n12, n13, n20, n21, n22, n23, n30, n31, n32, n33, if_false]
    exact h1
end Nd
end Go.Proofs.Ytkbnamkblplofaa
