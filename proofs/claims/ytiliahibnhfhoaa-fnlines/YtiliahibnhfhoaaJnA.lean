/- Bytes in memory: read, sliced, made a string; the sums as complex numbers. No condition. -/
import Derived.Test.YtiliahibnhfhoaaJnM
import Derived.WalkKit
import Derived.WalkLawsBesides
import Derived.Below
import Derived.Laws.AppendOwn
import Derived.Laws.OwnMore
import Derived.Laws.FloatArith
import Derived.KernelRfl
import Derived.Deep.AppendLies
namespace Go.Proofs.Ytiliahibnhfhoaa
open Go.RowKit
set_option linter.unusedVariables false
namespace Jn
structure Hid (p : Prop) : Prop where
  out : p
theorem hid {p : Prop} (h : p) : Hid p := ⟨h⟩
theorem kept_cell {B : Nat} {W w : World} (h : Below B W w) {b o : Nat} (hb : b < B) {v : Value} (hc : W.cell? ⟨b, o, none⟩ = some v) : w.cell? ⟨b, o, none⟩ = some v := (h.cell (p := ⟨b, o, none⟩) hb).trans hc
theorem kept_free {B : Nat} {W w : World} (h : Below B W w) {b o : Nat} (hb : b < B) (hc : W.frozen? ⟨b, o, none⟩ = false) : w.frozen? ⟨b, o, none⟩ = false := (h.frozen (p := ⟨b, o, none⟩) hb).trans hc
theorem setB {B : Nat} {W w : World} (h : Below B W w) {b o : Nat} (hb : B ≤ b) (x : Value) : Below B W (w.setCell ⟨b, o, none⟩ x) := h.setCell hb x
theorem own_set {w : World} {B n b c sz : Nat} {e : TypeId} {v u : Value} {xs : List Value} (h : w.ownsRow B e sz v n xs) (hb : b < B) : (w.setCell ⟨b, c, none⟩ u).ownsRow B e sz v n xs := ownsRow_setCell_below h (a := ⟨b, c, none⟩) hb u
theorem own_mono {w : World} {B B' n : Nat} {e : TypeId} {sz : Nat} {v : Value} {xs : List Value} (h : w.ownsRow B e sz v n xs) (hb : B' ≤ B) : w.ownsRow B' e sz v n xs := by
  obtain ⟨h1, h2⟩ := h
  refine ⟨h1, ?_⟩
  rcases h2 with h2 | ⟨g, cap, cur, a1, a2, a3⟩
  · exact .inl h2
  · exact .inr ⟨g, cap, cur, a1, by omega, a3⟩
theorem addn (g o j : Nat) : (⟨g, o, none⟩ : Addr).add j = ⟨g, o + j, none⟩ := by unfold Addr.add; split <;> simp_all
def vb (b : UInt8) : Value := .int .u8 (b.toNat : Int)
def vbs (l : List UInt8) : List Value := l.map vb
theorem vbs_len (l : List UInt8) : (vbs l).length = l.length := by simp [vbs]
theorem vbs_app (a b : List UInt8) : vbs (a ++ b) = vbs a ++ vbs b := by simp [vbs]
theorem vbs_get {l : List UInt8} {i : Nat} (h : i < l.length) : (vbs l)[i]? = some (vb l[i]) := by simp [vbs, h]
theorem vbs_one (l : List UInt8) : ∀ u ∈ vbs l, u.oneCell' = true := by
  intro u hu
  obtain ⟨b, _, rfl⟩ := List.mem_map.1 hu
  rfl
/-- Bytes in a row, in a block below B. -/
def At (w : World) (B : Nat) (v : Value) (l : List UInt8) : Prop := ∃ a cap, v = .slice a l.length cap ∧ l.length ≤ cap ∧ ∀ i (h : i < l.length), ∃ g o, a = some ⟨g, o, none⟩ ∧ g < B ∧ w.cell? ⟨g, o + i, none⟩ = some (vb l[i])
theorem At.slice {w : World} {B : Nat} {v : Value} {l : List UInt8} (h : At w B v l) : ∃ a cap, v = .slice a l.length cap ∧ l.length ≤ cap := by obtain ⟨a, cap, rfl, h, _⟩ := h; exact ⟨a, cap, rfl, h⟩
theorem At.at {w : World} {B : Nat} {a : Option Addr} {n cap : Nat} {l : List UInt8} (h : At w B (.slice a n cap) l) {i : Nat} (hi : i < l.length) : ∃ g o, a = some ⟨g, o, none⟩ ∧ g < B ∧ w.cell? ⟨g, o + i, none⟩ = some (vb l[i]) := by
  obtain ⟨a', cap', e, _, h⟩ := h; cases e; exact h i hi
theorem At.len {w : World} {B : Nat} {a : Option Addr} {n cap : Nat} {l : List UInt8} (h : At w B (.slice a n cap) l) : n = l.length ∧ n ≤ cap := by
  obtain ⟨a', cap', e, h1, _⟩ := h; cases e; exact ⟨rfl, h1⟩
theorem At.keep {w w' : World} {B : Nat} {v : Value} {l : List UInt8} (h : At w B v l) (hb : ∀ g, g < B → w'.heap[g]? = w.heap[g]?) : At w' B v l := by
  obtain ⟨a, cap, rfl, hc, h⟩ := h
  refine ⟨a, cap, rfl, hc, fun i hi => ?_⟩
  obtain ⟨g, o, rfl, hB, hc⟩ := h i hi
  exact ⟨g, o, rfl, hB, by simp only [World.cell?, hb g hB] at hc ⊢; exact hc⟩
theorem At.below {w w' : World} {B C : Nat} {v : Value} {l : List UInt8} (h : At w B v l) (hb : Below C w w') (hBC : B ≤ C) : At w' B v l := h.keep fun g hg => hb.block g (by omega)
theorem At.mono {w : World} {B C : Nat} {v : Value} {l : List UInt8} (h : At w B v l) (hBC : B ≤ C) : At w C v l := by
  obtain ⟨a, cap, rfl, hc, h⟩ := h
  refine ⟨a, cap, rfl, hc, fun i hi => ?_⟩
  obtain ⟨g, o, rfl, hB, hc⟩ := h i hi
  exact ⟨g, o, rfl, by omega, hc⟩
theorem At.set {w : World} {B b c : Nat} {v u : Value} {l : List UInt8} (h : At w B v l) (hb : B ≤ b) : At (w.setCell ⟨b, c, none⟩ u) B v l := h.below ((Below.refl B w).setCell hb u) (Nat.le_refl _)
theorem at_own {w : World} {B n : Nat} {t : TypeId} {v : Value} {l : List UInt8} (h : w.ownsRow B t 1 v n (vbs l)) : At w w.heap.size v l := by
  have hlt := h.lt
  have hcs := fun (g : Nat) (hg : v.ownBlock = some g) => h.cells hg
  obtain ⟨h1, h2⟩ := h
  rw [vbs_len] at h1
  obtain rfl : n = l.length := by omega
  rcases h2 with ⟨rfl, hn⟩ | ⟨g, cap, cur, rfl, hB, hg, hc, _⟩
  · exact ⟨none, 0, by rw [hn], by omega, fun i hi => by omega⟩
  · exact ⟨some ⟨g, 0, none⟩, cap, rfl, hc, fun i hi => ⟨g, 0, rfl, (hlt g rfl).2, by
      have := hcs g rfl i (vb l[i]) (vbs_get hi)
      rw [addn] at this
      exact this⟩⟩
theorem at_nil (w : World) (B : Nat) (a : Option Addr) (c : Nat) : At w B (.slice a 0 c) [] := ⟨a, c, rfl, Nat.zero_le _, fun i hi => by simp at hi⟩
theorem sized (w : World) : Sem.run Try.prog (sizeOf (Try.prog.elem 24)) w = .ok 1 w := by kernel_rfl
/-- What is left from i on. -/
theorem At.from {w : World} {B : Nat} {a : Option Addr} {n c : Nat} {l : List UInt8} (h : At w B (.slice a n c) l) (i : Nat) (hi : i ≤ l.length) :
    ∃ a' c', (∀ w' : World, Sem.run Try.prog (Instr.slice 24 (.slice a n c) (some (.int .i64 (i : Int))) none none) w' = .ok (.slice a' (n - i) c') w') ∧ At w B (.slice a' (n - i) c') (l.drop i) := by
  obtain ⟨a', cap', e, hc, hcell⟩ := h
  cases e
  refine ⟨if c = i then a else a.map (·.add (i * 1)), c - i, fun w' => ?_, ?_⟩
  · rw [run_slice_l (P := Try.prog) w' 24 a l.length c (by kernel_rfl) .i64 (i : Int) (by omega) (by omega), sized]
    simp only [Result.andThen, sliced, Int.toNat_natCast]
  · refine ⟨_, _, by rw [List.length_drop], by rw [List.length_drop]; omega, fun j hj => ?_⟩
    rw [List.length_drop] at hj
    obtain ⟨g, o, rfl, hg, hcl⟩ := hcell (i + j) (by omega)
    refine ⟨g, o + i, ?_, hg, ?_⟩
    · rw [if_neg (by omega), Nat.mul_one, Option.map_some, addn]
    · rw [List.getElem_drop, Nat.add_assoc]
      exact hcl
/-- The first i. -/
theorem At.to {w : World} {B : Nat} {a : Option Addr} {n c : Nat} {l : List UInt8} (h : At w B (.slice a n c) l) (i : Nat) (hi : i ≤ l.length) :
    ∃ a', (∀ w' : World, Sem.run Try.prog (Instr.slice 24 (.slice a n c) none (some (.int .i64 (i : Int))) none) w' = .ok (.slice a' i c) w') ∧ At w B (.slice a' i c) (l.take i) ∧ a' = a := by
  obtain ⟨a', cap', e, hc, hcell⟩ := h
  cases e
  have ha : (if c = 0 then a else a.map (·.add (0 * 1))) = a := by
    split
    · rfl
    · cases a with
      | none => rfl
      | some ad => obtain ⟨g, o, p⟩ := ad; unfold Addr.add; cases p <;> rfl
  refine ⟨a, fun w' => ?_, ?_, rfl⟩
  · rw [run_slice_h (P := Try.prog) w' 24 a l.length c (by kernel_rfl) .i64 (i : Int) (by omega) (by omega), sized]
    simp only [Result.andThen, sliced, Int.toNat_natCast, Nat.sub_zero]
    rw [ha]
  · refine ⟨a, c, by rw [List.length_take]; rw [Nat.min_eq_left hi], by rw [List.length_take]; omega, fun j hj => ?_⟩
    rw [List.length_take] at hj
    obtain ⟨g, o, rfl, hg, hcl⟩ := hcell j (by omega)
    exact ⟨g, o, rfl, hg, by rw [List.getElem_take]; exact hcl⟩
/-- From i up to j. -/
theorem At.mid {w : World} {B : Nat} {a : Option Addr} {n c : Nat} {l : List UInt8} (h : At w B (.slice a n c) l) (i j : Nat) (hij : i ≤ j) (hj : j ≤ l.length) :
    ∃ a' c', (∀ w' : World, Sem.run Try.prog (Instr.slice 24 (.slice a n c) (some (.int .i64 (i : Int))) (some (.int .i64 (j : Int))) none) w' = .ok (.slice a' (j - i) c') w') ∧ At w B (.slice a' (j - i) c') ((l.drop i).take (j - i)) := by
  obtain ⟨a', cap', e, hc, hcell⟩ := h
  cases e
  refine ⟨if c = i then a else a.map (·.add (i * 1)), c - i, fun w' => ?_, ?_⟩
  · rw [run_slice_lh (P := Try.prog) w' 24 a l.length c (by kernel_rfl) .i64 .i64 (i : Int) (j : Int) (by omega) (by omega) (by omega), sized]
    simp only [Result.andThen, sliced, Int.toNat_natCast]
  · refine ⟨_, _, by rw [List.length_take, List.length_drop, Nat.min_eq_left (by omega)], by rw [List.length_take, List.length_drop]; omega, fun k hk => ?_⟩
    rw [List.length_take, List.length_drop] at hk
    obtain ⟨g, o, rfl, hg, hcl⟩ := hcell (i + k) (by omega)
    refine ⟨g, o + i, ?_, hg, ?_⟩
    · rw [if_neg (by omega), Nat.mul_one, Option.map_some, addn]
    · rw [List.getElem_take, List.getElem_drop, Nat.add_assoc]
      exact hcl
def str (l : List UInt8) : ByteArray := ⟨l.toArray⟩
theorem str_size (l : List UInt8) : (str l).size = l.length := by simp [str, ByteArray.size]
theorem str_inj {a b : List UInt8} (h : str a = str b) : a = b := by
  unfold str at h
  injection h with h
  exact List.toArray_inj h
theorem str_list (s : ByteArray) : str s.data.toList = s := rfl
/-- A string of a row's bytes. -/
theorem At.str {w : World} {B : Nat} {a : Option Addr} {n c : Nat} {l : List UInt8} (h : At w B (.slice a n c) l) :
    Sem.run Try.prog (convert 24 9 (.slice a n c)) w = .ok (.string (str l)) w := by
  obtain ⟨a', cap', e, hc, hcell⟩ := h
  cases e
  cases a with
  | none =>
    have h0 : l = [] := by
      cases l with
      | nil => rfl
      | cons x xs => obtain ⟨g, o, hg, _⟩ := hcell 0 (by simp); cases hg
    subst h0
    exact run_convert_bytes_nil (P := Try.prog) w 24 5 Try.underlying24 Try.underlying5 0 c 9 Try.underlying9
  | some ad =>
    refine run_convert_bytes_back (P := Try.prog) w 24 9 5 ad c l Try.underlying24 Try.underlying5 Try.underlying9 ?_
    intro j hj
    obtain ⟨g, o, hg, _, hcl⟩ := hcell j hj
    cases hg
    rw [addn]
    exact hcl
/-- A small number as a float. -/
def fl (n : Nat) : Nat := floatOfInt .f64 (n : Int)
/-- A sum as a complex number. -/
def cx (n : Nat) : Value := .complex .f64 (fl (n / 256)) (fl (n % 256))
theorem fl_back (n : Nat) (h : n < 256) : floatToIntVal .f64 (fl n) .i64 = some (n : Int) ∧ floatToIntVal .f64 (fl n) .u8 = some (n : Int) := by
  have H : (List.range 256).all (fun n => floatToIntVal .f64 (fl n) .i64 == some (n : Int) && floatToIntVal .f64 (fl n) .u8 == some (n : Int)) = true := by kernel_rfl
  have := List.all_eq_true.1 H n (List.mem_range.2 h)
  rw [Bool.and_eq_true, beq_iff_eq, beq_iff_eq] at this
  exact this
end Jn
end Go.Proofs.Ytiliahibnhfhoaa
