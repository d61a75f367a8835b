/- What rows of records that hold a row of nodes have in common: rows kept, the law's marks of texts and of nodes. -/
import Derived.Test.YtkmcfdcdgcdpgaaDoorNd
import Derived.Test.YtkmcfdcdgcdpgaaDoorExM
import Derived.Deep.SlicePairs
import Derived.Lib.SlBytesConst
import Derived.Laws.OwnMore
namespace Go.Proofs.YtkmcfdcdgcdpgaaDoor
open Go.RowKit Go.Deep
set_option linter.unusedVariables false
namespace Rc
open Ex (hid)
open Nd (NodeD)
theorem str_ne (s : ByteArray) : (s.toList != s.toList) = false := by simp
theorem old_cell {B : Nat} {W w : World} (h : Below B W w) {b o : Nat} (hb : b < B) {v : Value} (hc : W.cell? ⟨b, o, none⟩ = some v) : w.cell? ⟨b, o, none⟩ = some v := (h.cell (p := ⟨b, o, none⟩) hb).trans hc
theorem old_free {B : Nat} {W w : World} (h : Below B W w) {b o : Nat} (hb : b < B) (hc : W.frozen? ⟨b, o, none⟩ = false) : w.frozen? ⟨b, o, none⟩ = false := (h.frozen (p := ⟨b, o, none⟩) hb).trans hc
theorem setB {B : Nat} {W w : World} (h : Below B W w) {b o : Nat} (hb : B ≤ b) (x : Value) : Below B W (w.setCell ⟨b, o, none⟩ x) := h.setCell hb x
theorem ownKept {w w' : World} {B C m : Nat} {v : Value} (h : Nd.Own w B C v m) (hb : ∀ g, B ≤ g → g < C → g < w.heap.size → w'.heap[g]? = w.heap[g]?) : Nd.Own w' B C v m := by
  obtain ⟨g, f, rfl, h1, h2, h3⟩ := h
  exact ⟨g, f, rfl, h1, h2, h3.of_block (hb g h1 h2 h3.lt)⟩
theorem ownBelow {w w' : World} {B C m : Nat} {v : Value} (h : Nd.Own w B C v m) (hb : Below w.heap.size w w') : Nd.Own w' B C v m := ownKept h (fun g _ _ hg => hb.block g hg)
theorem ownMono {w : World} {B B' C C' m : Nat} {v : Value} (h : Nd.Own w B C v m) (hB : B' ≤ B) (hC : C ≤ C') : Nd.Own w B' C' v m := by
  obtain ⟨g, f, rfl, h1, h2, h3⟩ := h
  exact ⟨g, f, rfl, Nat.le_trans hB h1, Nat.lt_of_lt_of_le h2 hC, h3⟩
theorem ownSet {w : World} {B C m b o : Nat} {v : Value} (h : Nd.Own w B C v m) (hb : b < B) (x : Value) : Nd.Own (w.setCell ⟨b, o, none⟩ x) B C v m :=
  ownKept h (fun g hg _ _ => Below.heap_setCell _ _ _ _ (by dsimp only; omega))
def dg (k : Nat) : UInt8 := (48 + k % 10).toUInt8
theorem dg_nat (j : Nat) : ((dg j).toNat : Int) = 48 + (j : Int) % 10 := by
  unfold dg
  have h : (48 + j % 10) < 256 := by omega
  rw [Nat.toUInt8, UInt8.toNat_ofNat', Nat.mod_eq_of_lt h]
  push_cast
  rfl
theorem conv1 (j : Nat) (w : World) : Sem.run Tryd.prog (convert 94 9 (.slice (some ⟨w.heap.size, 0, none⟩) 1 1)) (w.alloc (.cells #[.int .u8 (48 + (j : Int) % 10)] 5)) = .ok (.string ⟨[dg j].toArray⟩) (w.alloc (.cells #[.int .u8 (48 + (j : Int) % 10)] 5)) := by
  refine run_convert_bytes_back (P := Tryd.prog) _ 94 9 5 ⟨w.heap.size, 0, none⟩ 1 [dg j] Tryd.underlying94 Tryd.underlying5 Tryd.underlying9 ?_
  intro i hi
  obtain rfl : i = 0 := by simpa using hi
  simp [Addr.add, dg_nat]
theorem app_one (c : UInt8) (l : List UInt8) : Value.string (ByteArray.mk [c].toArray ++ ByteArray.mk l.toArray) = .string ⟨(c :: l).toArray⟩ := by
  apply congrArg Value.string; apply ByteArray.ext; simp
set_option maxRecDepth 100000 in
set_option maxHeartbeats 2000000 in
theorem markText (k : Nat) (w : World) (h0 : 0 < k) (hk : k ≤ 35184372088832) : Calls Tryd.prog 52 #[.int .i64 k] w fun e w' => (∃ s, e = .returned (.string s)) ∧ Below w.heap.size w w' := by
  have q0 : (0 : Int) < (k : Int) := by omega
  have q00 : k ≠ 0 := by omega
  go_enter Tryd.func52, Tryd.ntmps52
  go_wp2
  go_loopw [0, 3] (fun i o wr => ∃ (j : Nat) (l : List UInt8), i = .int .i64 j ∧ o = .string ⟨l.toArray⟩ ∧ l.length + j ≤ k ∧ Below w.heap.size w wr) (fun i _ _ => (intOf i).toNat)
  case atStart => exact ⟨k, [], rfl, rfl, by simp, Below.refl _ _⟩
  case round =>
    obtain ⟨j, l, rfl, rfl, hl, hbel⟩ := hrel
    by_cases hj : 0 < j
    · have q1 : (0 : Int) < (j : Int) := by omega
      go_wp2
      rw [conv1]
      simp only [Result.andThen]
      rw [Oper.upon_value]
      go_wp2
      exact ⟨⟨j / 10, dg j :: l, by simp, app_one _ _, by simp only [List.length_cons]; omega, hbel.alloc hbel.size _⟩, by simp [intOf]; omega⟩
    · have q1 : ¬ (0 : Int) < (j : Int) := by omega
      go_wp2
      go_ret
      exact ⟨⟨_, rfl⟩, hbel⟩
theorem markText' (k : Int) (w : World) (h0 : 0 < k) (hk : k ≤ 35184372088832) : Calls Tryd.prog 52 #[.int .i64 k] w fun e w' => (∃ s, e = .returned (.string s)) ∧ Below w.heap.size w w' := by
  have h := markText k.toNat w (by omega) (by omega)
  rw [show ((k.toNat : Nat) : Int) = k by omega] at h
  exact h
/-- Nothing has turned but blocks between the two. -/
structure Amid (w w' : World) (B C : Nat) : Prop where
  os : w'.os = w.os
  tape : w'.tape = w.tape
  output : w'.output = w.output
  size : w.heap.size ≤ w'.heap.size
  block : ∀ b, b < w.heap.size → b < B ∨ C ≤ b → w'.heap[b]? = w.heap[b]?
theorem Amid.refl (w : World) (B C : Nat) : Amid w w B C := ⟨rfl, rfl, rfl, Nat.le_refl _, fun _ _ _ => rfl⟩
theorem Amid.trans {w w1 w2 : World} {B C : Nat} (h : Amid w w1 B C) (h2 : Amid w1 w2 B C) : Amid w w2 B C :=
  ⟨h2.os.trans h.os, h2.tape.trans h.tape, h2.output.trans h.output, Nat.le_trans h.size h2.size, fun b hb ho => (h2.block b (Nat.lt_of_lt_of_le hb h.size) ho).trans (h.block b hb ho)⟩
theorem Amid.of_below {w w' : World} {B C : Nat} (h : Below w.heap.size w w') : Amid w w' B C := ⟨h.os, h.tape, h.output, h.size, fun b hb _ => h.block b hb⟩
theorem Amid.set (w : World) {B C g : Nat} (c : Nat) (u : Value) (h1 : B ≤ g) (h2 : g < C) : Amid w (w.setCell ⟨g, c, none⟩ u) B C :=
  ⟨rfl, rfl, rfl, by simp [World.setCell], fun b hb ho => Below.heap_setCell _ _ _ _ (by dsimp only; omega)⟩
theorem Amid.mono {w w' : World} {B B' C C' : Nat} (h : Amid w w' B C) (h1 : B' ≤ B) (h2 : C ≤ C') : Amid w w' B' C' := ⟨h.os, h.tape, h.output, h.size, fun b hb ho => h.block b hb (by omega)⟩
theorem row_size {w : World} {g : Nat} {t t' : TypeId} {n n' : Nat} {f f' : Nat → Value} (h : w.rowIs g t n f) (h' : w.rowIs g t' n' f') : n = n' := by
  rcases Nat.lt_trichotomy n n' with e | e | e
  · have h1 := h'.cell e
    have h2 : w.cell? ⟨g, n, none⟩ = none := by
      obtain ⟨c, h3, h4, _⟩ := h
      simp [World.cell?, h3, h4]
    rw [h2] at h1
    cases h1
  · exact e
  · have h1 := h.cell e
    have h2 : w.cell? ⟨g, n', none⟩ = none := by
      obtain ⟨c, h3, h4, _⟩ := h'
      simp [World.cell?, h3, h4]
    rw [h2] at h1
    cases h1
set_option maxRecDepth 100000 in
set_option maxHeartbeats 4000000 in
theorem markNodes (g : Nat) (m : Nat) (f : Nat → Value) (k : Int) (w : World) (hm : m ≤ 1048576) (h0 : 0 < k) (hk : k ≤ 17592186044416) (hr : w.rowIs g 96 (m * 4) f) :
    Calls Tryd.prog 53 #[.slice (some ⟨g, 0, none⟩) m m, .int .i64 k] w fun e w' => (∃ r : Int, e = .returned (.int .i64 r) ∧ k ≤ r ∧ r ≤ k + 4 * (m : Int)) ∧ (∃ f', w'.rowIs g 96 (m * 4) f') ∧ Amid w w' g (g + 1) := by
  have HR := hid hr
  clear hr
  go_enter Tryd.func53, Tryd.ntmps53
  go_wp2
  go_loopw [1, 5] (fun q i wr => ∃ (j : Nat) (f' : Nat → Value), i = .int .i64 j ∧ q = .int .i64 (k + 4 * (j : Int)) ∧ j ≤ m ∧ Hid (wr.rowIs g 96 (m * 4) f') ∧ Hid (Amid w wr g (g + 1))) (fun _ i _ => m - (intOf i).toNat)
  case atStart => exact ⟨0, f, rfl, by simp, Nat.zero_le _, HR, hid (Amid.refl _ _ _)⟩
  case round =>
    obtain ⟨j, f', rfl, rfl, hj, HW, HAM⟩ := hrel
    by_cases hlt : j < m
    · have q1 : (j : Int) < (m : Int) := by omega
      have d0 := HW.out.cell (i := j * 4) (by omega)
      have d1 := HW.out.cell (i := j * 4 + 1) (by omega)
      have d2 := HW.out.cell (i := j * 4 + 2) (by omega)
      have d3 := HW.out.cell (i := j * 4 + 3) (by omega)
      have f0 := HW.out.frozen (j * 4)
      have f1 := HW.out.frozen (j * 4 + 1)
      have f2 := HW.out.frozen (j * 4 + 2)
      have f3 := HW.out.frozen (j * 4 + 3)
      have HR2 := hid ((((HW.out.set (j * 4) (.int .i64 (k + 4 * (j : Int)))).set (j * 4 + 1) (.int .i64 (k + 4 * (j : Int) + 1))).set (j * 4 + 2) (.int .i64 (k + 4 * (j : Int) + 1 + 1))).set (j * 4 + 3) (.int .i64 (k + 4 * (j : Int) + 1 + 1 + 1)))
      have HA2 := hid ((((HAM.out.trans (Amid.set wr (j * 4) (.int .i64 (k + 4 * (j : Int))) (Nat.le_refl _) (Nat.lt_succ_self _))).trans (Amid.set _ (j * 4 + 1) (.int .i64 (k + 4 * (j : Int) + 1)) (Nat.le_refl _) (Nat.lt_succ_self _))).trans (Amid.set _ (j * 4 + 2) (.int .i64 (k + 4 * (j : Int) + 1 + 1)) (Nat.le_refl _) (Nat.lt_succ_self _))).trans (Amid.set _ (j * 4 + 3) (.int .i64 (k + 4 * (j : Int) + 1 + 1 + 1)) (Nat.le_refl _) (Nat.lt_succ_self _)))
      go_wp2
      exact ⟨⟨j + 1, _, by simp, by simp; omega, by omega, HR2, HA2⟩, by simp [intOf]; omega⟩
    · obtain rfl : j = m := by omega
      go_wp2
      go_ret
      exact ⟨⟨_, rfl, by omega, by omega⟩, ⟨f', HW.out⟩, HAM.out⟩
theorem ownAmid {w w' : World} {B C m g : Nat} {v : Value} {f : Nat → Value} {n : Nat} (h : Nd.Own w B C v m) (hA : Amid w w' g (g + 1)) (hr : w.rowIs g 96 (n * 4) f) (hr' : ∃ f', w'.rowIs g 96 (n * 4) f') : Nd.Own w' B C v m := by
  obtain ⟨gi, fi, hvi, hi1, hi2, hri⟩ := h
  by_cases e3 : gi = g
  · subst e3
    have hs := row_size hri hr
    obtain ⟨f', hf'⟩ := hr'
    exact ⟨gi, f', hvi, hi1, hi2, by rw [hs]; exact hf'⟩
  · exact ⟨gi, fi, hvi, hi1, hi2, hri.of_block (hA.block gi hri.lt (by omega))⟩
end Rc
end Go.Proofs.YtkmcfdcdgcdpgaaDoor
