/- Laid together: MkT, StM, TfI, TfJ, TfK. -/
import Derived.Test.YtgghigfflpbjiaaGreatDoorGK
import Derived.WalkKit
import Derived.Below
import Derived.Lib.SlBytesConst
import Derived.Test.YtgghigfflpbjiaaGreatDoorGB
import Derived.Laws.OwnMore
import Derived.Test.YtgghigfflpbjiaaGreatDoorGU
import Derived.Test.YtgghigfflpbjiaaGreatDoorGO
import Derived.Test.YtgghigfflpbjiaaGreatDoorGT
import Derived.Deep.RegionHeld3
/- The text of a mark, as the law lays it. -/
namespace Go.Proofs.YtgghigfflpbjiaaGreatDoor
open Go.RowKit
set_option linter.unusedVariables false
namespace Mk
open Ex (hid dec_big)
open Go.Lib (decDigits decDigits_one)
def mt (k : Nat) : ByteArray := ⟨(109 :: decDigits k).toArray⟩
def dg (k : Nat) : UInt8 := UInt8.ofNat (48 + k % 10)
theorem dg_nat (j : Nat) : ((dg j).toNat : Int) = 48 + (j : Int) % 10 := by
  unfold dg
  have h : (48 + j % 10) < 256 := by omega
  rw [UInt8.toNat_ofNat', Nat.mod_eq_of_lt h]
  push_cast
  rfl
theorem conv1 (j : Nat) (w : World) : Sem.run Tryz.prog (convert 92 9 (.slice (some ⟨w.heap.size, 0, none⟩) 1 1)) (w.alloc (.cells #[.int .u8 (48 + (j : Int) % 10)] 5)) = .ok (.string ⟨[dg j].toArray⟩) (w.alloc (.cells #[.int .u8 (48 + (j : Int) % 10)] 5)) := by
  refine run_convert_bytes_back (P := Tryz.prog) _ 92 9 5 ⟨w.heap.size, 0, none⟩ 1 [dg j] Tryz.underlying92 Tryz.underlying5 Tryz.underlying9 ?_
  intro i hi
  obtain rfl : i = 0 := by simpa using hi
  simp [Addr.add, dg_nat]
theorem app_one (c : UInt8) (l : List UInt8) : Value.string (ByteArray.mk [c].toArray ++ ByteArray.mk l.toArray) = .string ⟨(c :: l).toArray⟩ := by
  apply congrArg Value.string; apply ByteArray.ext; simp
theorem next {K j : Nat} {l : List UInt8} (hj : 0 < j) (h : decDigits j ++ l = decDigits K) : (j / 10 = 0 ∧ dg j :: l = decDigits K) ∨ (0 < j / 10 ∧ decDigits (j / 10) ++ dg j :: l = decDigits K) := by
  by_cases h10 : j < 10
  · left
    refine ⟨by omega, ?_⟩
    rw [← h, decDigits_one h10]
    unfold dg
    rw [Nat.mod_eq_of_lt h10]
    rfl
  · right
    refine ⟨by omega, ?_⟩
    rw [← h, dec_big h10, List.append_assoc]
    rfl
set_option maxRecDepth 100000 in
set_option maxHeartbeats 2000000 in
theorem markText (k : Nat) (w : World) (h0 : 0 < k) (hk : k ≤ 35184372088832) : Calls Tryz.prog 27 #[.int .i64 k] w fun e w' => e = .returned (.string (mt k)) ∧ Below w.heap.size w w' := by
  have q0 : (0 : Int) < (k : Int) := by omega
  have q00 : k ≠ 0 := by omega
  go_enter Tryz.func27, Tryz.ntmps27
  go_wp2
  go_loopw [0, 3] (fun i o wr => ∃ (j : Nat) (l : List UInt8), i = .int .i64 j ∧ o = .string ⟨l.toArray⟩ ∧ l.length + j ≤ k ∧ Hid ((j = 0 ∧ l = decDigits k) ∨ (0 < j ∧ decDigits j ++ l = decDigits k)) ∧ Below w.heap.size w wr) (fun i _ _ => (intOf i).toNat)
  case atStart => exact ⟨k, [], rfl, rfl, by simp, hid (.inr ⟨h0, by rw [List.append_nil]⟩), Below.refl _ _⟩
  case round =>
    obtain ⟨j, l, rfl, rfl, hl, HD, hbel⟩ := hrel
    by_cases hj : 0 < j
    · have q1 : (0 : Int) < (j : Int) := by omega
      have HN : Hid ((j / 10 = 0 ∧ dg j :: l = decDigits k) ∨ (0 < j / 10 ∧ decDigits (j / 10) ++ dg j :: l = decDigits k)) := hid (by
        rcases HD.out with ⟨h, _⟩ | ⟨_, h⟩
        · omega
        · exact next hj h)
      go_wp2
      rw [conv1]
      simp only [Result.andThen]
      rw [Oper.upon_value]
      go_wp2
      exact ⟨⟨j / 10, dg j :: l, by simp, app_one _ _, by simp only [List.length_cons]; omega, HN, hbel.alloc hbel.size _⟩, by simp [intOf]; omega⟩
    · have q1 : ¬ (0 : Int) < (j : Int) := by omega
      have HL : Hid (l = decDigits k) := hid (by
        rcases HD.out with ⟨_, h⟩ | ⟨h, _⟩
        · exact h
        · omega)
      go_wp2
      go_ret
      refine ⟨?_, hbel⟩
      unfold mt
      rw [← HL.out]
      exact congrArg Ending.returned (app_one 109 l)
theorem markText' (k : Int) (w : World) (h0 : 0 < k) (hk : k ≤ 35184372088832) : Calls Tryz.prog 27 #[.int .i64 k] w fun e w' => e = .returned (.string (mt k.toNat)) ∧ Below w.heap.size w w' := by
  have h := markText k.toNat w (by omega) (by omega)
  rw [show ((k.toNat : Nat) : Int) = k by omega] at h
  exact h
end Mk
end Go.Proofs.YtgghigfflpbjiaaGreatDoor
/- The law's marks in a row of steps: they are written into that row and its nodes alone. -/
namespace Go.Proofs.YtgghigfflpbjiaaGreatDoor
open Go.RowKit
set_option linter.unusedVariables false
namespace St
open Ex (hid)
open Nd (NodeD)
def dg (k : Nat) : UInt8 := (48 + k % 10).toUInt8
theorem dg_nat (j : Nat) : ((dg j).toNat : Int) = 48 + (j : Int) % 10 := by
  unfold dg
  have h : (48 + j % 10) < 256 := by omega
  rw [Nat.toUInt8, UInt8.toNat_ofNat', Nat.mod_eq_of_lt h]
  push_cast
  rfl
theorem conv1 (j : Nat) (w : World) : Sem.run Tryz.prog (convert 92 9 (.slice (some ⟨w.heap.size, 0, none⟩) 1 1)) (w.alloc (.cells #[.int .u8 (48 + (j : Int) % 10)] 5)) = .ok (.string ⟨[dg j].toArray⟩) (w.alloc (.cells #[.int .u8 (48 + (j : Int) % 10)] 5)) := by
  refine run_convert_bytes_back (P := Tryz.prog) _ 92 9 5 ⟨w.heap.size, 0, none⟩ 1 [dg j] Tryz.underlying92 Tryz.underlying5 Tryz.underlying9 ?_
  intro i hi
  obtain rfl : i = 0 := by simpa using hi
  simp [Addr.add, dg_nat]
theorem app_one (c : UInt8) (l : List UInt8) : Value.string (ByteArray.mk [c].toArray ++ ByteArray.mk l.toArray) = .string ⟨(c :: l).toArray⟩ := by
  apply congrArg Value.string; apply ByteArray.ext; simp
set_option maxRecDepth 100000 in
set_option maxHeartbeats 2000000 in
theorem markText (k : Nat) (w : World) (h0 : 0 < k) (hk : k ≤ 35184372088832) : Calls Tryz.prog 27 #[.int .i64 k] w fun e w' => (∃ s, e = .returned (.string s)) ∧ Below w.heap.size w w' := by
  have q0 : (0 : Int) < (k : Int) := by omega
  have q00 : k ≠ 0 := by omega
  go_enter Tryz.func27, Tryz.ntmps27
  go_wp2
  go_loopw [0, 3] (fun i o wr => ∃ (j : Nat) (l : List UInt8), i = .int .i64 j ∧ o = .string ⟨l.toArray⟩ ∧ l.length + j ≤ k ∧ Below w.heap.size w wr) (fun i _ _ => (intOf i).toNat)
  case atStart => exact ⟨k, [], rfl, rfl, by simp, Below.refl _ _⟩
  case round =>
    obtain ⟨j, l, rfl, rfl, hl, hbel⟩ := hrel
    by_cases hj : 0 < j
    · have q1 : (0 : Int) < (j : Int) := by omega
      go_wp2
      rw [conv1]
      simp only [Result.andThen]
      rw [Oper.upon_value]
      go_wp2
      exact ⟨⟨j / 10, dg j :: l, by simp, app_one _ _, by simp only [List.length_cons]; omega, hbel.alloc hbel.size _⟩, by simp [intOf]; omega⟩
    · have q1 : ¬ (0 : Int) < (j : Int) := by omega
      go_wp2
      go_ret
      exact ⟨⟨_, rfl⟩, hbel⟩
theorem markText' (k : Int) (w : World) (h0 : 0 < k) (hk : k ≤ 35184372088832) : Calls Tryz.prog 27 #[.int .i64 k] w fun e w' => (∃ s, e = .returned (.string s)) ∧ Below w.heap.size w w' := by
  have h := markText k.toNat w (by omega) (by omega)
  rw [show ((k.toNat : Nat) : Int) = k by omega] at h
  exact h
/-- Nothing has turned but blocks between the two. -/
structure Amid (w w' : World) (B C : Nat) : Prop where
  os : w'.os = w.os
  tape : w'.tape = w.tape
  output : w'.output = w.output
  size : w.heap.size ≤ w'.heap.size
  block : ∀ b, b < w.heap.size → b < B ∨ C ≤ b → w'.heap[b]? = w.heap[b]?
theorem Amid.refl (w : World) (B C : Nat) : Amid w w B C := ⟨rfl, rfl, rfl, Nat.le_refl _, fun _ _ _ => rfl⟩
theorem Amid.trans {w w1 w2 : World} {B C : Nat} (h : Amid w w1 B C) (h2 : Amid w1 w2 B C) : Amid w w2 B C :=
  ⟨h2.os.trans h.os, h2.tape.trans h.tape, h2.output.trans h.output, Nat.le_trans h.size h2.size, fun b hb ho => (h2.block b (Nat.lt_of_lt_of_le hb h.size) ho).trans (h.block b hb ho)⟩
theorem Amid.of_below {w w' : World} {B C : Nat} (h : Below w.heap.size w w') : Amid w w' B C := ⟨h.os, h.tape, h.output, h.size, fun b hb _ => h.block b hb⟩
theorem Amid.set (w : World) {B C g : Nat} (c : Nat) (u : Value) (h1 : B ≤ g) (h2 : g < C) : Amid w (w.setCell ⟨g, c, none⟩ u) B C :=
  ⟨rfl, rfl, rfl, by simp [World.setCell], fun b hb ho => Below.heap_setCell _ _ _ _ (by dsimp only; omega)⟩
theorem Amid.mono {w w' : World} {B B' C C' : Nat} (h : Amid w w' B C) (h1 : B' ≤ B) (h2 : C ≤ C') : Amid w w' B' C' := ⟨h.os, h.tape, h.output, h.size, fun b hb ho => h.block b hb (by omega)⟩
theorem row_size {w : World} {g : Nat} {t t' : TypeId} {n n' : Nat} {f f' : Nat → Value} (h : w.rowIs g t n f) (h' : w.rowIs g t' n' f') : n = n' := by
  rcases Nat.lt_trichotomy n n' with e | e | e
  · have h1 := h'.cell e
    have h2 : w.cell? ⟨g, n, none⟩ = none := by
      obtain ⟨c, h3, h4, _⟩ := h
      simp [World.cell?, h3, h4]
    rw [h2] at h1
    cases h1
  · exact e
  · have h1 := h.cell e
    have h2 : w.cell? ⟨g, n', none⟩ = none := by
      obtain ⟨c, h3, h4, _⟩ := h'
      simp [World.cell?, h3, h4]
    rw [h2] at h1
    cases h1
set_option maxRecDepth 100000 in
set_option maxHeartbeats 4000000 in
theorem markNodes (g : Nat) (m : Nat) (f : Nat → Value) (k : Int) (w : World) (hm : m ≤ 1048576) (h0 : 0 < k) (hk : k ≤ 17592186044416) (hr : w.rowIs g 94 (m * 4) f) :
    Calls Tryz.prog 28 #[.slice (some ⟨g, 0, none⟩) m m, .int .i64 k] w fun e w' => (∃ r : Int, e = .returned (.int .i64 r) ∧ k ≤ r ∧ r ≤ k + 4 * (m : Int)) ∧ (∃ f', w'.rowIs g 94 (m * 4) f') ∧ Amid w w' g (g + 1) := by
  have HR := hid hr
  clear hr
  go_enter Tryz.func28, Tryz.ntmps28
  go_wp2
  go_loopw [1, 5] (fun q i wr => ∃ (j : Nat) (f' : Nat → Value), i = .int .i64 j ∧ q = .int .i64 (k + 4 * (j : Int)) ∧ j ≤ m ∧ Hid (wr.rowIs g 94 (m * 4) f') ∧ Hid (Amid w wr g (g + 1))) (fun _ i _ => m - (intOf i).toNat)
  case atStart => exact ⟨0, f, rfl, by simp, Nat.zero_le _, HR, hid (Amid.refl _ _ _)⟩
  case round =>
    obtain ⟨j, f', rfl, rfl, hj, HW, HAM⟩ := hrel
    by_cases hlt : j < m
    · have q1 : (j : Int) < (m : Int) := by omega
      have d0 := HW.out.cell (i := j * 4) (by omega)
      have d1 := HW.out.cell (i := j * 4 + 1) (by omega)
      have d2 := HW.out.cell (i := j * 4 + 2) (by omega)
      have d3 := HW.out.cell (i := j * 4 + 3) (by omega)
      have f0 := HW.out.frozen (j * 4)
      have f1 := HW.out.frozen (j * 4 + 1)
      have f2 := HW.out.frozen (j * 4 + 2)
      have f3 := HW.out.frozen (j * 4 + 3)
      have HR2 := hid ((((HW.out.set (j * 4) (.int .i64 (k + 4 * (j : Int)))).set (j * 4 + 1) (.int .i64 (k + 4 * (j : Int) + 1))).set (j * 4 + 2) (.int .i64 (k + 4 * (j : Int) + 1 + 1))).set (j * 4 + 3) (.int .i64 (k + 4 * (j : Int) + 1 + 1 + 1)))
      have HA2 := hid ((((HAM.out.trans (Amid.set wr (j * 4) (.int .i64 (k + 4 * (j : Int))) (Nat.le_refl _) (Nat.lt_succ_self _))).trans (Amid.set _ (j * 4 + 1) (.int .i64 (k + 4 * (j : Int) + 1)) (Nat.le_refl _) (Nat.lt_succ_self _))).trans (Amid.set _ (j * 4 + 2) (.int .i64 (k + 4 * (j : Int) + 1 + 1)) (Nat.le_refl _) (Nat.lt_succ_self _))).trans (Amid.set _ (j * 4 + 3) (.int .i64 (k + 4 * (j : Int) + 1 + 1 + 1)) (Nat.le_refl _) (Nat.lt_succ_self _)))
      go_wp2
      exact ⟨⟨j + 1, _, by simp, by simp; omega, by omega, HR2, HA2⟩, by simp [intOf]; omega⟩
    · obtain rfl : j = m := by omega
      go_wp2
      go_ret
      exact ⟨⟨_, rfl, by omega, by omega⟩, ⟨f', HW.out⟩, HAM.out⟩
theorem ownAmid {w w' : World} {B C m g : Nat} {v : Value} {f : Nat → Value} {n : Nat} (h : Nd.Own w B C v m) (hA : Amid w w' g (g + 1)) (hr : w.rowIs g 94 (n * 4) f) (hr' : ∃ f', w'.rowIs g 94 (n * 4) f') : Nd.Own w' B C v m := by
  obtain ⟨gi, fi, hvi, hi1, hi2, hri⟩ := h
  by_cases e3 : gi = g
  · subst e3
    have hs := row_size hri hr
    obtain ⟨f', hf'⟩ := hr'
    exact ⟨gi, f', hvi, hi1, hi2, by rw [hs]; exact hf'⟩
  · exact ⟨gi, fi, hvi, hi1, hi2, hri.of_block (hA.block gi hri.lt (by omega))⟩
set_option maxRecDepth 100000 in
set_option maxHeartbeats 8000000 in
theorem markSteps (B C : Nat) (v : Value) (n : Nat) (mc me : Nat → Nat) (w : World) (hn : n ≤ 1048576) (hmc : ∀ j, j < n → mc j ≤ 1048576) (hme : ∀ j, j < n → me j ≤ 1048576) (h : Own w B C v n mc me) :
    Calls Tryz.prog 11 #[v, .int .i64 1] w fun e w' => (∃ r : Int, e = .returned (.int .i64 r) ∧ 1 ≤ r) ∧ Amid w w' B C := by
  obtain ⟨g, f, rfl, hB, hC, hr, ho⟩ := h
  have HR := hid hr
  have HO := hid ho
  have HMC := hid hmc
  have HME := hid hme
  clear hr ho hmc hme
  go_enter Tryz.func11, Tryz.ntmps11
  go_wp2
  go_loopw [1, 5] (fun q i wr => ∃ (j : Nat) (k : Int) (f' : Nat → Value), i = .int .i64 j ∧ q = .int .i64 k ∧ 1 ≤ k ∧ k ≤ 1 + 8388612 * (j : Int) ∧ j ≤ n ∧ Hid (wr.rowIs g 49 (n * 6) f') ∧ Hid (∀ i, i < n → Nd.Own wr (g + 1) C (f' (i * 6 + 4)) (mc i) ∧ Nd.Own wr (g + 1) C (f' (i * 6 + 5)) (me i)) ∧ Hid (Amid w wr B C)) (fun _ i _ => n - (intOf i).toNat)
  case atStart => exact ⟨0, 1, f, rfl, rfl, by omega, by omega, Nat.zero_le _, HR, HO, hid (Amid.refl _ _ _)⟩
  case round =>
    obtain ⟨j, k, f', rfl, rfl, hk1, hk2, hj, HW, HV, HAM⟩ := hrel
    by_cases hlt : j < n
    · have q1 : (j : Int) < (n : Int) := by omega
      have hmj := HMC.out j hlt
      have hmj2 := HME.out j hlt
      have d0 := HW.out.cell (i := j * 6) (by omega)
      have d1 := HW.out.cell (i := j * 6 + 1) (by omega)
      have z0 := HW.out.frozen (j * 6)
      have z1 := HW.out.frozen (j * 6 + 1)
      have hgl := HW.out.lt
      have HR1 := hid ((HW.out.set (j * 6) (.int .i64 k)).set (j * 6 + 1) (.int .i64 (k + 1)))
      have HA1 := hid ((HAM.out.trans (Amid.set wr (j * 6) (.int .i64 k) hB hC)).trans (Amid.set _ (j * 6 + 1) (.int .i64 (k + 1)) hB hC))
      have HV1 : Hid (∀ i, i < n → Nd.Own ((wr.setCell ⟨g, j * 6, none⟩ (.int .i64 k)).setCell ⟨g, j * 6 + 1, none⟩ (.int .i64 (k + 1))) (g + 1) C (f' (i * 6 + 4)) (mc i) ∧ Nd.Own ((wr.setCell ⟨g, j * 6, none⟩ (.int .i64 k)).setCell ⟨g, j * 6 + 1, none⟩ (.int .i64 (k + 1))) (g + 1) C (f' (i * 6 + 5)) (me i)) := hid (fun i hi => ⟨ownSet (ownSet (HV.out i hi).1 (by omega) _) (by omega) _, ownSet (ownSet (HV.out i hi).2 (by omega) _) (by omega) _⟩)
      go_wp2_with fail
      generalize (wr.setCell ⟨g, j * 6, none⟩ (.int .i64 k)).setCell ⟨g, j * 6 + 1, none⟩ (.int .i64 (k + 1)) = wA at *
      refine (markText' _ _ (by omega) (by omega)).mono ?_
      rintro e w1 ⟨⟨s1, rfl⟩, hb1⟩
      have hr1 := HR1.out.of_block (w' := w1) (hb1.block _ HR1.out.lt)
      have d2 := hr1.cell (i := j * 6 + 2) (by omega)
      have d3 := hr1.cell (i := j * 6 + 3) (by omega)
      have z2 := hr1.frozen (j * 6 + 2)
      have z3 := hr1.frozen (j * 6 + 3)
      have hgl1 := hr1.lt
      have HR2 := hid ((hr1.set (j * 6 + 2) (.string s1)).set (j * 6 + 3) (.int .i64 (k + 1 + 1 + 1)))
      have HA2 := hid (((HA1.out.trans (Amid.of_below hb1)).trans (Amid.set w1 (j * 6 + 2) (.string s1) hB hC)).trans (Amid.set _ (j * 6 + 3) (.int .i64 (k + 1 + 1 + 1)) hB hC))
      have HV2 : Hid (∀ i, i < n → Nd.Own ((w1.setCell ⟨g, j * 6 + 2, none⟩ (.string s1)).setCell ⟨g, j * 6 + 3, none⟩ (.int .i64 (k + 1 + 1 + 1))) (g + 1) C (f' (i * 6 + 4)) (mc i) ∧ Nd.Own ((w1.setCell ⟨g, j * 6 + 2, none⟩ (.string s1)).setCell ⟨g, j * 6 + 3, none⟩ (.int .i64 (k + 1 + 1 + 1))) (g + 1) C (f' (i * 6 + 5)) (me i)) := hid (fun i hi => ⟨ownSet (ownSet (ownBelow (HV1.out i hi).1 hb1) (by omega) _) (by omega) _, ownSet (ownSet (ownBelow (HV1.out i hi).2 hb1) (by omega) _) (by omega) _⟩)
      generalize hF2 : (fun i => if i = j * 6 + 3 then Value.int .i64 (k + 1 + 1 + 1) else (fun i => if i = j * 6 + 2 then Value.string s1 else (fun i => if i = j * 6 + 1 then Value.int .i64 (k + 1) else (fun i => if i = j * 6 then Value.int .i64 k else f' i) i) i) i) = F2 at *
      have e4 : ∀ i, F2 (i * 6 + 4) = f' (i * 6 + 4) := fun i => by
        have h1 : ¬ i * 6 + 4 = j * 6 + 3 := by omega
        have h2 : ¬ i * 6 + 4 = j * 6 + 2 := by omega
        have h3 : ¬ i * 6 + 4 = j * 6 + 1 := by omega
        have h4 : ¬ i * 6 + 4 = j * 6 := by omega
        rw [← hF2]
        simp only [h1, h2, h3, h4, if_false]
      have e5 : ∀ i, F2 (i * 6 + 5) = f' (i * 6 + 5) := fun i => by
        have h1 : ¬ i * 6 + 5 = j * 6 + 3 := by omega
        have h2 : ¬ i * 6 + 5 = j * 6 + 2 := by omega
        have h3 : ¬ i * 6 + 5 = j * 6 + 1 := by omega
        have h4 : ¬ i * 6 + 5 = j * 6 := by omega
        rw [← hF2]
        simp only [h1, h2, h3, h4, if_false]
      have E4 := hid e4
      have E5 := hid e5
      have c4 := HR2.out.cell (i := j * 6 + 4) (by omega)
      have c5 := HR2.out.cell (i := j * 6 + 5) (by omega)
      rw [e4] at c4
      rw [e5] at c5
      have hoc := (HV2.out j hlt).1
      obtain ⟨gc, fc, hvc, hgc1, hgc2, hrc⟩ := hoc
      obtain ⟨ge, fe, hve, hge1, hge2, hre⟩ := (HV2.out j hlt).2
      have HVE := hid hve
      rw [hvc] at c4
      have hgl2 := HR2.out.lt
      have HRC := hid hrc
      clear hF2 hvc e4 e5 hrc hre hr1 c5
      go_wp2_with fail
      generalize (w1.setCell ⟨g, j * 6 + 2, none⟩ (.string s1)).setCell ⟨g, j * 6 + 3, none⟩ (.int .i64 (k + 1 + 1 + 1)) = wB at *
      refine (markNodes gc (mc j) fc (k + 1 + 1 + 1 + 1) _ hmj (by omega) (by omega) HRC.out).mono ?_
      rintro e w4 ⟨⟨r4, rfl, hr4a, hr4b⟩, hf4, hA4⟩
      have HV4 : Hid (∀ i, i < n → Nd.Own w4 (g + 1) C (f' (i * 6 + 4)) (mc i) ∧ Nd.Own w4 (g + 1) C (f' (i * 6 + 5)) (me i)) := hid (fun i hi => ⟨ownAmid (HV2.out i hi).1 hA4 HRC.out hf4, ownAmid (HV2.out i hi).2 hA4 HRC.out hf4⟩)
      have HR4 := hid (HR2.out.of_block (w' := w4) (hA4.block g HR2.out.lt (.inl (by omega))))
      have HA4 := hid (HA2.out.trans (hA4.mono (by omega) (by omega)))
      have c5 := HR4.out.cell (i := j * 6 + 5) (by omega)
      have hgl4 := HR4.out.lt
      rw [E5.out] at c5
      obtain ⟨ge', fe', hve', hge1', hge2', hre'⟩ := (HV4.out j hlt).2
      rw [hve'] at c5
      have HRE := hid hre'
      clear hve' hre' hf4 hA4
      go_wp2_with fail
      refine (markNodes ge' (me j) fe' r4 _ hmj2 (by omega) (by omega) HRE.out).mono ?_
      rintro e w5 ⟨⟨r5, rfl, hr5a, hr5b⟩, hf5, hA5⟩
      have HV5 : Hid (∀ i, i < n → Nd.Own w5 (g + 1) C (F2 (i * 6 + 4)) (mc i) ∧ Nd.Own w5 (g + 1) C (F2 (i * 6 + 5)) (me i)) := hid (fun i hi => by
        rw [E4.out, E5.out]
        exact ⟨ownAmid (HV4.out i hi).1 hA5 HRE.out hf5, ownAmid (HV4.out i hi).2 hA5 HRE.out hf5⟩)
      have HR5 := hid (HR4.out.of_block (w' := w5) (hA5.block g HR4.out.lt (.inl (by omega))))
      have HA5 := hid (HA4.out.trans (hA5.mono (by omega) (by omega)))
      clear hf5 hA5
      go_wp2
      exact ⟨⟨j + 1, r5, F2, by simp, rfl, by omega, by push_cast; omega, by omega, HR5, HV5, HA5⟩, by simp [intOf]; omega⟩
    · obtain rfl : j = n := by omega
      go_wp2
      go_ret
      exact ⟨⟨_, rfl, hk1⟩, HAM.out⟩
end St
end Go.Proofs.YtgghigfflpbjiaaGreatDoor
/- The law's marks in elements that a function has made itself, and whether they hold. -/
namespace Go.Proofs.YtgghigfflpbjiaaGreatDoor
open Go.RowKit
set_option linter.unusedVariables false
namespace Tf
open Ex (hid)
open Tr (AttrD ElemD AttrsAt ElemsAt)
open Nst (own)
open St (Amid)
open Mk (mt markText')
def AJ (l : List AttrD) (i : Nat) : AttrD := l[i]?.getD ⟨ByteArray.empty, ByteArray.empty⟩
theorem AJ_eq {l : List AttrD} {i : Nat} (h : i < l.length) : AJ l i = l[i] := by unfold AJ; rw [List.getElem?_eq_getElem h, Option.getD_some]
theorem avals_flat : ∀ (l : List AttrD), Nst.flat (fun i => aval (AJ l i)) l.length = avals l := by
  intro l
  have h : ∀ n, n ≤ l.length → Nst.flat (fun i => aval (AJ l i)) n = avals (l.take n) := by
    intro n
    induction n with
    | zero => intro _; rfl
    | succ n ih =>
      intro hn
      rw [Nst.flat_succ, ih (by omega), AJ_eq (by omega), ← List.take_append_getElem (by omega), avals_snoc]
  rw [h l.length (Nat.le_refl _), List.take_length]
/-- The marks of attrs: from k on. -/
def mkA (k m : Nat) : List AttrD := (List.range m).map fun i => ⟨mt (k + 2 * i), mt (k + 2 * i + 1)⟩
theorem mkA_len (k m : Nat) : (mkA k m).length = m := by simp [mkA]
theorem mkA_get (k m i : Nat) (h : i < (mkA k m).length) : (mkA k m)[i] = ⟨mt (k + 2 * i), mt (k + 2 * i + 1)⟩ := by simp [mkA]
theorem mkA_J {k m i : Nat} (h : i < m) : AJ (mkA k m) i = ⟨mt (k + 2 * i), mt (k + 2 * i + 1)⟩ := by
  rw [AJ_eq (by rw [mkA_len]; exact h), mkA_get]
theorem grown_trans {w w1 w2 : World} {row : Option Nat} (h : w.grownBy w1 row) (h2 : w1.grownBy w2 row) : w.grownBy w2 row :=
  ⟨h2.os.trans h.os, h2.tape.trans h.tape, h2.output.trans h.output, Nat.le_trans h.size h2.size, fun k hk hr => (h2.block k (Nat.lt_of_lt_of_le hk h.size) hr).trans (h.block k hk hr)⟩
theorem grown_below {w w1 : World} {row : Option Nat} (h : Below w.heap.size w w1) : w.grownBy w1 row := ⟨h.os, h.tape, h.output, h.size, fun k hk _ => h.block k hk⟩
theorem grown_set (w : World) (g i : Nat) (u : Value) : w.grownBy (w.setCell ⟨g, i, none⟩ u) (some g) :=
  ⟨rfl, rfl, rfl, by simp [World.setCell], fun k hk hr => Below.heap_setCell _ _ _ _ (fun e => hr (by rw [e]))⟩
abbrev Z0 : Nat → Nst.Sub := fun _ => ⟨0, 0, .slice none 0 0, 0, []⟩
abbrev mcell (k : Nat) (c : Nat → List Value) (j : Nat) : Nat → List Value := fun x => if x < j then [.string (mt (k + 2 * x)), .string (mt (k + 2 * x + 1))] else c x
set_option maxRecDepth 100000 in
set_option maxHeartbeats 4000000 in
theorem markAttrs (B g cap n k : Nat) (c : Nat → List Value) (w : World) (hn : n ≤ 1048576) (h0 : 0 < k) (hk : k ≤ 17592186044416) (hc : ∀ j, j < n → (c j).length = 2) (h : Nst.At w B 68 2 (.slice (some ⟨g, 0, none⟩) n cap) n c 0 Z0) :
    Calls Tryz.prog 53 #[.slice (some ⟨g, 0, none⟩) n cap, .int .i64 (k : Int)] w fun e w' => e = .returned (.int .i64 ((k + 2 * n : Nat) : Int)) ∧ Nst.At w' B 68 2 (.slice (some ⟨g, 0, none⟩) n cap) n (mcell k c n) 0 Z0 ∧ w.grownBy w' (some g) := by
  have H0 : Hid (Nst.At w B 68 2 (.slice (some ⟨g, 0, none⟩) n cap) n (mcell k c 0) 0 Z0) := hid (h.congr (fun j hj => by simp [mcell]) (fun i hi => rfl))
  have HC := hid hc
  clear h hc
  go_enter Tryz.func53, Tryz.ntmps53
  go_wp2
  go_loopw [1, 5] (fun q i wr => ∃ (j : Nat), i = .int .i64 j ∧ q = .int .i64 ((k + 2 * j : Nat) : Int) ∧ j ≤ n ∧ Hid (Nst.At wr B 68 2 (.slice (some ⟨g, 0, none⟩) n cap) n (mcell k c j) 0 Z0) ∧ Hid (w.grownBy wr (some g))) (fun _ i _ => n - (intOf i).toNat)
  case atStart => exact ⟨0, rfl, by simp, Nat.zero_le _, H0, hid (grown_below (Below.refl _ _))⟩
  case round =>
    obtain ⟨j, rfl, rfl, hj, HW, HG⟩ := hrel
    by_cases hlt : j < n
    · have q1 : (j : Int) < (n : Int) := by omega
      have hml : ∀ x, x < n → (mcell k c j x).length = 2 := fun x hx => by unfold mcell; split; rfl; exact HC.out x hx
      have HML := hid hml
      have e1 : ((k : Int) + 2 * (j : Int)).toNat = k + 2 * j := by omega
      have e2 : ((k : Int) + 2 * (j : Int) + 1).toNat = k + 2 * j + 1 := by omega
      have E1 := hid e1
      have E2 := hid e2
      clear hml e1 e2
      go_wp2_with fail
      refine (markText' _ _ (by omega) (by omega)).mono ?_
      rintro e w1 ⟨rfl, hb1⟩
      rw [E1.out]
      have hr1 := HW.out.below hb1
      have c0 : ∃ u, w1.cell? ⟨g, j * 2, none⟩ = some u := by
        have h1 := hr1.cell HML.out hlt (i := 0) (by omega)
        rw [List.getElem?_eq_getElem (by rw [HML.out j hlt]; omega)] at h1
        exact ⟨_, h1⟩
      obtain ⟨u0, c0⟩ := c0
      have z0 := hr1.free (j * 2)
      have HR2 := hid (hr1.setRow HML.out hlt (i := 0) (by omega) (.string (mt (k + 2 * j))))
      have HG2 := hid (grown_trans HG.out (grown_trans (grown_below hb1) (grown_set w1 g (j * 2) (.string (mt (k + 2 * j))))))
      have hgl := (Nst.own_lt hr1.row (b := g) rfl).2
      clear hr1
      go_wp2_with fail
      generalize w1.setCell ⟨g, j * 2, none⟩ (.string (mt (k + 2 * j))) = w1s at *
      refine (markText' _ _ (by omega) (by omega)).mono ?_
      rintro e w2 ⟨rfl, hb2⟩
      rw [E2.out]
      have HR2' : Hid (Nst.At w1s B 68 2 (.slice (some ⟨g, 0, none⟩) n cap) n (fun x => if x = j then (mcell k c j j).set 0 (.string (mt (k + 2 * j))) else mcell k c j x) 0 Z0) := HR2
      have hml2 : ∀ x, x < n → ((fun x => if x = j then (mcell k c j j).set 0 (.string (mt (k + 2 * j))) else mcell k c j x) x).length = 2 := fun x hx => by
        by_cases e : x = j
        · simp only [e, if_true, List.length_set]; exact HML.out j hlt
        · simp only [e, if_false]; exact HML.out x hx
      have hr2 := HR2'.out.below hb2
      have c1 : ∃ u, w2.cell? ⟨g, j * 2 + 1, none⟩ = some u := by
        have h1 := hr2.cell hml2 hlt (i := 1) (by omega)
        rw [List.getElem?_eq_getElem (by rw [hml2 j hlt]; omega)] at h1
        exact ⟨_, h1⟩
      obtain ⟨u1, c1⟩ := c1
      have z1 := hr2.free (j * 2 + 1)
      have hr3 := hr2.setRow hml2 hlt (i := 1) (by omega) (.string (mt (k + 2 * j + 1)))
      have HR3 : Hid (Nst.At (w2.setCell ⟨g, j * 2 + 1, none⟩ (.string (mt (k + 2 * j + 1)))) B 68 2 (.slice (some ⟨g, 0, none⟩) n cap) n (mcell k c (j + 1)) 0 Z0) := hid (hr3.congr (fun x hx => by
        by_cases e : x = j
        · subst e
          have hl2 := HC.out x hlt
          have hx2 : ∃ p q, c x = [p, q] := by
            match c x, hl2 with
            | [p, q], _ => exact ⟨p, q, rfl⟩
          obtain ⟨p, q, hpq⟩ := hx2
          simp [mcell, hpq]
        · have e2 : (x < j + 1) = (x < j) := by simp only [eq_iff_iff]; omega
          simp only [mcell, e, if_false, e2]) (fun i hi => rfl))
      have HG3 := hid (grown_trans HG2.out (grown_trans (grown_below hb2) (grown_set w2 g (j * 2 + 1) (.string (mt (k + 2 * j + 1))))))
      have hgl2 := (Nst.own_lt hr2.row (b := g) rfl).2
      clear hr2 hr3 hml2 HR2'
      go_wp2
      exact ⟨⟨j + 1, by simp, by simp; omega, by omega, HR3, HG3⟩, by simp [intOf]; omega⟩
    · obtain rfl : j = n := by omega
      go_wp2
      go_ret
      exact ⟨rfl, HW.out, HG.out⟩
theorem mcell_flat (k : Nat) (c : Nat → List Value) (n : Nat) : Nst.flat (mcell k c n) n = avals (mkA k n) := by
  have h := avals_flat (mkA k n)
  rw [mkA_len] at h
  rw [← h]
  refine Nst.flat_congr (fun j hj => ?_)
  rw [mkA_J hj]
  simp [mcell, hj, aval]
/-- The marks of one row of attrs, whatever row it is. -/
theorem markAttrsO (B k : Nat) (l : List AttrD) (v : Value) (w : World) (hn : l.length ≤ 1048576) (h0 : 0 < k) (hk : k ≤ 17592186044416) (h : w.ownsRow B 68 2 v l.length (avals l)) :
    Calls Tryz.prog 53 #[v, .int .i64 (k : Int)] w fun e w' => e = .returned (.int .i64 ((k + 2 * l.length : Nat) : Int)) ∧ w'.ownsRow B 68 2 v l.length (avals (mkA k l.length)) ∧ w.grownBy w' v.ownBlock := by
  rcases Nat.eq_zero_or_pos l.length with e | e
  · have e2 : l = [] := List.eq_nil_of_length_eq_zero e
    subst e2
    obtain ⟨a, cap, rfl⟩ := Nst.own_slice h
    have H := hid h
    clear h
    go_enter Tryz.func53, Tryz.ntmps53
    go_wp2
    refine wp_loop_rounds 2 ?_
    rw [rounds_succ]
    go_wp2
    go_ret
    exact ⟨by simp, H.out, grown_below (Below.refl _ _)⟩
  · obtain ⟨g, cap, rfl, hB, hg, hc, hm⟩ := Nst.own_some h e
    have hA : Nst.At w B 68 2 (.slice (some ⟨g, 0, none⟩) l.length cap) l.length (fun i => aval (AJ l i)) 0 Z0 := ⟨by rw [avals_flat]; exact h, fun i hi => by omega, fun i j hi => by omega, fun i hi => by omega⟩
    refine (markAttrs B g cap l.length k _ w hn h0 hk (fun _ _ => rfl) hA).mono ?_
    rintro e w' ⟨h1, h2, h3⟩
    refine ⟨h1, ?_, h3⟩
    have := h2.row
    rw [mcell_flat] at this
    exact this
end Tf
end Go.Proofs.YtgghigfflpbjiaaGreatDoor
/- The law's marks in elements, and whether they hold. -/
namespace Go.Proofs.YtgghigfflpbjiaaGreatDoor
open Go.RowKit
set_option linter.unusedVariables false
namespace Tf
open Ex (hid)
open Tr (AttrD ElemD AttrsAt ElemsAt)
open Nst (own)
open St (Amid)
open Mk (mt markText')
open Pf (kept_cell)
def kAt (es : List ElemD) : Nat → Nat
  | 0 => 1
  | i + 1 => kAt es i + 2 + 2 * (EJ es i).attrs.length
theorem kAt_pos (es : List ElemD) : ∀ i, 0 < kAt es i
  | 0 => by simp [kAt]
  | i + 1 => by rw [kAt]; omega
theorem kAt_le {es : List ElemD} {n : Nat} (hm : ∀ j, j < n → (EJ es j).attrs.length ≤ 64) : ∀ i, i ≤ n → kAt es i ≤ 1 + 130 * i
  | 0, _ => by simp [kAt]
  | i + 1, h => by
    have := kAt_le hm i (by omega)
    have := hm i (by omega)
    rw [kAt]; omega
def mel (es : List ElemD) (i : Nat) : ElemD := ⟨mt (kAt es i), ((kAt es i + 1 : Nat) : Int), mkA (kAt es i + 2) (EJ es i).attrs.length⟩
def mkE (es : List ElemD) : List ElemD := (List.range es.length).map (mel es)
theorem mkE_len (es : List ElemD) : (mkE es).length = es.length := by simp [mkE]
theorem mkE_get (es : List ElemD) (i : Nat) (h : i < (mkE es).length) : (mkE es)[i] = mel es i := by simp [mkE]
theorem mkE_J {es : List ElemD} {i : Nat} (h : i < es.length) : EJ (mkE es) i = mel es i := by
  rw [EJ_eq (by rw [mkE_len]; exact h), mkE_get]
theorem amid_grown {w w' : World} {row : Option Nat} {B C : Nat} (h : w.grownBy w' row) (hr : ∀ b, row = some b → B ≤ b ∧ b < C) : Amid w w' B C :=
  ⟨h.os, h.tape, h.output, h.size, fun b hb ho => h.block b hb (fun e => by have := hr b e.symm; omega)⟩
abbrev ec (es : List ElemD) (F : Nat → Value) (j : Nat) : Nat → List Value := fun x => if x < j then ecell (mel es x) (F x) else ecell (EJ es x) (F x)
abbrev sc (es : List ElemD) (F : Nat → Value) (j : Nat) : Nat → Nst.Sub := fun x => if x < j then asub (F x) (mel es x).attrs else asub (F x) (EJ es x).attrs
abbrev EAj (w : World) (B : Nat) (v : Value) (es : List ElemD) (F : Nat → Value) (j : Nat) : Prop := Nst.At w B 53 3 v es.length (ec es F j) es.length (sc es F j)
theorem sub_mk (va : Value) (k : Nat) (l : List AttrD) : ({ asub va l with xs := avals (mkA k l.length) } : Nst.Sub) = asub va (mkA k l.length) := by
  unfold asub
  rw [mkA_len]
set_option maxRecDepth 100000 in
set_option maxHeartbeats 8000000 in
theorem markElems1 (B C g cap : Nat) (es : List ElemD) (F : Nat → Value) (w : World) (hn : es.length ≤ 64) (hm : ∀ j, j < es.length → (EJ es j).attrs.length ≤ 64) (h : EAt w B (.slice (some ⟨g, 0, none⟩) es.length cap) es F) (hgC : g < C) (hFC : ∀ j, j < es.length → ∀ b, own (F j) b → b < C) :
    Calls Tryz.prog 29 #[.slice (some ⟨g, 0, none⟩) es.length cap, .int .i64 1] w fun e w' => e = .returned (.int .i64 (kAt es es.length : Int)) ∧ EOwn w' B (.slice (some ⟨g, 0, none⟩) es.length cap) (mkE es) ∧ Amid w w' B C := by
  have hgB := (Nst.own_lt h.row (b := g) rfl).1
  have H0 : Hid (EAj w B (.slice (some ⟨g, 0, none⟩) es.length cap) es F 0) := hid (h.congr (fun j hj => by simp [ec]) (fun i hi => by simp [sc]))
  have HM := hid hm
  have HK := hid (fun i (hi : i ≤ es.length) => kAt_le hm i hi)
  have HP := hid (kAt_pos es)
  have HFC := hid hFC
  clear h hm hFC
  go_enter Tryz.func29, Tryz.ntmps29
  go_wp2
  go_loopw [1, 5] (fun q i wr => ∃ (j : Nat), i = .int .i64 j ∧ q = .int .i64 (kAt es j : Int) ∧ j ≤ es.length ∧ Hid (EAj wr B (.slice (some ⟨g, 0, none⟩) es.length cap) es F j) ∧ Hid (Amid w wr B C)) (fun _ i _ => es.length - (intOf i).toNat)
  case atStart => exact ⟨0, rfl, by simp [kAt], Nat.zero_le _, H0, hid (Amid.refl _ _ _)⟩
  case round =>
    obtain ⟨j, rfl, rfl, hj, HW, HA⟩ := hrel
    by_cases hlt : j < es.length
    · have q1 : (j : Int) < (es.length : Int) := by omega
      have hmj := HM.out j hlt
      have hkj := HK.out j (by omega)
      have hpj := HP.out j
      have HKS : Hid (kAt es (j + 1) = kAt es j + 2 + 2 * (EJ es j).attrs.length) := hid rfl
      have HME : Hid (mel es j = ⟨mt (kAt es j), ((kAt es j + 1 : Nat) : Int), mkA (kAt es j + 2) (EJ es j).attrs.length⟩) := hid rfl
      have hml : ∀ x, x < es.length → (ec es F j x).length = 3 := fun x hx => by unfold ec; split <;> rfl
      have HML := hid hml
      generalize hkk : kAt es j = k at *
      have HKK := hid hkk
      clear hml hkk
      go_wp2_with fail
      refine (markText' _ _ (by omega) (by omega)).mono ?_
      rintro e w1 ⟨rfl, hb1⟩
      rw [Int.toNat_natCast]
      have hr1 := HW.out.below hb1
      have hej : ec es F j j = ecell (EJ es j) (F j) := by simp [ec]
      have c0 := hr1.cell HML.out hlt (i := 0) (by omega)
      have c1 := hr1.cell HML.out hlt (i := 1) (by omega)
      have c2 := hr1.cell HML.out hlt (i := 2) (by omega)
      rw [hej] at c0 c1 c2
      replace c0 : w1.cell? ⟨g, j * 3, none⟩ = some (.string (EJ es j).tag) := c0
      replace c1 : w1.cell? ⟨g, j * 3 + 1, none⟩ = some (.int .i64 (EJ es j).parent) := c1
      replace c2 : w1.cell? ⟨g, j * 3 + 2, none⟩ = some (F j) := c2
      have z0 := hr1.free (j * 3)
      have z1 := hr1.free (j * 3 + 1)
      have hgl := (Nst.own_lt hr1.row (b := g) rfl).2
      have h2 := hr1.setRow HML.out hlt (i := 0) (by omega) (.string (mt k))
      have hml2 : ∀ x, x < es.length → ((fun x => if x = j then (ec es F j j).set 0 (.string (mt k)) else ec es F j x) x).length = 3 := fun x hx => by
        by_cases e : x = j
        · simp only [e, if_true, List.length_set]; exact HML.out j hlt
        · simp only [e, if_false]; exact HML.out x hx
      have h3 := h2.setRow hml2 hlt (i := 1) (by omega) (.int .i64 ((k : Int) + 1))
      have hsj : sc es F j j = asub (F j) (EJ es j).attrs := by simp [sc]
      have HSJ := hid hsj
      obtain ⟨af, cf, hFj⟩ : ∃ a c, F j = .slice a (EJ es j).attrs.length c := by
        have := hr1.sub j hlt
        rw [hsj] at this
        exact Nst.own_slice this
      rw [hFj] at c2
      have HFJ := hid hFj
      have HA3 : Hid (Amid w ((w1.setCell ⟨g, j * 3, none⟩ (.string (mt k))).setCell ⟨g, j * 3 + 1, none⟩ (.int .i64 ((k : Int) + 1))) B C) := hid (((HA.out.trans (Amid.of_below hb1)).trans (Amid.set w1 (j * 3) (.string (mt k)) hgB hgC)).trans (Amid.set _ (j * 3 + 1) (.int .i64 ((k : Int) + 1)) hgB hgC))
      have H3 : Hid (Nst.At ((w1.setCell ⟨g, j * 3, none⟩ (.string (mt k))).setCell ⟨g, j * 3 + 1, none⟩ (.int .i64 ((k : Int) + 1))) B 53 3 (.slice (some ⟨g, 0, none⟩) es.length cap) es.length (fun x => if x < j + 1 then ecell (mel es x) (F x) else ecell (EJ es x) (F x)) es.length (sc es F j)) := hid (h3.congr (fun x hx => by
        by_cases e : x = j
        · subst e
          rw [hej]
          simp [ecell, HME.out]
        · have e2 : (x < j + 1) = (x < j) := by simp only [eq_iff_iff]; omega
          simp only [ec, e, if_false, e2]) (fun i hi => rfl))
      clear hr1 h2 h3 hml2 hej hsj hFj
      go_wp2_with fail
      generalize (w1.setCell ⟨g, j * 3, none⟩ (.string (mt k))).setCell ⟨g, j * 3 + 1, none⟩ (.int .i64 ((k : Int) + 1)) = w3 at *
      have hsub : w3.ownsRow B 68 2 (.slice af (EJ es j).attrs.length cf) (EJ es j).attrs.length (avals (EJ es j).attrs) := by
        have := H3.out.sub j hlt
        rw [HSJ.out, HFJ.out] at this
        exact this
      have HCA := hid (markAttrsO B (k + 2) (EJ es j).attrs _ w3 (by omega) (by omega) (by omega) hsub)
      rw [show ((k + 2 : Nat) : Int) = (k : Int) + 1 + 1 by omega] at HCA
      clear hsub
      refine HCA.out.mono ?_
      rintro e w4 ⟨rfl, hx4, hg4⟩
      have hq4 := H3.out.setSub (q := j) hlt (xs := avals (mkA (k + 2) (EJ es j).attrs.length)) (by rw [HSJ.out, HFJ.out]; exact hx4) (by rw [HSJ.out, HFJ.out]; exact hg4)
      have H4 : Hid (EAj w4 B (.slice (some ⟨g, 0, none⟩) es.length cap) es F (j + 1)) := hid (hq4.congr (fun x hx => rfl) (fun x hx => by
        by_cases e : x = j
        · subst e
          simp only [sc, if_true, Nat.lt_succ_self, HME.out, Nat.lt_irrefl, if_false]
          exact (sub_mk _ _ _).symm
        · have e2 : (x < j + 1) = (x < j) := by simp only [eq_iff_iff]; omega
          simp only [sc, e, if_false, e2]))
      have HA4 : Hid (Amid w w4 B C) := hid (HA3.out.trans (amid_grown hg4 (fun b hb => by
        rw [← HFJ.out] at hb
        refine ⟨?_, HFC.out j hlt b hb⟩
        have := H3.out.sub j hlt
        rw [HSJ.out] at this
        exact (Nst.own_lt this hb).1)))
      clear hx4 hg4 hq4 HCA
      go_wp2
      exact ⟨⟨j + 1, by simp, by rw [HKS.out]; simp, by omega, H4, HA4⟩, by simp [intOf]; omega⟩
    · obtain rfl : j = es.length := by omega
      have HE : Hid (EOwn wr B (.slice (some ⟨g, 0, none⟩) es.length cap) (mkE es)) := hid ⟨F, by
        unfold EAt
        rw [mkE_len]
        exact HW.out.congr (fun x hx => by simp only [ec, hx, if_true, mkE_J hx]) (fun x hx => by simp only [sc, hx, if_true, mkE_J hx])⟩
      go_wp2
      go_ret
      exact ⟨rfl, HE.out, HA.out⟩
end Tf
end Go.Proofs.YtgghigfflpbjiaaGreatDoor
/- Whether the law's marks hold, in attrs and elements that a function has made itself. -/
namespace Go.Proofs.YtgghigfflpbjiaaGreatDoor
open Go.RowKit
set_option linter.unusedVariables false
namespace Tf
open Ex (hid)
open Tr (AttrD ElemD AttrsAt ElemsAt)
open Nst (own)
open St (Amid)
open Mk (mt markText markText')
open Pf (kept_cell)
theorem mt_ne (k : Nat) : ((mt k).toList != (mt k).toList) = false := by simp
set_option maxRecDepth 100000 in
set_option maxHeartbeats 8000000 in
theorem heldAttrs (B n k : Nat) (v : Value) (w : World) (hn : n ≤ 64) (h0 : 0 < k) (hk : k ≤ 17592186044416) (ha : AttrsAt w B v (mkA k n)) :
    Calls Tryz.prog 54 #[v, .int .i64 (k : Int)] w fun e w' => e = .returned (.int .i64 ((k + 2 * n : Nat) : Int)) ∧ Below w.heap.size w w' := by
  obtain ⟨a, cap, rfl⟩ := ha.slice
  rw [mkA_len] at ha ⊢
  have HA := hid ha
  clear ha
  go_enter Tryz.func54, Tryz.ntmps54
  go_wp2
  go_loopw [1, 5] (fun q i wr => ∃ (j : Nat), i = .int .i64 j ∧ q = .int .i64 ((k + 2 * j : Nat) : Int) ∧ j ≤ n ∧ Hid (Below w.heap.size w wr)) (fun _ i _ => n - (intOf i).toNat)
  case atStart => exact ⟨0, rfl, by simp, Nat.zero_le _, hid (Below.refl _ _)⟩
  case round =>
    obtain ⟨j, rfl, rfl, hj, HB⟩ := hrel
    by_cases hlt : j < n
    · have q1 : (j : Int) < (n : Int) := by omega
      obtain ⟨g, o, rfl, hg, c0, c1⟩ := (HA.out.below HB.out).at (i := j) (by rw [mkA_len]; exact hlt)
      rw [mkA_get] at c0 c1
      have HM1 := hid (fun wx => markText (k + 2 * j) wx (by omega) (by omega))
      have HM2 := hid (fun wx => markText (k + 2 * j + 1) wx (by omega) (by omega))
      have hn1 := mt_ne (k + 2 * j)
      have hn2 := mt_ne (k + 2 * j + 1)
      go_wp2_with fail
      have t0 : wr.drew.cell? ⟨g, o + j * 2, none⟩ = some (.string (mt (k + 2 * j))) := c0
      have t1d : wr.drew.cell? ⟨g, o + j * 2 + 1, none⟩ = some (.string (mt (k + 2 * j + 1))) := c1
      have hgd : g < wr.drew.heap.size := hg
      have HBd : Hid (Below w.heap.size w wr.drew) := hid HB.out.drew
      have hWd : w.heap.size ≤ wr.drew.heap.size := HB.out.size
      refine wp_region_held_drew (S := fun wx => wx.cell? ⟨g, o + j * 2, none⟩ = some (.string (mt (k + 2 * j))) ∧ Below w.heap.size w wx) (by kernel_rfl) ⟨t0, HBd.out⟩ (fun hHeld => ?_)
      refine wpAnyH_take (i := 0) (oi := { dst := some 12, op := Go.Op.move (Go.Operand.tmp 0), type := 51, pos := "exact.go:361", after := #[], guard := none }) (v := .slice (some ⟨g, o, none⟩) n cap) rfl (by kernel_rfl) (by kernel_rfl) (by kernel_rfl) (fun _ _ _ h => h) (Or.inl ⟨by rfl, by intro w hSw; (try dsimp only at hSw); go_simp⟩) (by assumption) ?_
      simp only [Act.put, List.setIfInBounds_toArray, List.set_cons_zero, List.set_cons_succ]
      refine wpAnyH_take (i := 1) (oi := { dst := some 13, op := Go.Op.move (Go.Operand.tmp 5), type := 3, pos := "exact.go:361", after := #[], guard := none }) (v := .int .i64 (j : Int)) rfl (by kernel_rfl) (by kernel_rfl) (by kernel_rfl) (fun _ _ _ h => h) (Or.inl ⟨by rfl, by intro w hSw; (try dsimp only at hSw); go_simp⟩) (by assumption) ?_
      simp only [Act.put, List.setIfInBounds_toArray, List.set_cons_zero, List.set_cons_succ]
      refine wpAnyH_take (i := 2) (oi := { dst := some 14, op := Go.Op.indexAddr 51 (Go.Operand.tmp 12) (Go.Operand.tmp 13), type := 0, pos := "exact.go:361", after := #[{ on := 0, ground := Go.Ground.data }, { on := 1, ground := Go.Ground.data }], guard := none }) (v := .pointer (some ⟨g, o + j * 2, none⟩)) rfl (by kernel_rfl) (by kernel_rfl) (by kernel_rfl) (fun _ _ _ h => h) (Or.inl ⟨by rfl, by intro w hSw; (try dsimp only at hSw); go_simp⟩) (by assumption) ?_
      simp only [Act.put, List.setIfInBounds_toArray, List.set_cons_zero, List.set_cons_succ]
      refine wpAnyH_take (i := 3) (oi := { dst := some 15, op := Go.Op.fieldAddr 68 (Go.Operand.tmp 14) 0, type := 0, pos := "exact.go:361", after := #[{ on := 2, ground := Go.Ground.data }], guard := none }) (v := .pointer (some ⟨g, o + j * 2, none⟩)) rfl (by kernel_rfl) (by kernel_rfl) (by kernel_rfl) (fun _ _ _ h => h) (Or.inl ⟨by rfl, by intro w hSw; (try dsimp only at hSw); go_simp⟩) (by assumption) ?_
      simp only [Act.put, List.setIfInBounds_toArray, List.set_cons_zero, List.set_cons_succ]
      refine wpAnyH_take (i := 4) (oi := { dst := some 16, op := Go.Op.load 9 (Go.Operand.tmp 15), type := 9, pos := "exact.go:361", after := #[{ on := 3, ground := Go.Ground.data }], guard := none }) (v := .string (mt (k + 2 * j))) rfl (by kernel_rfl) (by kernel_rfl) (by kernel_rfl) (fun _ _ _ h => h) (Or.inl ⟨by rfl, by intro w hSw; (try dsimp only at hSw); go_simp⟩) (by assumption) ?_
      simp only [Act.put, List.setIfInBounds_toArray, List.set_cons_zero, List.set_cons_succ]
      refine wpAnyH_take (i := 5) (oi := { dst := some 17, op := Go.Op.move (Go.Operand.tmp 1), type := 3, pos := "exact.go:361", after := #[], guard := none }) (v := .int .i64 ((k + 2 * j : Nat) : Int)) rfl (by kernel_rfl) (by kernel_rfl) (by kernel_rfl) (fun _ _ _ h => h) (Or.inl ⟨by rfl, by intro w hSw; (try dsimp only at hSw); go_simp⟩) (by assumption) ?_
      simp only [Act.put, List.setIfInBounds_toArray, List.set_cons_zero, List.set_cons_succ]
      refine wpAnyH_ready (rs := [6]) (by kernel_rfl) (by simp) ?_
      refine AllReadyH.cons (o := { dst := some 18, op := Go.Op.call { callee := Go.Callee.value (Go.Operand.func 27), args := #[Go.Operand.tmp 17], argTypes := #[3] }, type := 9, pos := "exact.go:361", after := #[{ on := 5, ground := Go.Ground.data }], guard := none }) rfl (fun K hK => ?_) AllReadyH.nil
      go_simp
      go_at_call 27
      refine (HM1.out _).mono ?_
      rintro e w1 ⟨rfl, hb1⟩
      have g0 := kept_cell hb1 hgd t0
      have HB1 := hid (HBd.out.trans (hb1.mono hWd))
      have l1 : wr.heap.size ≤ w1.heap.size := hb1.size
      have t1 := kept_cell hb1 hgd t1d
      clear hb1
      go_wp2_with fail
      refine hK.out _ _ ⟨g0, HB1.out⟩ (fun hHeld => ?_)
      clear hK K
      try simp only [Act.put, List.setIfInBounds_toArray, List.set_cons_zero, List.set_cons_succ]
      refine wpAnyH_take (i := 7) (oi := { dst := some 19, op := Go.Op.binOp Go.BinOp.neq 9 (Go.Operand.tmp 16) (Go.Operand.tmp 18) 9, type := 4, pos := "exact.go:361", after := #[{ on := 4, ground := Go.Ground.data }, { on := 6, ground := Go.Ground.data }], guard := none }) (v := .bool false) rfl (by kernel_rfl) (by kernel_rfl) (by kernel_rfl) (fun _ _ _ h => h) (Or.inl ⟨by rfl, by intro w hSw; (try dsimp only at hSw); go_simp⟩) (by assumption) ?_
      simp only [Act.put, List.setIfInBounds_toArray, List.set_cons_zero, List.set_cons_succ]
      refine wpAnyH_done (by kernel_rfl) ?_ _
      have E1 : Hid (Value.int .i64 ((k + 2 * j : Nat) : Int) = .int .i64 ((k + 2 * j : Nat) : Int)) := hid rfl
      go_wp2_with fail
      have t2 : w1.drew.cell? ⟨g, o + j * 2 + 1, none⟩ = some (.string (mt (k + 2 * j + 1))) := t1
      have hgd1 : g < w1.drew.heap.size := Nat.lt_of_lt_of_le hg l1
      have HB1d : Hid (Below w.heap.size w w1.drew) := hid HB1.out.drew
      have hWd1 : w.heap.size ≤ w1.drew.heap.size := HB1.out.size
      refine wp_region_held_drew (S := fun wx => wx.cell? ⟨g, o + j * 2 + 1, none⟩ = some (.string (mt (k + 2 * j + 1))) ∧ Below w.heap.size w wx) (by kernel_rfl) ⟨t2, HB1d.out⟩ (fun hHeld => ?_)
      refine wpAnyH_take (i := 0) (oi := { dst := some 22, op := Go.Op.move (Go.Operand.tmp 0), type := 51, pos := "exact.go:365", after := #[], guard := none }) (v := .slice (some ⟨g, o, none⟩) n cap) rfl (by kernel_rfl) (by kernel_rfl) (by kernel_rfl) (fun _ _ _ h => h) (Or.inl ⟨by rfl, by intro w hSw; (try dsimp only at hSw); go_simp⟩) (by assumption) ?_
      simp only [Act.put, List.setIfInBounds_toArray, List.set_cons_zero, List.set_cons_succ]
      refine wpAnyH_take (i := 1) (oi := { dst := some 23, op := Go.Op.move (Go.Operand.tmp 5), type := 3, pos := "exact.go:365", after := #[], guard := none }) (v := .int .i64 (j : Int)) rfl (by kernel_rfl) (by kernel_rfl) (by kernel_rfl) (fun _ _ _ h => h) (Or.inl ⟨by rfl, by intro w hSw; (try dsimp only at hSw); go_simp⟩) (by assumption) ?_
      simp only [Act.put, List.setIfInBounds_toArray, List.set_cons_zero, List.set_cons_succ]
      refine wpAnyH_take (i := 2) (oi := { dst := some 24, op := Go.Op.indexAddr 51 (Go.Operand.tmp 22) (Go.Operand.tmp 23), type := 0, pos := "exact.go:365", after := #[{ on := 0, ground := Go.Ground.data }, { on := 1, ground := Go.Ground.data }], guard := none }) (v := .pointer (some ⟨g, o + j * 2, none⟩)) rfl (by kernel_rfl) (by kernel_rfl) (by kernel_rfl) (fun _ _ _ h => h) (Or.inl ⟨by rfl, by intro w hSw; (try dsimp only at hSw); go_simp⟩) (by assumption) ?_
      simp only [Act.put, List.setIfInBounds_toArray, List.set_cons_zero, List.set_cons_succ]
      refine wpAnyH_take (i := 3) (oi := { dst := some 25, op := Go.Op.fieldAddr 68 (Go.Operand.tmp 24) 1, type := 0, pos := "exact.go:365", after := #[{ on := 2, ground := Go.Ground.data }], guard := none }) (v := .pointer (some ⟨g, o + j * 2 + 1, none⟩)) rfl (by kernel_rfl) (by kernel_rfl) (by kernel_rfl) (fun _ _ _ h => h) (Or.inl ⟨by rfl, by intro w hSw; (try dsimp only at hSw); go_simp⟩) (by assumption) ?_
      simp only [Act.put, List.setIfInBounds_toArray, List.set_cons_zero, List.set_cons_succ]
      refine wpAnyH_take (i := 4) (oi := { dst := some 26, op := Go.Op.load 9 (Go.Operand.tmp 25), type := 9, pos := "exact.go:365", after := #[{ on := 3, ground := Go.Ground.data }], guard := none }) (v := .string (mt (k + 2 * j + 1))) rfl (by kernel_rfl) (by kernel_rfl) (by kernel_rfl) (fun _ _ _ h => h) (Or.inl ⟨by rfl, by intro w hSw; (try dsimp only at hSw); go_simp⟩) (by assumption) ?_
      simp only [Act.put, List.setIfInBounds_toArray, List.set_cons_zero, List.set_cons_succ]
      refine wpAnyH_take (i := 5) (oi := { dst := some 27, op := Go.Op.move (Go.Operand.tmp 1), type := 3, pos := "exact.go:365", after := #[], guard := none }) (v := .int .i64 ((k + 2 * j + 1 : Nat) : Int)) rfl (by kernel_rfl) (by kernel_rfl) (by kernel_rfl) (fun _ _ _ h => h) (Or.inl ⟨by rfl, by intro w hSw; (try dsimp only at hSw); go_simp⟩) (by assumption) ?_
      simp only [Act.put, List.setIfInBounds_toArray, List.set_cons_zero, List.set_cons_succ]
      refine wpAnyH_ready (rs := [6]) (by kernel_rfl) (by simp) ?_
      refine AllReadyH.cons (o := { dst := some 28, op := Go.Op.call { callee := Go.Callee.value (Go.Operand.func 27), args := #[Go.Operand.tmp 27], argTypes := #[3] }, type := 9, pos := "exact.go:365", after := #[{ on := 5, ground := Go.Ground.data }], guard := none }) rfl (fun K hK => ?_) AllReadyH.nil
      go_simp
      go_at_call 27
      refine (HM2.out _).mono ?_
      rintro e w2 ⟨rfl, hb2⟩
      have g2 := kept_cell hb2 hgd1 t2
      have HB2 := hid (HB1d.out.trans (hb2.mono hWd1))
      clear hb2
      go_wp2_with fail
      refine hK.out _ _ ⟨g2, HB2.out⟩ (fun hHeld => ?_)
      clear hK K
      try simp only [Act.put, List.setIfInBounds_toArray, List.set_cons_zero, List.set_cons_succ]
      refine wpAnyH_take (i := 7) (oi := { dst := some 29, op := Go.Op.binOp Go.BinOp.neq 9 (Go.Operand.tmp 26) (Go.Operand.tmp 28) 9, type := 4, pos := "exact.go:365", after := #[{ on := 4, ground := Go.Ground.data }, { on := 6, ground := Go.Ground.data }], guard := none }) (v := .bool false) rfl (by kernel_rfl) (by kernel_rfl) (by kernel_rfl) (fun _ _ _ h => h) (Or.inl ⟨by rfl, by intro w hSw; (try dsimp only at hSw); go_simp⟩) (by assumption) ?_
      simp only [Act.put, List.setIfInBounds_toArray, List.set_cons_zero, List.set_cons_succ]
      refine wpAnyH_done (by kernel_rfl) ?_ _
      go_wp2
      exact ⟨⟨j + 1, by simp, by simp; omega, by omega, HB2⟩, by simp [intOf]; omega⟩
    · obtain rfl : j = n := by omega
      go_wp2
      go_ret
      exact ⟨rfl, HB.out⟩
set_option maxRecDepth 100000 in
set_option maxHeartbeats 8000000 in
theorem heldElems (B : Nat) (es : List ElemD) (v : Value) (w : World) (hn : es.length ≤ 64) (hm : ∀ j, j < es.length → (EJ es j).attrs.length ≤ 64) (ha : ElemsAt w B v (mkE es)) :
    Calls Tryz.prog 30 #[v, .int .i64 1] w fun e w' => e = .returned (.int .i64 (kAt es es.length : Int)) ∧ Below w.heap.size w w' := by
  obtain ⟨a, cap, rfl⟩ := ha.slice
  have HA := hid ha
  have HM := hid hm
  have HK := hid (fun i (hi : i ≤ es.length) => kAt_le hm i hi)
  have HP := hid (kAt_pos es)
  have hml := mkE_len es
  have HML := hid hml
  clear ha hm hml
  go_enter Tryz.func30, Tryz.ntmps30
  go_wp2
  go_loopw [1, 5] (fun q i wr => ∃ (j : Nat), i = .int .i64 j ∧ q = .int .i64 (kAt es j : Int) ∧ j ≤ es.length ∧ Hid (Below w.heap.size w wr)) (fun _ i _ => es.length - (intOf i).toNat)
  case atStart => exact ⟨0, rfl, by simp [kAt], Nat.zero_le _, hid (Below.refl _ _)⟩
  case round =>
    obtain ⟨j, rfl, rfl, hj, HB⟩ := hrel
    by_cases hlt : j < es.length
    · have q1 : (j : Int) < ((mkE es).length : Int) := by have := HML.out; omega
      have hlt2 : j < (mkE es).length := by have := HML.out; omega
      obtain ⟨g, o, va, rfl, hg, c0, c1, c2, hva⟩ := (HA.out.below HB.out).at (i := j) hlt2
      rw [mkE_get] at c0 c1 hva
      have hkj := HK.out j (by omega)
      have hpj := HP.out j
      have hmj := HM.out j hlt
      have HKS : Hid (kAt es (j + 1) = kAt es j + 2 + 2 * (EJ es j).attrs.length) := hid rfl
      replace c0 : wr.cell? ⟨g, o + j * 3, none⟩ = some (.string (mt (kAt es j))) := c0
      replace c1 : wr.cell? ⟨g, o + j * 3 + 1, none⟩ = some (.int .i64 ((kAt es j + 1 : Nat) : Int)) := c1
      replace hva : AttrsAt wr B va (mkA (kAt es j + 2) (EJ es j).attrs.length) := hva
      obtain ⟨a2, cap2, rfl⟩ := hva.slice
      have HVA := hid hva
      generalize hkk : kAt es j = k at *
      clear hkk hva
      have HM1 := hid (fun wx => markText k wx (by omega) (by omega))
      have hn1 := mt_ne k
      go_wp2_with fail
      have t0 : wr.drew.cell? ⟨g, o + j * 3, none⟩ = some (.string (mt k)) := c0
      have t1d : wr.drew.cell? ⟨g, o + j * 3 + 1, none⟩ = some (.int .i64 ((k + 1 : Nat) : Int)) := c1
      have t2d : wr.drew.cell? ⟨g, o + j * 3 + 2, none⟩ = some (.slice a2 (mkA (k + 2) (EJ es j).attrs.length).length cap2) := c2
      have hgd : g < wr.drew.heap.size := hg
      have HBd : Hid (Below w.heap.size w wr.drew) := hid HB.out.drew
      have hDr : Below wr.heap.size wr wr.drew := (Below.refl _ wr).drew
      have hWd : w.heap.size ≤ wr.drew.heap.size := HB.out.size
      refine wp_region_held_drew (S := fun wx => wx.cell? ⟨g, o + j * 3, none⟩ = some (.string (mt k)) ∧ Below w.heap.size w wx) (by kernel_rfl) ⟨t0, HBd.out⟩ (fun hHeld => ?_)
      refine wpAnyH_take (i := 0) (oi := { dst := some 12, op := Go.Op.move (Go.Operand.tmp 0), type := 24, pos := "exact.go:386", after := #[], guard := none }) (v := .slice (some ⟨g, o, none⟩) (mkE es).length cap) rfl (by kernel_rfl) (by kernel_rfl) (by kernel_rfl) (fun _ _ _ h => h) (Or.inl ⟨by rfl, by intro w hSw; (try dsimp only at hSw); go_simp⟩) (by assumption) ?_
      simp only [Act.put, List.setIfInBounds_toArray, List.set_cons_zero, List.set_cons_succ]
      refine wpAnyH_take (i := 1) (oi := { dst := some 13, op := Go.Op.move (Go.Operand.tmp 5), type := 3, pos := "exact.go:386", after := #[], guard := none }) (v := .int .i64 (j : Int)) rfl (by kernel_rfl) (by kernel_rfl) (by kernel_rfl) (fun _ _ _ h => h) (Or.inl ⟨by rfl, by intro w hSw; (try dsimp only at hSw); go_simp⟩) (by assumption) ?_
      simp only [Act.put, List.setIfInBounds_toArray, List.set_cons_zero, List.set_cons_succ]
      refine wpAnyH_take (i := 2) (oi := { dst := some 14, op := Go.Op.indexAddr 24 (Go.Operand.tmp 12) (Go.Operand.tmp 13), type := 0, pos := "exact.go:386", after := #[{ on := 0, ground := Go.Ground.data }, { on := 1, ground := Go.Ground.data }], guard := none }) (v := .pointer (some ⟨g, o + j * 3, none⟩)) rfl (by kernel_rfl) (by kernel_rfl) (by kernel_rfl) (fun _ _ _ h => h) (Or.inl ⟨by rfl, by intro w hSw; (try dsimp only at hSw); go_simp⟩) (by assumption) ?_
      simp only [Act.put, List.setIfInBounds_toArray, List.set_cons_zero, List.set_cons_succ]
      refine wpAnyH_take (i := 3) (oi := { dst := some 15, op := Go.Op.fieldAddr 53 (Go.Operand.tmp 14) 0, type := 0, pos := "exact.go:386", after := #[{ on := 2, ground := Go.Ground.data }], guard := none }) (v := .pointer (some ⟨g, o + j * 3, none⟩)) rfl (by kernel_rfl) (by kernel_rfl) (by kernel_rfl) (fun _ _ _ h => h) (Or.inl ⟨by rfl, by intro w hSw; (try dsimp only at hSw); go_simp⟩) (by assumption) ?_
      simp only [Act.put, List.setIfInBounds_toArray, List.set_cons_zero, List.set_cons_succ]
      refine wpAnyH_take (i := 4) (oi := { dst := some 16, op := Go.Op.load 9 (Go.Operand.tmp 15), type := 9, pos := "exact.go:386", after := #[{ on := 3, ground := Go.Ground.data }], guard := none }) (v := .string (mt k)) rfl (by kernel_rfl) (by kernel_rfl) (by kernel_rfl) (fun _ _ _ h => h) (Or.inl ⟨by rfl, by intro w hSw; (try dsimp only at hSw); go_simp⟩) (by assumption) ?_
      simp only [Act.put, List.setIfInBounds_toArray, List.set_cons_zero, List.set_cons_succ]
      refine wpAnyH_take (i := 5) (oi := { dst := some 17, op := Go.Op.move (Go.Operand.tmp 1), type := 3, pos := "exact.go:386", after := #[], guard := none }) (v := .int .i64 (k : Int)) rfl (by kernel_rfl) (by kernel_rfl) (by kernel_rfl) (fun _ _ _ h => h) (Or.inl ⟨by rfl, by intro w hSw; (try dsimp only at hSw); go_simp⟩) (by assumption) ?_
      simp only [Act.put, List.setIfInBounds_toArray, List.set_cons_zero, List.set_cons_succ]
      refine wpAnyH_ready (rs := [6]) (by kernel_rfl) (by simp) ?_
      refine AllReadyH.cons (o := { dst := some 18, op := Go.Op.call { callee := Go.Callee.value (Go.Operand.func 27), args := #[Go.Operand.tmp 17], argTypes := #[3] }, type := 9, pos := "exact.go:386", after := #[{ on := 5, ground := Go.Ground.data }], guard := none }) rfl (fun K hK => ?_) AllReadyH.nil
      go_simp
      go_at_call 27
      refine (HM1.out _).mono ?_
      rintro e w1 ⟨rfl, hb1⟩
      have g0 := kept_cell hb1 hgd t0
      have HB1 := hid (HBd.out.trans (hb1.mono hWd))
      have hbr : Below wr.heap.size wr w1 := hDr.trans hb1
      have l1 : wr.heap.size ≤ w1.heap.size := hb1.size
      have t1 := kept_cell hb1 hgd t1d
      have t2 := kept_cell hb1 hgd t2d
      clear hb1
      go_wp2_with fail
      refine hK.out _ _ ⟨g0, HB1.out⟩ (fun hHeld => ?_)
      clear hK K
      try simp only [Act.put, List.setIfInBounds_toArray, List.set_cons_zero, List.set_cons_succ]
      refine wpAnyH_take (i := 7) (oi := { dst := some 19, op := Go.Op.binOp Go.BinOp.neq 9 (Go.Operand.tmp 16) (Go.Operand.tmp 18) 9, type := 4, pos := "exact.go:386", after := #[{ on := 4, ground := Go.Ground.data }, { on := 6, ground := Go.Ground.data }], guard := none }) (v := .bool false) rfl (by kernel_rfl) (by kernel_rfl) (by kernel_rfl) (fun _ _ _ h => h) (Or.inl ⟨by rfl, by intro w hSw; (try dsimp only at hSw); go_simp⟩) (by assumption) ?_
      simp only [Act.put, List.setIfInBounds_toArray, List.set_cons_zero, List.set_cons_succ]
      refine wpAnyH_done (by kernel_rfl) ?_ _
      have HHA := hid (heldAttrs B (EJ es j).attrs.length (k + 2) _ w1 (by omega) (by omega) (by omega) (HVA.out.below hbr))
      rw [show ((k + 2 : Nat) : Int) = (k : Int) + 1 + 1 by omega] at HHA
      have b2 : (((k + 1 : Nat) : Int) != (k : Int) + 1) = false := by simp
      have b3 : ((k : Int) + 1 != (k : Int) + 1) = false := by simp
      have hg1 : g < w1.heap.size := Nat.lt_of_lt_of_le hg l1
      go_wp2_with fail
      refine HHA.out.mono ?_
      rintro e w2 ⟨rfl, hb2⟩
      have HB2 := hid (HB1.out.trans (hb2.mono HB1.out.size))
      have b4 : ¬ ((k + 2 + 2 * (EJ es j).attrs.length : Nat) : Int) < 0 := by omega
      clear hb2 HHA
      go_wp2
      exact ⟨⟨j + 1, by simp, by rw [HKS.out]; simp, by omega, HB2⟩, by simp [intOf]; omega⟩
    · obtain rfl : j = es.length := by omega
      have q1 : ¬ (es.length : Int) < ((mkE es).length : Int) := by have := HML.out; omega
      go_wp2
      go_ret
      exact ⟨rfl, HB.out⟩
/-- The answer's elements lie in blocks of that range. -/
def EIn (w : World) (B C : Nat) (v : Value) (es : List ElemD) : Prop := ∃ F, EAt w B v es F ∧ (∀ b, own v b → b < C) ∧ ∀ j, j < es.length → ∀ b, own (F j) b → b < C
theorem EOwn.into {w : World} {B : Nat} {v : Value} {es : List ElemD} (h : EOwn w B v es) : EIn w B w.heap.size v es := by
  obtain ⟨F, h⟩ := h
  exact ⟨F, h, fun b hb => (Nst.own_lt h.row hb).2, fun j hj b hb => (Nst.own_lt (h.sub j hj) hb).2⟩
theorem EIn.own {w : World} {B C : Nat} {v : Value} {es : List ElemD} (h : EIn w B C v es) : EOwn w B v es := by
  obtain ⟨F, h, _⟩ := h; exact ⟨F, h⟩
theorem EIn.keep {w w' : World} {B C : Nat} {v : Value} {es : List ElemD} (h : EIn w B C v es) (hb : ∀ b, B ≤ b → b < C → w'.heap[b]? = w.heap[b]?) : EIn w' B C v es := by
  obtain ⟨F, h, h1, h2⟩ := h
  exact ⟨F, h.kept (fun b hv => hb b (Nst.own_lt h.row hv).1 (h1 b hv)) (fun j hj b hv => hb b (Nst.own_lt (h.sub j hj) hv).1 (h2 j hj b hv)), h1, h2⟩
theorem EIn.below {w w' : World} {B C : Nat} {v : Value} {es : List ElemD} (h : EIn w B C v es) (hC : C ≤ w.heap.size) (hb : Below w.heap.size w w') : EIn w' B C v es := h.keep (fun b _ hl => hb.block b (by omega))
theorem markElems (B C : Nat) (es : List ElemD) (v : Value) (w : World) (hn : es.length ≤ 64) (hm : ∀ j, j < es.length → (EJ es j).attrs.length ≤ 64) (h : EIn w B C v es) :
    Calls Tryz.prog 29 #[v, .int .i64 1] w fun e w' => e = .returned (.int .i64 (kAt es es.length : Int)) ∧ EOwn w' B v (mkE es) ∧ Amid w w' B C := by
  obtain ⟨F, h, h1, h2⟩ := h
  rcases Nat.eq_zero_or_pos es.length with e | e
  · have e2 : es = [] := List.eq_nil_of_length_eq_zero e
    subst e2
    obtain ⟨a, cap, rfl⟩ := Nst.own_slice h.row
    have H := hid h
    clear h h1 h2
    go_enter Tryz.func29, Tryz.ntmps29
    go_wp2
    refine wp_loop_rounds 2 ?_
    rw [rounds_succ]
    go_wp2
    go_ret
    exact ⟨by simp [kAt], ⟨F, H.out⟩, Amid.refl _ _ _⟩
  · obtain ⟨g, cap, rfl, _⟩ := Nst.own_some h.row e
    exact markElems1 B C g cap es F w hn hm h (h1 g rfl) h2
set_option maxRecDepth 100000 in
set_option maxHeartbeats 2000000 in
theorem markRes (B C : Nat) (c : Int) (es : List ElemD) (v : Value) (w : World) (hC : C ≤ w.heap.size) (hn : es.length ≤ 64) (hm : ∀ j, j < es.length → (EJ es j).attrs.length ≤ 64) (h : EIn w B C v es) :
    Calls Tryz.prog 12 #[.agg #[.int .i64 c, .int .i64 0, v], .int .i64 1] w fun e w' => e = .returned (.int .i64 (kAt es es.length : Int)) ∧ EOwn w' B v (mkE es) ∧ Amid w w' B C := by
  have hx : Below w.heap.size w (w.alloc (.cells #[.int .i64 c, .int .i64 0, v] 26)) := (Below.refl _ w).alloc (Nat.le_refl _) _
  have HM := hid (markElems B C es v _ hn hm (h.below hC hx))
  obtain ⟨a, cap, rfl⟩ := h.own.slice
  have HX := hid hx
  clear h hx hm
  go_enter Tryz.func12, Tryz.ntmps12
  go_wp2_with fail
  refine HM.out.mono ?_
  rintro e w1 ⟨rfl, ho, hA⟩
  have HO := hid ho
  have HA := hid hA
  clear ho hA
  go_wp2
  go_ret
  exact ⟨rfl, HO.out, (Amid.of_below HX.out).trans HA.out⟩
set_option maxRecDepth 100000 in
set_option maxHeartbeats 2000000 in
theorem heldRes (B : Nat) (c : Int) (es : List ElemD) (v : Value) (w : World) (hn : es.length ≤ 64) (hm : ∀ j, j < es.length → (EJ es j).attrs.length ≤ 64) (h : ElemsAt w B v (mkE es)) :
    Calls Tryz.prog 13 #[.agg #[.int .i64 c, .int .i64 0, v], .int .i64 1] w fun e w' => e = .returned (.int .i64 (kAt es es.length : Int)) ∧ Below w.heap.size w w' := by
  have hx : Below w.heap.size w (w.alloc (.cells #[.int .i64 c, .int .i64 0, v] 26)) := (Below.refl _ w).alloc (Nat.le_refl _) _
  have HM := hid (heldElems B es v _ hn hm (h.below hx))
  obtain ⟨a, cap, rfl⟩ := h.slice
  have HX := hid hx
  clear h hx hm
  generalize hkk : kAt es es.length = kk at *
  clear hkk
  have b1 : ¬ (kk : Int) < 0 := by omega
  go_enter Tryz.func13, Tryz.ntmps13
  go_wp2_with fail
  refine HM.out.mono ?_
  rintro e w1 ⟨rfl, hb⟩
  have HB := hid hb
  clear hb
  go_wp2
  go_ret
  exact ⟨rfl, HX.out.trans (HB.out.mono HX.out.size)⟩
set_option maxRecDepth 100000 in
set_option maxHeartbeats 2000000 in
theorem eqRes (B1 B2 : Nat) (c : Int) (es : List ElemD) (v1 v2 : Value) (w : World) (hl : Tr.SmallE 1048576 es) (h1 : ElemsAt w B1 v1 es) (h2 : ElemsAt w B2 v2 es) :
    Calls Tryz.prog 9 #[.agg #[.int .i64 c, .int .i64 0, v1], .agg #[.int .i64 c, .int .i64 0, v2]] w fun e w' => e = .returned (.bool true) ∧ Below w.heap.size w w' := by
  have hx : Below w.heap.size w ((w.alloc (.cells #[.int .i64 c, .int .i64 0, v1] 26)).alloc (.cells #[.int .i64 c, .int .i64 0, v2] 26)) := ((Below.refl _ w).alloc (Nat.le_refl _) _).alloc (by simp) _
  have HM := hid (Tr.eqElemS B1 B2 es v1 v2 _ hl (h1.below hx) (h2.below hx))
  obtain ⟨a, cap, rfl⟩ := h1.slice
  obtain ⟨a2, cap2, rfl⟩ := h2.slice
  have HX := hid hx
  clear h1 h2 hx
  have e1 : (c != c) = false := by simp
  go_enter Tryz.func9, Tryz.ntmps9
  go_wp2_with fail
  refine HM.out.mono ?_
  rintro e w1 ⟨rfl, hb⟩
  have HB := hid hb
  clear hb
  go_wp2
  go_ret
  exact ⟨rfl, HX.out.trans (HB.out.mono HX.out.size)⟩
end Tf
end Go.Proofs.YtgghigfflpbjiaaGreatDoor
