/- Laid together: StM, ChM. -/
import Derived.Test.YtccklgopcjilcaaGreatDoorJWF12
import Derived.Lib.SlBytesConst
import Derived.Laws.OwnMore
import Derived.Test.YtccklgopcjilcaaGreatDoorJWF11
/- The law's marks in a row of steps: they are written into that row and its nodes alone. -/
namespace Go.Proofs.YtccklgopcjilcaaGreatDoor
open Go.RowKit
set_option linter.unusedVariables false
namespace St
open Ex (hid)
open Nd (NodeD)
def dg (k : Nat) : UInt8 := (48 + k % 10).toUInt8
theorem dg_nat (j : Nat) : ((dg j).toNat : Int) = 48 + (j : Int) % 10 := by
  unfold dg
  have h : (48 + j % 10) < 256 := by omega
  rw [Nat.toUInt8, UInt8.toNat_ofNat', Nat.mod_eq_of_lt h]
  push_cast
  rfl
theorem conv1 (j : Nat) (w : World) : Sem.run Tryz.prog (convert 31 9 (.slice (some ⟨w.heap.size, 0, none⟩) 1 1)) (w.alloc (.cells #[.int .u8 (48 + (j : Int) % 10)] 5)) = .ok (.string ⟨[dg j].toArray⟩) (w.alloc (.cells #[.int .u8 (48 + (j : Int) % 10)] 5)) := by
  refine run_convert_bytes_back (P := Tryz.prog) _ 31 9 5 ⟨w.heap.size, 0, none⟩ 1 [dg j] Tryz.underlying31 Tryz.underlying5 Tryz.underlying9 ?_
  intro i hi
  obtain rfl : i = 0 := by simpa using hi
  simp [Addr.add, dg_nat]
theorem app_one (c : UInt8) (l : List UInt8) : Value.string (ByteArray.mk [c].toArray ++ ByteArray.mk l.toArray) = .string ⟨(c :: l).toArray⟩ := by
  apply congrArg Value.string; apply ByteArray.ext; simp
set_option maxRecDepth 100000 in
set_option maxHeartbeats 2000000 in
theorem markText (k : Nat) (w : World) (h0 : 0 < k) (hk : k ≤ 35184372088832) : Calls Tryz.prog 101 #[.int .i64 k] w fun e w' => (∃ s, e = .returned (.string s)) ∧ Below w.heap.size w w' := by
  have q0 : (0 : Int) < (k : Int) := by omega
  have q00 : k ≠ 0 := by omega
  go_enter Tryz.func101, Tryz.ntmps101
  go_wp2
  go_loopw [0, 3] (fun i o wr => ∃ (j : Nat) (l : List UInt8), i = .int .i64 j ∧ o = .string ⟨l.toArray⟩ ∧ l.length + j ≤ k ∧ Below w.heap.size w wr) (fun i _ _ => (intOf i).toNat)
  case atStart => exact ⟨k, [], rfl, rfl, by simp, Below.refl _ _⟩
  case round =>
    obtain ⟨j, l, rfl, rfl, hl, hbel⟩ := hrel
    by_cases hj : 0 < j
    · have q1 : (0 : Int) < (j : Int) := by omega
      go_wp2
      rw [conv1]
      simp only [Result.andThen]
      rw [Oper.upon_value]
      go_wp2
      exact ⟨⟨j / 10, dg j :: l, by simp, app_one _ _, by simp only [List.length_cons]; omega, hbel.alloc hbel.size _⟩, by simp [intOf]; omega⟩
    · have q1 : ¬ (0 : Int) < (j : Int) := by omega
      go_wp2
      go_ret
      exact ⟨⟨_, rfl⟩, hbel⟩
theorem markText' (k : Int) (w : World) (h0 : 0 < k) (hk : k ≤ 35184372088832) : Calls Tryz.prog 101 #[.int .i64 k] w fun e w' => (∃ s, e = .returned (.string s)) ∧ Below w.heap.size w w' := by
  have h := markText k.toNat w (by omega) (by omega)
  rw [show ((k.toNat : Nat) : Int) = k by omega] at h
  exact h
/-- Nothing has turned but blocks between the two. -/
structure Amid (w w' : World) (B C : Nat) : Prop where
  os : w'.os = w.os
  tape : w'.tape = w.tape
  output : w'.output = w.output
  size : w.heap.size ≤ w'.heap.size
  block : ∀ b, b < w.heap.size → b < B ∨ C ≤ b → w'.heap[b]? = w.heap[b]?
theorem Amid.refl (w : World) (B C : Nat) : Amid w w B C := ⟨rfl, rfl, rfl, Nat.le_refl _, fun _ _ _ => rfl⟩
theorem Amid.trans {w w1 w2 : World} {B C : Nat} (h : Amid w w1 B C) (h2 : Amid w1 w2 B C) : Amid w w2 B C :=
  ⟨h2.os.trans h.os, h2.tape.trans h.tape, h2.output.trans h.output, Nat.le_trans h.size h2.size, fun b hb ho => (h2.block b (Nat.lt_of_lt_of_le hb h.size) ho).trans (h.block b hb ho)⟩
theorem Amid.of_below {w w' : World} {B C : Nat} (h : Below w.heap.size w w') : Amid w w' B C := ⟨h.os, h.tape, h.output, h.size, fun b hb _ => h.block b hb⟩
theorem Amid.set (w : World) {B C g : Nat} (c : Nat) (u : Value) (h1 : B ≤ g) (h2 : g < C) : Amid w (w.setCell ⟨g, c, none⟩ u) B C :=
  ⟨rfl, rfl, rfl, by simp [World.setCell], fun b hb ho => Below.heap_setCell _ _ _ _ (by dsimp only; omega)⟩
theorem Amid.mono {w w' : World} {B B' C C' : Nat} (h : Amid w w' B C) (h1 : B' ≤ B) (h2 : C ≤ C') : Amid w w' B' C' := ⟨h.os, h.tape, h.output, h.size, fun b hb ho => h.block b hb (by omega)⟩
theorem row_size {w : World} {g : Nat} {t t' : TypeId} {n n' : Nat} {f f' : Nat → Value} (h : w.rowIs g t n f) (h' : w.rowIs g t' n' f') : n = n' := by
  rcases Nat.lt_trichotomy n n' with e | e | e
  · have h1 := h'.cell e
    have h2 : w.cell? ⟨g, n, none⟩ = none := by
      obtain ⟨c, h3, h4, _⟩ := h
      simp [World.cell?, h3, h4]
    rw [h2] at h1
    cases h1
  · exact e
  · have h1 := h.cell e
    have h2 : w.cell? ⟨g, n', none⟩ = none := by
      obtain ⟨c, h3, h4, _⟩ := h'
      simp [World.cell?, h3, h4]
    rw [h2] at h1
    cases h1
set_option maxRecDepth 100000 in
set_option maxHeartbeats 4000000 in
theorem markNodes (g : Nat) (m : Nat) (f : Nat → Value) (k : Int) (w : World) (hm : m ≤ 1048576) (h0 : 0 < k) (hk : k ≤ 17592186044416) (hr : w.rowIs g 210 (m * 4) f) :
    Calls Tryz.prog 102 #[.slice (some ⟨g, 0, none⟩) m m, .int .i64 k] w fun e w' => (∃ r : Int, e = .returned (.int .i64 r) ∧ k ≤ r ∧ r ≤ k + 4 * (m : Int)) ∧ (∃ f', w'.rowIs g 210 (m * 4) f') ∧ Amid w w' g (g + 1) := by
  have HR := hid hr
  clear hr
  go_enter Tryz.func102, Tryz.ntmps102
  go_wp2
  go_loopw [1, 5] (fun q i wr => ∃ (j : Nat) (f' : Nat → Value), i = .int .i64 j ∧ q = .int .i64 (k + 4 * (j : Int)) ∧ j ≤ m ∧ Hid (wr.rowIs g 210 (m * 4) f') ∧ Hid (Amid w wr g (g + 1))) (fun _ i _ => m - (intOf i).toNat)
  case atStart => exact ⟨0, f, rfl, by simp, Nat.zero_le _, HR, hid (Amid.refl _ _ _)⟩
  case round =>
    obtain ⟨j, f', rfl, rfl, hj, HW, HAM⟩ := hrel
    by_cases hlt : j < m
    · have q1 : (j : Int) < (m : Int) := by omega
      have d0 := HW.out.cell (i := j * 4) (by omega)
      have d1 := HW.out.cell (i := j * 4 + 1) (by omega)
      have d2 := HW.out.cell (i := j * 4 + 2) (by omega)
      have d3 := HW.out.cell (i := j * 4 + 3) (by omega)
      have f0 := HW.out.frozen (j * 4)
      have f1 := HW.out.frozen (j * 4 + 1)
      have f2 := HW.out.frozen (j * 4 + 2)
      have f3 := HW.out.frozen (j * 4 + 3)
      have HR2 := hid ((((HW.out.set (j * 4) (.int .i64 (k + 4 * (j : Int)))).set (j * 4 + 1) (.int .i64 (k + 4 * (j : Int) + 1))).set (j * 4 + 2) (.int .i64 (k + 4 * (j : Int) + 1 + 1))).set (j * 4 + 3) (.int .i64 (k + 4 * (j : Int) + 1 + 1 + 1)))
      have HA2 := hid ((((HAM.out.trans (Amid.set wr (j * 4) (.int .i64 (k + 4 * (j : Int))) (Nat.le_refl _) (Nat.lt_succ_self _))).trans (Amid.set _ (j * 4 + 1) (.int .i64 (k + 4 * (j : Int) + 1)) (Nat.le_refl _) (Nat.lt_succ_self _))).trans (Amid.set _ (j * 4 + 2) (.int .i64 (k + 4 * (j : Int) + 1 + 1)) (Nat.le_refl _) (Nat.lt_succ_self _))).trans (Amid.set _ (j * 4 + 3) (.int .i64 (k + 4 * (j : Int) + 1 + 1 + 1)) (Nat.le_refl _) (Nat.lt_succ_self _)))
      go_wp2
      exact ⟨⟨j + 1, _, by simp, by simp; omega, by omega, HR2, HA2⟩, by simp [intOf]; omega⟩
    · obtain rfl : j = m := by omega
      go_wp2
      go_ret
      exact ⟨⟨_, rfl, by omega, by omega⟩, ⟨f', HW.out⟩, HAM.out⟩
theorem ownAmid {w w' : World} {B C m g : Nat} {v : Value} {f : Nat → Value} {n : Nat} (h : Nd.Own w B C v m) (hA : Amid w w' g (g + 1)) (hr : w.rowIs g 210 (n * 4) f) (hr' : ∃ f', w'.rowIs g 210 (n * 4) f') : Nd.Own w' B C v m := by
  obtain ⟨gi, fi, hvi, hi1, hi2, hri⟩ := h
  by_cases e3 : gi = g
  · subst e3
    have hs := row_size hri hr
    obtain ⟨f', hf'⟩ := hr'
    exact ⟨gi, f', hvi, hi1, hi2, by rw [hs]; exact hf'⟩
  · exact ⟨gi, fi, hvi, hi1, hi2, hri.of_block (hA.block gi hri.lt (by omega))⟩
set_option maxRecDepth 100000 in
set_option maxHeartbeats 8000000 in
theorem markSteps (B C : Nat) (v : Value) (n : Nat) (mc me : Nat → Nat) (w : World) (hn : n ≤ 1048576) (hmc : ∀ j, j < n → mc j ≤ 1048576) (hme : ∀ j, j < n → me j ≤ 1048576) (h : Own w B C v n mc me) :
    Calls Tryz.prog 52 #[v, .int .i64 1] w fun e w' => (∃ r : Int, e = .returned (.int .i64 r) ∧ 1 ≤ r ∧ r ≤ 1 + 8388612 * (n : Int)) ∧ Amid w w' B C := by
  obtain ⟨g, f, rfl, hB, hC, hr, ho⟩ := h
  have HR := hid hr
  have HO := hid ho
  have HMC := hid hmc
  have HME := hid hme
  clear hr ho hmc hme
  go_enter Tryz.func52, Tryz.ntmps52
  go_wp2
  go_loopw [1, 5] (fun q i wr => ∃ (j : Nat) (k : Int) (f' : Nat → Value), i = .int .i64 j ∧ q = .int .i64 k ∧ 1 ≤ k ∧ k ≤ 1 + 8388612 * (j : Int) ∧ j ≤ n ∧ Hid (wr.rowIs g 164 (n * 6) f') ∧ Hid (∀ i, i < n → Nd.Own wr (g + 1) C (f' (i * 6 + 4)) (mc i) ∧ Nd.Own wr (g + 1) C (f' (i * 6 + 5)) (me i)) ∧ Hid (Amid w wr B C)) (fun _ i _ => n - (intOf i).toNat)
  case atStart => exact ⟨0, 1, f, rfl, rfl, by omega, by omega, Nat.zero_le _, HR, HO, hid (Amid.refl _ _ _)⟩
  case round =>
    obtain ⟨j, k, f', rfl, rfl, hk1, hk2, hj, HW, HV, HAM⟩ := hrel
    by_cases hlt : j < n
    · have q1 : (j : Int) < (n : Int) := by omega
      have hmj := HMC.out j hlt
      have hmj2 := HME.out j hlt
      have d0 := HW.out.cell (i := j * 6) (by omega)
      have d1 := HW.out.cell (i := j * 6 + 1) (by omega)
      have z0 := HW.out.frozen (j * 6)
      have z1 := HW.out.frozen (j * 6 + 1)
      have hgl := HW.out.lt
      have HR1 := hid ((HW.out.set (j * 6) (.int .i64 k)).set (j * 6 + 1) (.int .i64 (k + 1)))
      have HA1 := hid ((HAM.out.trans (Amid.set wr (j * 6) (.int .i64 k) hB hC)).trans (Amid.set _ (j * 6 + 1) (.int .i64 (k + 1)) hB hC))
      have HV1 : Hid (∀ i, i < n → Nd.Own ((wr.setCell ⟨g, j * 6, none⟩ (.int .i64 k)).setCell ⟨g, j * 6 + 1, none⟩ (.int .i64 (k + 1))) (g + 1) C (f' (i * 6 + 4)) (mc i) ∧ Nd.Own ((wr.setCell ⟨g, j * 6, none⟩ (.int .i64 k)).setCell ⟨g, j * 6 + 1, none⟩ (.int .i64 (k + 1))) (g + 1) C (f' (i * 6 + 5)) (me i)) := hid (fun i hi => ⟨ownSet (ownSet (HV.out i hi).1 (by omega) _) (by omega) _, ownSet (ownSet (HV.out i hi).2 (by omega) _) (by omega) _⟩)
      go_wp2_with fail
      generalize (wr.setCell ⟨g, j * 6, none⟩ (.int .i64 k)).setCell ⟨g, j * 6 + 1, none⟩ (.int .i64 (k + 1)) = wA at *
      refine (markText' _ _ (by omega) (by omega)).mono ?_
      rintro e w1 ⟨⟨s1, rfl⟩, hb1⟩
      have hr1 := HR1.out.of_block (w' := w1) (hb1.block _ HR1.out.lt)
      have d2 := hr1.cell (i := j * 6 + 2) (by omega)
      have d3 := hr1.cell (i := j * 6 + 3) (by omega)
      have z2 := hr1.frozen (j * 6 + 2)
      have z3 := hr1.frozen (j * 6 + 3)
      have hgl1 := hr1.lt
      have HR2 := hid ((hr1.set (j * 6 + 2) (.string s1)).set (j * 6 + 3) (.int .i64 (k + 1 + 1 + 1)))
      have HA2 := hid (((HA1.out.trans (Amid.of_below hb1)).trans (Amid.set w1 (j * 6 + 2) (.string s1) hB hC)).trans (Amid.set _ (j * 6 + 3) (.int .i64 (k + 1 + 1 + 1)) hB hC))
      have HV2 : Hid (∀ i, i < n → Nd.Own ((w1.setCell ⟨g, j * 6 + 2, none⟩ (.string s1)).setCell ⟨g, j * 6 + 3, none⟩ (.int .i64 (k + 1 + 1 + 1))) (g + 1) C (f' (i * 6 + 4)) (mc i) ∧ Nd.Own ((w1.setCell ⟨g, j * 6 + 2, none⟩ (.string s1)).setCell ⟨g, j * 6 + 3, none⟩ (.int .i64 (k + 1 + 1 + 1))) (g + 1) C (f' (i * 6 + 5)) (me i)) := hid (fun i hi => ⟨ownSet (ownSet (ownBelow (HV1.out i hi).1 hb1) (by omega) _) (by omega) _, ownSet (ownSet (ownBelow (HV1.out i hi).2 hb1) (by omega) _) (by omega) _⟩)
      generalize hF2 : (fun i => if i = j * 6 + 3 then Value.int .i64 (k + 1 + 1 + 1) else (fun i => if i = j * 6 + 2 then Value.string s1 else (fun i => if i = j * 6 + 1 then Value.int .i64 (k + 1) else (fun i => if i = j * 6 then Value.int .i64 k else f' i) i) i) i) = F2 at *
      have e4 : ∀ i, F2 (i * 6 + 4) = f' (i * 6 + 4) := fun i => by
        have h1 : ¬ i * 6 + 4 = j * 6 + 3 := by omega
        have h2 : ¬ i * 6 + 4 = j * 6 + 2 := by omega
        have h3 : ¬ i * 6 + 4 = j * 6 + 1 := by omega
        have h4 : ¬ i * 6 + 4 = j * 6 := by omega
        rw [← hF2]
        simp only [h1, h2, h3, h4, if_false]
      have e5 : ∀ i, F2 (i * 6 + 5) = f' (i * 6 + 5) := fun i => by
        have h1 : ¬ i * 6 + 5 = j * 6 + 3 := by omega
        have h2 : ¬ i * 6 + 5 = j * 6 + 2 := by omega
        have h3 : ¬ i * 6 + 5 = j * 6 + 1 := by omega
        have h4 : ¬ i * 6 + 5 = j * 6 := by omega
        rw [← hF2]
        simp only [h1, h2, h3, h4, if_false]
      have E4 := hid e4
      have E5 := hid e5
      have c4 := HR2.out.cell (i := j * 6 + 4) (by omega)
      have c5 := HR2.out.cell (i := j * 6 + 5) (by omega)
      rw [e4] at c4
      rw [e5] at c5
      have hoc := (HV2.out j hlt).1
      obtain ⟨gc, fc, hvc, hgc1, hgc2, hrc⟩ := hoc
      obtain ⟨ge, fe, hve, hge1, hge2, hre⟩ := (HV2.out j hlt).2
      have HVE := hid hve
      rw [hvc] at c4
      have hgl2 := HR2.out.lt
      have HRC := hid hrc
      clear hF2 hvc e4 e5 hrc hre hr1 c5
      go_wp2_with fail
      generalize (w1.setCell ⟨g, j * 6 + 2, none⟩ (.string s1)).setCell ⟨g, j * 6 + 3, none⟩ (.int .i64 (k + 1 + 1 + 1)) = wB at *
      refine (markNodes gc (mc j) fc (k + 1 + 1 + 1 + 1) _ hmj (by omega) (by omega) HRC.out).mono ?_
      rintro e w4 ⟨⟨r4, rfl, hr4a, hr4b⟩, hf4, hA4⟩
      have HV4 : Hid (∀ i, i < n → Nd.Own w4 (g + 1) C (f' (i * 6 + 4)) (mc i) ∧ Nd.Own w4 (g + 1) C (f' (i * 6 + 5)) (me i)) := hid (fun i hi => ⟨ownAmid (HV2.out i hi).1 hA4 HRC.out hf4, ownAmid (HV2.out i hi).2 hA4 HRC.out hf4⟩)
      have HR4 := hid (HR2.out.of_block (w' := w4) (hA4.block g HR2.out.lt (.inl (by omega))))
      have HA4 := hid (HA2.out.trans (hA4.mono (by omega) (by omega)))
      have c5 := HR4.out.cell (i := j * 6 + 5) (by omega)
      have hgl4 := HR4.out.lt
      rw [E5.out] at c5
      obtain ⟨ge', fe', hve', hge1', hge2', hre'⟩ := (HV4.out j hlt).2
      rw [hve'] at c5
      have HRE := hid hre'
      clear hve' hre' hf4 hA4
      go_wp2_with fail
      refine (markNodes ge' (me j) fe' r4 _ hmj2 (by omega) (by omega) HRE.out).mono ?_
      rintro e w5 ⟨⟨r5, rfl, hr5a, hr5b⟩, hf5, hA5⟩
      have HV5 : Hid (∀ i, i < n → Nd.Own w5 (g + 1) C (F2 (i * 6 + 4)) (mc i) ∧ Nd.Own w5 (g + 1) C (F2 (i * 6 + 5)) (me i)) := hid (fun i hi => by
        rw [E4.out, E5.out]
        exact ⟨ownAmid (HV4.out i hi).1 hA5 HRE.out hf5, ownAmid (HV4.out i hi).2 hA5 HRE.out hf5⟩)
      have HR5 := hid (HR4.out.of_block (w' := w5) (hA5.block g HR4.out.lt (.inl (by omega))))
      have HA5 := hid (HA4.out.trans (hA5.mono (by omega) (by omega)))
      clear hf5 hA5
      go_wp2
      exact ⟨⟨j + 1, r5, F2, by simp, rfl, by omega, by push_cast; omega, by omega, HR5, HV5, HA5⟩, by simp [intOf]; omega⟩
    · obtain rfl : j = n := by omega
      go_wp2
      go_ret
      exact ⟨⟨_, rfl, hk1, hk2⟩, HAM.out⟩
end St
end Go.Proofs.YtccklgopcjilcaaGreatDoor
/- The law's copy of a chart owns its rows; its marks. -/
namespace Go.Proofs.YtccklgopcjilcaaGreatDoor
open Go.RowKit Go.Deep
set_option linter.unusedVariables false
namespace Ch
open St (Amid row_size)
/-- A list that is a whole row of its own. -/
def OwnL (w : World) (B : Nat) (v : Value) (m : Nat) : Prop := ∃ g f, v = .slice (some ⟨g, 0, none⟩) m m ∧ B ≤ g ∧ w.rowIs g 2 (m * 1) f
theorem OwnL.below {w w' : World} {B : Nat} {v : Value} {m : Nat} (h : OwnL w B v m) (hb : Below w.heap.size w w') : OwnL w' B v m := by
  obtain ⟨g, f, rfl, h1, h2⟩ := h
  exact ⟨g, f, rfl, h1, h2.of_block (hb.block g h2.lt)⟩
theorem OwnL.mono {w : World} {B B' : Nat} {v : Value} {m : Nat} (h : OwnL w B v m) (hb : B' ≤ B) : OwnL w B' v m := by
  obtain ⟨g, f, rfl, h1, h2⟩ := h
  exact ⟨g, f, rfl, Nat.le_trans hb h1, h2⟩
theorem OwnL.amid {w w' : World} {B C D : Nat} {v : Value} {m : Nat} (h : OwnL w B v m) (ha : Amid w w' C D) (hd : D ≤ B) : OwnL w' B v m := by
  obtain ⟨g, f, rfl, h1, h2⟩ := h
  exact ⟨g, f, rfl, h1, h2.of_block (ha.block g h2.lt (.inr (by omega)))⟩
structure NO (w : World) (B : Nat) (v : Value) (xs : List Int) : Prop where
  at' : Nu.At w B v xs
  own : OwnL w B v xs.length
theorem NO.below {w w' : World} {B : Nat} {v : Value} {xs : List Int} (h : NO w B v xs) (hb : Below w.heap.size w w') : NO w' B v xs := ⟨h.at'.below hb, h.own.below hb⟩
theorem NO.mono {w : World} {B B' : Nat} {v : Value} {xs : List Int} (h : NO w B v xs) (hb : B' ≤ B) : NO w B' v xs := ⟨h.at'.mono hb, h.own.mono hb⟩
theorem NO.slice {w : World} {B : Nat} {v : Value} {xs : List Int} (h : NO w B v xs) : ∃ a cap, v = .slice a xs.length cap := h.at'.slice
theorem NO.setBelow {w : World} {B : Nat} {v : Value} {xs : List Int} (h : NO w B v xs) {b o : Nat} (ha : b < B) (x : Value) : NO (w.setCell ⟨b, o, none⟩ x) B v xs := by
  refine ⟨h.at'.setBelow ha x, ?_⟩
  obtain ⟨g, f, rfl, h1, h2⟩ := h.own
  exact ⟨g, f, rfl, h1, h2.of_block (Below.heap_setCell _ _ _ _ (by dsimp only; omega))⟩
theorem no5 {B : Nat} {w : World} {v : Value} {xs : List Int} (h : NO w B v xs) {b : Nat} (hb : b < B) (a0 a1 a2 a3 a4 : Value) : NO (((((w.setCell ⟨b, 0, none⟩ a0).setCell ⟨b, 1, none⟩ a1).setCell ⟨b, 2, none⟩ a2).setCell ⟨b, 3, none⟩ a3).setCell ⟨b, 4, none⟩ a4) B v xs :=
  ((((h.setBelow hb _).setBelow hb _).setBelow hb _).setBelow hb _).setBelow hb _
theorem NO.toS (B : Nat) (xs : List Int) (v : Value) (w : World) (hl : xs.length ≤ 1048576) (ha : Nu.At w B v xs) :
    Calls Tryz.prog 190 #[v] w fun e w' => ∃ v', e = .returned v' ∧ NO w' w.heap.size v' xs ∧ Below w.heap.size w w' :=
  (Nu.toS2 B xs v w hl ha).mono (fun e w' ⟨v', h1, h2, ⟨g, f, h3, h4, h5, h6⟩, h7⟩ => ⟨v', h1, ⟨h2, g, f, h3, h4, h6⟩, h7⟩)
structure AtO (w : World) (B : Nat) (v1 v2 v3 : Value) (r : RunD) : Prop where
  vars : NO w B v1 r.vars
  marks : NO w B v2 r.marks
  dues : NO w B v3 r.dues
theorem AtO.at' {w : World} {B : Nat} {v1 v2 v3 : Value} {r : RunD} (h : AtO w B v1 v2 v3 r) : At w B v1 v2 v3 r := ⟨h.vars.at', h.marks.at', h.dues.at'⟩
theorem AtO.below {w w' : World} {B : Nat} {v1 v2 v3 : Value} {r : RunD} (h : AtO w B v1 v2 v3 r) (hb : Below w.heap.size w w') : AtO w' B v1 v2 v3 r := ⟨h.vars.below hb, h.marks.below hb, h.dues.below hb⟩
set_option maxRecDepth 100000 in
set_option maxHeartbeats 8000000 in
theorem to2 (B : Nat) (r : RunD) (v1 v2 v3 : Value) (w : World) (hl : Small 1048576 r) (ha : At w B v1 v2 v3 r) :
    Calls Tryz.prog 158 #[.agg #[.int .i64 r.status, .int .i64 r.now, v1, v2, v3]] w fun e w' => ∃ u1 u2 u3, e = .returned (.agg #[.int .i64 r.status, .int .i64 r.now, u1, u2, u3]) ∧ AtO w' w.heap.size u1 u2 u3 r ∧ Below w.heap.size w w' := by
  obtain ⟨a1, k1, rfl⟩ := ha.vars.slice
  obtain ⟨a2, k2, rfl⟩ := ha.marks.slice
  obtain ⟨a3, k3, rfl⟩ := ha.dues.slice
  have HL := hid hl
  have KB : Hid (Below w.heap.size w (((w.alloc (.cells #[.int .i64 r.status, .int .i64 r.now, .slice a1 r.vars.length k1, .slice a2 r.marks.length k2, .slice a3 r.dues.length k3] 179)).alloc (.cells #[.int .i64 0, .int .i64 0, .slice none 0 0, .slice none 0 0, .slice none 0 0] 112)).alloc (.cells #[.int .i64 r.status, .int .i64 r.now, .slice none 0 0, .slice none 0 0, .slice none 0 0] 112))) := hid ((((Below.refl _ w).alloc (Nat.le_refl _) _).alloc (by simp) _).alloc (by simp; omega) _)
  have K0 : Hid ((((w.alloc (.cells #[.int .i64 r.status, .int .i64 r.now, .slice a1 r.vars.length k1, .slice a2 r.marks.length k2, .slice a3 r.dues.length k3] 179)).alloc (.cells #[.int .i64 0, .int .i64 0, .slice none 0 0, .slice none 0 0, .slice none 0 0] 112)).alloc (.cells #[.int .i64 r.status, .int .i64 r.now, .slice none 0 0, .slice none 0 0, .slice none 0 0] 112)).heap[w.heap.size]? = some (.cells #[.int .i64 r.status, .int .i64 r.now, .slice a1 r.vars.length k1, .slice a2 r.marks.length k2, .slice a3 r.dues.length k3] 179)) := hid (by rw [Below.heap_alloc _ _ _ (by simp; omega), Below.heap_alloc _ _ _ (by simp), new_blk])
  have K1 : Hid ((((w.alloc (.cells #[.int .i64 r.status, .int .i64 r.now, .slice a1 r.vars.length k1, .slice a2 r.marks.length k2, .slice a3 r.dues.length k3] 179)).alloc (.cells #[.int .i64 0, .int .i64 0, .slice none 0 0, .slice none 0 0, .slice none 0 0] 112)).alloc (.cells #[.int .i64 r.status, .int .i64 r.now, .slice none 0 0, .slice none 0 0, .slice none 0 0] 112)).heap[w.heap.size + 1]? = some (.cells #[.int .i64 0, .int .i64 0, .slice none 0 0, .slice none 0 0, .slice none 0 0] 112)) := hid (by rw [Below.heap_alloc _ _ _ (by simp)]; exact new_at (by simp) _)
  have K2 : Hid ((((w.alloc (.cells #[.int .i64 r.status, .int .i64 r.now, .slice a1 r.vars.length k1, .slice a2 r.marks.length k2, .slice a3 r.dues.length k3] 179)).alloc (.cells #[.int .i64 0, .int .i64 0, .slice none 0 0, .slice none 0 0, .slice none 0 0] 112)).alloc (.cells #[.int .i64 r.status, .int .i64 r.now, .slice none 0 0, .slice none 0 0, .slice none 0 0] 112)).heap[w.heap.size + 1 + 1]? = some (.cells #[.int .i64 r.status, .int .i64 r.now, .slice none 0 0, .slice none 0 0, .slice none 0 0] 112)) := hid (new_at (by simp) _)
  have HA := hid ha
  clear ha hl
  go_enter Tryz.func158, Tryz.ntmps158
  go_wp2_with fail
  generalize ((w.alloc (.cells #[.int .i64 r.status, .int .i64 r.now, .slice a1 r.vars.length k1, .slice a2 r.marks.length k2, .slice a3 r.dues.length k3] 179)).alloc (.cells #[.int .i64 0, .int .i64 0, .slice none 0 0, .slice none 0 0, .slice none 0 0] 112)).alloc (.cells #[.int .i64 r.status, .int .i64 r.now, .slice none 0 0, .slice none 0 0, .slice none 0 0] 112) = w0 at *
  refine (NO.toS B r.vars _ w0 (by have := HL.out.vars; omega) (HA.out.below KB.out).vars).mono ?_
  rintro e w1 ⟨u1, rfl, hu, hb⟩
  obtain ⟨x1, y1, rfl⟩ := hu.slice
  have KBx := KB.out.trans (hb.mono KB.out.size)
  have z0 := blk_lt K2.out
  have K0x := (hb.block _ (blk_lt K0.out)).trans K0.out
  have K1x := (hb.block _ (blk_lt K1.out)).trans K1.out
  have K2x := (hb.block _ (blk_lt K2.out)).trans K2.out
  have G0 := hid (blk_cell K2x 2)
  have g2 := blk_free K2x 2
  have z1 := blk_lt K2x
  have g1 : w1.cell? ⟨w.heap.size + 1 + 1, 2, none⟩ = some (.slice none 0 0) := by rw [G0.out]; rfl
  have K01 := hid ((Below.heap_setCell w1 ⟨w.heap.size + 1 + 1, 2, none⟩ (.slice x1 r.vars.length y1) w.heap.size (by dsimp only; omega)).trans K0x)
  have K11 := hid ((Below.heap_setCell w1 ⟨w.heap.size + 1 + 1, 2, none⟩ (.slice x1 r.vars.length y1) (w.heap.size + 1) (by dsimp only; omega)).trans K1x)
  have K21 : Hid ((w1.setCell ⟨w.heap.size + 1 + 1, 2, none⟩ (.slice x1 r.vars.length y1)).heap[w.heap.size + 1 + 1]? = some (.cells #[.int .i64 r.status, .int .i64 r.now, .slice x1 r.vars.length y1, .slice none 0 0, .slice none 0 0] 112)) := hid (by have := blk_set (i := 2) K2x (.slice x1 r.vars.length y1); simpa using this)
  have KB1 : Hid (Below w.heap.size w (w1.setCell ⟨w.heap.size + 1 + 1, 2, none⟩ (.slice x1 r.vars.length y1))) := hid (KBx.setCell (by dsimp only; omega) _)
  have HX11 : Hid (NO (w1.setCell ⟨w.heap.size + 1 + 1, 2, none⟩ (.slice x1 r.vars.length y1)) (w.heap.size + 1 + 1 + 1) (.slice x1 r.vars.length y1) r.vars) := hid ((hu.setBelow (b := w.heap.size + 1 + 1) (o := 2) (by omega) _).mono (by omega))
  have b1 : (w1.setCell ⟨w.heap.size + 1 + 1, 2, none⟩ (.slice x1 r.vars.length y1)).cell? ⟨w.heap.size, 3, none⟩ = some (.slice a2 r.marks.length k2) := by rw [blk_cell K01.out]; rfl
  have b2 := blk_lt K01.out
  clear hu hb KBx K0x K1x K2x G0 z0 KB K0 K1 K2
  go_wp2_with fail
  generalize w1.setCell ⟨w.heap.size + 1 + 1, 2, none⟩ (.slice x1 r.vars.length y1) = wA1 at *
  clear g1 g2 z1
  have b1p := b1
  have b2p := b2
  clear b1 b2
  refine (NO.toS B r.marks _ wA1 (by have := HL.out.marks; omega) (HA.out.below KB1.out).marks).mono ?_
  rintro e w2 ⟨u2, rfl, hu, hb⟩
  obtain ⟨x2, y2, rfl⟩ := hu.slice
  have KBx := KB1.out.trans (hb.mono KB1.out.size)
  have z0 := blk_lt K21.out
  have K0x := (hb.block _ (blk_lt K01.out)).trans K01.out
  have K1x := (hb.block _ (blk_lt K11.out)).trans K11.out
  have K2x := (hb.block _ (blk_lt K21.out)).trans K21.out
  have G0 := hid (blk_cell K2x 3)
  have g2 := blk_free K2x 3
  have z1 := blk_lt K2x
  have g1 : w2.cell? ⟨w.heap.size + 1 + 1, 3, none⟩ = some (.slice none 0 0) := by rw [G0.out]; rfl
  have K02 := hid ((Below.heap_setCell w2 ⟨w.heap.size + 1 + 1, 3, none⟩ (.slice x2 r.marks.length y2) w.heap.size (by dsimp only; omega)).trans K0x)
  have K12 := hid ((Below.heap_setCell w2 ⟨w.heap.size + 1 + 1, 3, none⟩ (.slice x2 r.marks.length y2) (w.heap.size + 1) (by dsimp only; omega)).trans K1x)
  have K22 : Hid ((w2.setCell ⟨w.heap.size + 1 + 1, 3, none⟩ (.slice x2 r.marks.length y2)).heap[w.heap.size + 1 + 1]? = some (.cells #[.int .i64 r.status, .int .i64 r.now, .slice x1 r.vars.length y1, .slice x2 r.marks.length y2, .slice none 0 0] 112)) := hid (by have := blk_set (i := 3) K2x (.slice x2 r.marks.length y2); simpa using this)
  have KB2 : Hid (Below w.heap.size w (w2.setCell ⟨w.heap.size + 1 + 1, 3, none⟩ (.slice x2 r.marks.length y2))) := hid (KBx.setCell (by dsimp only; omega) _)
  have HX22 : Hid (NO (w2.setCell ⟨w.heap.size + 1 + 1, 3, none⟩ (.slice x2 r.marks.length y2)) (w.heap.size + 1 + 1 + 1) (.slice x2 r.marks.length y2) r.marks) := hid ((hu.setBelow (b := w.heap.size + 1 + 1) (o := 3) (by omega) _).mono (by omega))
  have HX12 : Hid (NO (w2.setCell ⟨w.heap.size + 1 + 1, 3, none⟩ (.slice x2 r.marks.length y2)) (w.heap.size + 1 + 1 + 1) (.slice x1 r.vars.length y1) r.vars) := hid ((HX11.out.below hb).setBelow (b := w.heap.size + 1 + 1) (o := 3) (by omega) _)
  have b1 : (w2.setCell ⟨w.heap.size + 1 + 1, 3, none⟩ (.slice x2 r.marks.length y2)).cell? ⟨w.heap.size, 4, none⟩ = some (.slice a3 r.dues.length k3) := by rw [blk_cell K02.out]; rfl
  have b2 := blk_lt K02.out
  clear hu hb KBx K0x K1x K2x G0 z0 KB1 K01 K11 K21 HX11 b1p b2p
  go_wp2_with fail
  generalize w2.setCell ⟨w.heap.size + 1 + 1, 3, none⟩ (.slice x2 r.marks.length y2) = wA2 at *
  clear g1 g2 z1
  have b1p := b1
  have b2p := b2
  clear b1 b2
  refine (NO.toS B r.dues _ wA2 (by have := HL.out.dues; omega) (HA.out.below KB2.out).dues).mono ?_
  rintro e w3 ⟨u3, rfl, hu, hb⟩
  obtain ⟨x3, y3, rfl⟩ := hu.slice
  have KBx := KB2.out.trans (hb.mono KB2.out.size)
  have z0 := blk_lt K22.out
  have K0x := (hb.block _ (blk_lt K02.out)).trans K02.out
  have K1x := (hb.block _ (blk_lt K12.out)).trans K12.out
  have K2x := (hb.block _ (blk_lt K22.out)).trans K22.out
  have G0 := hid (blk_cell K2x 4)
  have g2 := blk_free K2x 4
  have z1 := blk_lt K2x
  have g1 : w3.cell? ⟨w.heap.size + 1 + 1, 4, none⟩ = some (.slice none 0 0) := by rw [G0.out]; rfl
  have K03 := hid ((Below.heap_setCell w3 ⟨w.heap.size + 1 + 1, 4, none⟩ (.slice x3 r.dues.length y3) w.heap.size (by dsimp only; omega)).trans K0x)
  have K13 := hid ((Below.heap_setCell w3 ⟨w.heap.size + 1 + 1, 4, none⟩ (.slice x3 r.dues.length y3) (w.heap.size + 1) (by dsimp only; omega)).trans K1x)
  have K23 : Hid ((w3.setCell ⟨w.heap.size + 1 + 1, 4, none⟩ (.slice x3 r.dues.length y3)).heap[w.heap.size + 1 + 1]? = some (.cells #[.int .i64 r.status, .int .i64 r.now, .slice x1 r.vars.length y1, .slice x2 r.marks.length y2, .slice x3 r.dues.length y3] 112)) := hid (by have := blk_set (i := 4) K2x (.slice x3 r.dues.length y3); simpa using this)
  have KB3 : Hid (Below w.heap.size w (w3.setCell ⟨w.heap.size + 1 + 1, 4, none⟩ (.slice x3 r.dues.length y3))) := hid (KBx.setCell (by dsimp only; omega) _)
  have HX33 : Hid (NO (w3.setCell ⟨w.heap.size + 1 + 1, 4, none⟩ (.slice x3 r.dues.length y3)) (w.heap.size + 1 + 1 + 1) (.slice x3 r.dues.length y3) r.dues) := hid ((hu.setBelow (b := w.heap.size + 1 + 1) (o := 4) (by omega) _).mono (by omega))
  have HX13 : Hid (NO (w3.setCell ⟨w.heap.size + 1 + 1, 4, none⟩ (.slice x3 r.dues.length y3)) (w.heap.size + 1 + 1 + 1) (.slice x1 r.vars.length y1) r.vars) := hid ((HX12.out.below hb).setBelow (b := w.heap.size + 1 + 1) (o := 4) (by omega) _)
  have HX23 : Hid (NO (w3.setCell ⟨w.heap.size + 1 + 1, 4, none⟩ (.slice x3 r.dues.length y3)) (w.heap.size + 1 + 1 + 1) (.slice x2 r.marks.length y2) r.marks) := hid ((HX22.out.below hb).setBelow (b := w.heap.size + 1 + 1) (o := 4) (by omega) _)
  clear hu hb KBx K0x K1x K2x G0 z0 KB2 K02 K12 K22 HX12 HX22 b1p b2p
  go_upto_region 7 with fail
  generalize w3.setCell ⟨w.heap.size + 1 + 1, 4, none⟩ (.slice x3 r.dues.length y3) = wA3 at *
  clear g1 g2 z1
  have c0 := (blk_cell K23.out 0)
  have c1 := (blk_cell K23.out 1)
  have c2 := (blk_cell K23.out 2)
  have c3 := (blk_cell K23.out 3)
  have c4 := (blk_cell K23.out 4)
  have d0 := (blk_cell K13.out 0)
  have d1 := (blk_cell K13.out 1)
  have d2 := (blk_cell K13.out 2)
  have d3 := (blk_cell K13.out 3)
  have d4 := (blk_cell K13.out 4)
  have f0 := (blk_free K13.out 0)
  have f1 := (blk_free K13.out 1)
  have f2 := (blk_free K13.out 2)
  have f3 := (blk_free K13.out 3)
  have f4 := (blk_free K13.out 4)
  simp at c0 c1 c2 c3 c4 d0 d1 d2 d3 d4
  have z0 := blk_lt K23.out
  have z1 := blk_lt K13.out
  go_wp2
  refine bodyPost_ret (results_cell_row Tryz.results158 _ _ (w.heap.size + 1) 112 #[.int .i64 r.status, .int .i64 r.now, .slice x1 r.vars.length y1, .slice x2 r.marks.length y2, .slice x3 r.dues.length y3] (0, 0) _ rfl (set5 K13.out _ _ _ _ _) Tryz.underlying112 rfl info5) rfl ⟨_, _, _, rfl, ⟨?_, ?_, ?_⟩, ?_⟩
  · exact (no5 HX13.out (by omega) _ _ _ _ _).mono (by omega)
  · exact (no5 HX23.out (by omega) _ _ _ _ _).mono (by omega)
  · exact (no5 HX33.out (by omega) _ _ _ _ _).mono (by omega)
  · exact below5 KB3.out (by omega) _ _ _ _ _
/-- A whole row between two blocks. -/
def OwnC (w : World) (B C : Nat) (v : Value) (m : Nat) : Prop := ∃ g f, v = .slice (some ⟨g, 0, none⟩) m m ∧ B ≤ g ∧ g < C ∧ w.rowIs g 2 (m * 1) f
theorem OwnC.below {w w' : World} {B C : Nat} {v : Value} {m : Nat} (h : OwnC w B C v m) (hb : Below w.heap.size w w') : OwnC w' B C v m := by
  obtain ⟨g, f, rfl, h1, h1', h2⟩ := h
  exact ⟨g, f, rfl, h1, h1', h2.of_block (hb.block g h2.lt)⟩
theorem OwnC.amid {w w' : World} {B C E F : Nat} {v : Value} {m : Nat} (h : OwnC w B C v m) (ha : Amid w w' E F) (hd : F ≤ B) : OwnC w' B C v m := by
  obtain ⟨g, f, rfl, h1, h1', h2⟩ := h
  exact ⟨g, f, rfl, h1, h1', h2.of_block (ha.block g h2.lt (.inr (by omega)))⟩
theorem OwnL.upto {w : World} {B : Nat} {v : Value} {m : Nat} (h : OwnL w B v m) : OwnC w B w.heap.size v m := by
  obtain ⟨g, f, rfl, h1, h2⟩ := h
  exact ⟨g, f, rfl, h1, h2.lt, h2⟩
/-- The three rows alone, whatever they hold. -/
structure Rows3 (w : World) (B C : Nat) (v1 v2 v3 : Value) (r : RunD) : Prop where
  vars : OwnC w B C v1 r.vars.length
  marks : OwnC w B C v2 r.marks.length
  dues : OwnC w B C v3 r.dues.length
theorem AtO.rows {w : World} {B : Nat} {v1 v2 v3 : Value} {r : RunD} (h : AtO w B v1 v2 v3 r) : Rows3 w B w.heap.size v1 v2 v3 r := ⟨h.vars.own.upto, h.marks.own.upto, h.dues.own.upto⟩
theorem Rows3.below {w w' : World} {B C : Nat} {v1 v2 v3 : Value} {r : RunD} (h : Rows3 w B C v1 v2 v3 r) (hb : Below w.heap.size w w') : Rows3 w' B C v1 v2 v3 r := ⟨h.vars.below hb, h.marks.below hb, h.dues.below hb⟩
theorem Rows3.amid {w w' : World} {B C E F : Nat} {v1 v2 v3 : Value} {r : RunD} (h : Rows3 w B C v1 v2 v3 r) (ha : Amid w w' E F) (hd : F ≤ B) : Rows3 w' B C v1 v2 v3 r := ⟨h.vars.amid ha hd, h.marks.amid ha hd, h.dues.amid ha hd⟩
set_option maxRecDepth 100000 in
set_option maxHeartbeats 4000000 in
theorem markL (g : Nat) (m : Nat) (f : Nat → Value) (k : Int) (w : World) (hm : m ≤ 1048576) (h0 : 0 < k) (hk : k ≤ 17592186044416) (hr : w.rowIs g 2 (m * 1) f) :
    Calls Tryz.prog 126 #[.slice (some ⟨g, 0, none⟩) m m, .int .i64 k] w fun e w' => e = .returned (.int .i64 (k + (m : Int))) ∧ (∃ f', w'.rowIs g 2 (m * 1) f') ∧ Amid w w' g (g + 1) := by
  have HR := hid hr
  clear hr
  go_enter Tryz.func126, Tryz.ntmps126
  go_wp2
  go_loopw [1, 5] (fun q i wr => ∃ (j : Nat) (f' : Nat → Value), i = .int .i64 j ∧ q = .int .i64 (k + (j : Int)) ∧ j ≤ m ∧ Hid (wr.rowIs g 2 (m * 1) f') ∧ Hid (Amid w wr g (g + 1))) (fun _ i _ => m - (intOf i).toNat)
  case atStart => exact ⟨0, f, rfl, by simp, Nat.zero_le _, HR, hid (Amid.refl _ _ _)⟩
  case round =>
    obtain ⟨j, f', rfl, rfl, hj, HW, HAM⟩ := hrel
    by_cases hlt : j < m
    · have q1 : (j : Int) < (m : Int) := by omega
      have d0 := HW.out.cell (i := j) (by omega)
      have f0 := HW.out.frozen j
      have HR2 := hid (HW.out.set j (.int .i64 (k + (j : Int))))
      have HA2 := hid (HAM.out.trans (Amid.set wr j (.int .i64 (k + (j : Int))) (Nat.le_refl _) (Nat.lt_succ_self _)))
      go_wp2
      exact ⟨⟨j + 1, _, by simp, by simp; omega, by omega, HR2, HA2⟩, by simp [intOf]; omega⟩
    · obtain rfl : j = m := by omega
      go_wp2
      go_ret
      exact ⟨rfl, ⟨f', HW.out⟩, HAM.out⟩
theorem OwnC.marked {w w' : World} {B C g n m : Nat} {v : Value} {f : Nat → Value} (h : OwnC w B C v m) (hA : Amid w w' g (g + 1)) (hr : w.rowIs g 2 (n * 1) f) (hr' : ∃ f', w'.rowIs g 2 (n * 1) f') : OwnC w' B C v m := by
  obtain ⟨gi, fi, hvi, hi1, hi2, hri⟩ := h
  by_cases e3 : gi = g
  · subst e3
    have hs := row_size hri hr
    obtain ⟨f', hf'⟩ := hr'
    exact ⟨gi, f', hvi, hi1, hi2, by rw [hs]; exact hf'⟩
  · exact ⟨gi, fi, hvi, hi1, hi2, hri.of_block (hA.block gi hri.lt (by omega))⟩
theorem Rows3.marked {w w' : World} {B C g n : Nat} {v1 v2 v3 : Value} {r : RunD} {f : Nat → Value} (h : Rows3 w B C v1 v2 v3 r) (hA : Amid w w' g (g + 1)) (hr : w.rowIs g 2 (n * 1) f) (hr' : ∃ f', w'.rowIs g 2 (n * 1) f') : Rows3 w' B C v1 v2 v3 r := ⟨h.vars.marked hA hr hr', h.marks.marked hA hr hr', h.dues.marked hA hr hr'⟩
theorem row_in {w : World} {g n : Nat} {t : TypeId} {f : Nat → Value} (h : w.rowIs g t n f) : g < w.heap.size := h.lt
end Ch
end Go.Proofs.YtccklgopcjilcaaGreatDoor
