/- The law's marks in a row of elements: they are written into that row and its attrs alone. -/
import Derived.Test.YtlnmegfcecpfmahDoorTrC
import Derived.Lib.SlBytesConst
import Derived.Laws.OwnMore
namespace Go.Proofs.YtlnmegfcecpfmahDoor
open Go.RowKit
set_option linter.unusedVariables false
namespace Tr
def dg (k : Nat) : UInt8 := (48 + k % 10).toUInt8
theorem dg_nat (j : Nat) : ((dg j).toNat : Int) = 48 + (j : Int) % 10 := by
  unfold dg
  have h : (48 + j % 10) < 256 := by omega
  rw [Nat.toUInt8, UInt8.toNat_ofNat', Nat.mod_eq_of_lt h]
  push_cast
  rfl
theorem conv1 (j : Nat) (w : World) : Sem.run Tryd.prog (convert 63 9 (.slice (some ⟨w.heap.size, 0, none⟩) 1 1)) (w.alloc (.cells #[.int .u8 (48 + (j : Int) % 10)] 5)) = .ok (.string ⟨[dg j].toArray⟩) (w.alloc (.cells #[.int .u8 (48 + (j : Int) % 10)] 5)) := by
  refine run_convert_bytes_back (P := Tryd.prog) _ 63 9 5 ⟨w.heap.size, 0, none⟩ 1 [dg j] Tryd.underlying63 Tryd.underlying5 Tryd.underlying9 ?_
  intro i hi
  obtain rfl : i = 0 := by simpa using hi
  simp [Addr.add, dg_nat]
theorem app_one (c : UInt8) (l : List UInt8) : Value.string (ByteArray.mk [c].toArray ++ ByteArray.mk l.toArray) = .string ⟨(c :: l).toArray⟩ := by
  apply congrArg Value.string; apply ByteArray.ext; simp
set_option maxRecDepth 100000 in
set_option maxHeartbeats 2000000 in
theorem markText (k : Nat) (w : World) (h0 : 0 < k) (hk : k ≤ 8796093022208) : Calls Tryd.prog 46 #[.int .i64 k] w fun e w' => (∃ s, e = .returned (.string s)) ∧ Below w.heap.size w w' := by
  have q0 : (0 : Int) < (k : Int) := by omega
  have q00 : k ≠ 0 := by omega
  go_enter Tryd.func46, Tryd.ntmps46
  go_wp2
  go_loopw [0, 3] (fun i o wr => ∃ (j : Nat) (l : List UInt8), i = .int .i64 j ∧ o = .string ⟨l.toArray⟩ ∧ l.length + j ≤ k ∧ Below w.heap.size w wr) (fun i _ _ => (intOf i).toNat)
  case atStart => exact ⟨k, [], rfl, rfl, by simp, Below.refl _ _⟩
  case round =>
    obtain ⟨j, l, rfl, rfl, hl, hbel⟩ := hrel
    by_cases hj : 0 < j
    · have q1 : (0 : Int) < (j : Int) := by omega
      go_wp2
      rw [conv1]
      simp only [Result.andThen]
      rw [Oper.upon_value]
      go_wp2
      exact ⟨⟨j / 10, dg j :: l, by simp, app_one _ _, by simp only [List.length_cons]; omega, hbel.alloc hbel.size _⟩, by simp [intOf]; omega⟩
    · have q1 : ¬ (0 : Int) < (j : Int) := by omega
      go_wp2
      go_ret
      exact ⟨⟨_, rfl⟩, hbel⟩
theorem markText' (k : Int) (w : World) (h0 : 0 < k) (hk : k ≤ 8796093022208) : Calls Tryd.prog 46 #[.int .i64 k] w fun e w' => (∃ s, e = .returned (.string s)) ∧ Below w.heap.size w w' := by
  have h := markText k.toNat w (by omega) (by omega)
  rw [show ((k.toNat : Nat) : Int) = k by omega] at h
  exact h
/-- Nothing has turned but blocks between the two. -/
structure Amid (w w' : World) (B C : Nat) : Prop where
  os : w'.os = w.os
  tape : w'.tape = w.tape
  output : w'.output = w.output
  size : w.heap.size ≤ w'.heap.size
  block : ∀ b, b < w.heap.size → b < B ∨ C ≤ b → w'.heap[b]? = w.heap[b]?
theorem Amid.refl (w : World) (B C : Nat) : Amid w w B C := ⟨rfl, rfl, rfl, Nat.le_refl _, fun _ _ _ => rfl⟩
theorem Amid.trans {w w1 w2 : World} {B C : Nat} (h : Amid w w1 B C) (h2 : Amid w1 w2 B C) : Amid w w2 B C :=
  ⟨h2.os.trans h.os, h2.tape.trans h.tape, h2.output.trans h.output, Nat.le_trans h.size h2.size, fun b hb ho => (h2.block b (Nat.lt_of_lt_of_le hb h.size) ho).trans (h.block b hb ho)⟩
theorem Amid.of_below {w w' : World} {B C : Nat} (h : Below w.heap.size w w') : Amid w w' B C := ⟨h.os, h.tape, h.output, h.size, fun b hb _ => h.block b hb⟩
theorem Amid.set (w : World) {B C g : Nat} (c : Nat) (u : Value) (h1 : B ≤ g) (h2 : g < C) : Amid w (w.setCell ⟨g, c, none⟩ u) B C :=
  ⟨rfl, rfl, rfl, by simp [World.setCell], fun b hb ho => Below.heap_setCell _ _ _ _ (by dsimp only; omega)⟩
theorem Amid.mono {w w' : World} {B B' C C' : Nat} (h : Amid w w' B C) (h1 : B' ≤ B) (h2 : C ≤ C') : Amid w w' B' C' := ⟨h.os, h.tape, h.output, h.size, fun b hb ho => h.block b hb (by omega)⟩
theorem row_size {w : World} {g : Nat} {t t' : TypeId} {n n' : Nat} {f f' : Nat → Value} (h : w.rowIs g t n f) (h' : w.rowIs g t' n' f') : n = n' := by
  rcases Nat.lt_trichotomy n n' with e | e | e
  · have h1 := h'.cell e
    have h2 : w.cell? ⟨g, n, none⟩ = none := by
      obtain ⟨c, h3, h4, _⟩ := h
      simp [World.cell?, h3, h4]
    rw [h2] at h1
    cases h1
  · exact e
  · have h1 := h.cell e
    have h2 : w.cell? ⟨g, n', none⟩ = none := by
      obtain ⟨c, h3, h4, _⟩ := h'
      simp [World.cell?, h3, h4]
    rw [h2] at h1
    cases h1
set_option maxRecDepth 100000 in
set_option maxHeartbeats 2000000 in
theorem markAttrS (g : Nat) (m : Nat) (f : Nat → Value) (k : Int) (w : World) (hm : m ≤ 1048576) (h0 : 0 < k) (hk : k ≤ 4398046511104) (hr : w.rowIs g 95 (m * 2) f) :
    Calls Tryd.prog 47 #[.slice (some ⟨g, 0, none⟩) m m, .int .i64 k] w fun e w' => (∃ r : Int, e = .returned (.int .i64 r) ∧ k ≤ r ∧ r ≤ k + 2 * (m : Int)) ∧ (∃ f', w'.rowIs g 95 (m * 2) f') ∧ Amid w w' g (g + 1) := by
  have HR := hid hr
  clear hr
  go_enter Tryd.func47, Tryd.ntmps47
  go_wp2
  go_loopw [1, 5] (fun q i wr => ∃ (j : Nat) (f' : Nat → Value), i = .int .i64 j ∧ q = .int .i64 (k + 2 * (j : Int)) ∧ j ≤ m ∧ Hid (wr.rowIs g 95 (m * 2) f') ∧ Amid w wr g (g + 1)) (fun _ i _ => m - (intOf i).toNat)
  case atStart => exact ⟨0, f, rfl, by simp, Nat.zero_le _, HR, Amid.refl _ _ _⟩
  case round =>
    obtain ⟨j, f', rfl, rfl, hj, HW, ham⟩ := hrel
    by_cases hlt : j < m
    · have q1 : (j : Int) < (m : Int) := by omega
      go_wp2_with fail
      refine (markText' _ _ (by omega) (by omega)).mono ?_
      rintro e w1 ⟨⟨s1, rfl⟩, hb1⟩
      have hr1 : w1.rowIs g 95 (m * 2) f' := HW.out.of_block (hb1.block _ HW.out.lt)
      have c0 := hr1.cell (i := j * 2) (by omega)
      have z0 := hr1.frozen (j * 2)
      have HR2 := hid (hr1.set (j * 2) (.string s1))
      clear hr1
      go_wp2_with fail
      refine (markText' _ _ (by omega) (by omega)).mono ?_
      rintro e w2 ⟨⟨s2, rfl⟩, hb2⟩
      have hr2 : w2.rowIs g 95 (m * 2) (fun i => if i = j * 2 then .string s1 else f' i) := HR2.out.of_block (hb2.block _ HR2.out.lt)
      have c1 := hr2.cell (i := j * 2 + 1) (by omega)
      have z1 := hr2.frozen (j * 2 + 1)
      have HR3 := hid (hr2.set (j * 2 + 1) (.string s2))
      have hA : Amid w (w2.setCell ⟨g, j * 2 + 1, none⟩ (.string s2)) g (g + 1) := (((ham.trans (Amid.of_below hb1)).trans (Amid.set w1 (j * 2) (.string s1) (Nat.le_refl _) (Nat.lt_succ_self _))).trans (Amid.of_below hb2)).trans (Amid.set w2 (j * 2 + 1) (.string s2) (Nat.le_refl _) (Nat.lt_succ_self _))
      clear hr2
      go_wp2
      exact ⟨⟨j + 1, _, by simp, by simp; omega, by omega, HR3, hA⟩, by simp [intOf]; omega⟩
    · obtain rfl : j = m := by omega
      go_wp2
      go_ret
      exact ⟨⟨_, rfl, by omega, by omega⟩, ⟨f', HW.out⟩, ham⟩
set_option maxRecDepth 100000 in
set_option maxHeartbeats 4000000 in
theorem markElemS (B C : Nat) (v : Value) (n : Nat) (m : Nat → Nat) (w : World) (hn : n ≤ 1048576) (hm : ∀ j, j < n → m j ≤ 1048576) (h : ElemsOwn w B C v n m) :
    Calls Tryd.prog 21 #[v, .int .i64 1] w fun e w' => (∃ r : Int, e = .returned (.int .i64 r) ∧ 1 ≤ r) ∧ Amid w w' B C := by
  obtain ⟨g, f, rfl, hB, hC, hr, ho⟩ := h
  have HR := hid hr
  have HO := hid ho
  have HM := hid hm
  clear hr ho hm
  go_enter Tryd.func21, Tryd.ntmps21
  go_wp2
  go_loopw [1, 5] (fun q i wr => ∃ (j : Nat) (k : Int) (f' : Nat → Value), i = .int .i64 j ∧ q = .int .i64 k ∧ 1 ≤ k ∧ k ≤ 1 + 2097154 * (j : Int) ∧ j ≤ n ∧ Hid (wr.rowIs g 56 (n * 3) f') ∧ Hid (∀ i, i < n → AttrsOwn wr (g + 1) C (f' (i * 3 + 2)) (m i)) ∧ Amid w wr B C) (fun _ i _ => n - (intOf i).toNat)
  case atStart => exact ⟨0, 1, f, rfl, rfl, by omega, by omega, Nat.zero_le _, HR, HO, Amid.refl _ _ _⟩
  case round =>
    obtain ⟨j, k, f', rfl, rfl, hk1, hk2, hj, HW, HV, ham⟩ := hrel
    by_cases hlt : j < n
    · have q1 : (j : Int) < (n : Int) := by omega
      have hmj := HM.out j hlt
      go_wp2_with fail
      refine (markText' _ _ (by omega) (by omega)).mono ?_
      rintro e w1 ⟨⟨s1, rfl⟩, hb1⟩
      have hr1 : w1.rowIs g 56 (n * 3) f' := HW.out.of_block (hb1.block _ HW.out.lt)
      have c0 := hr1.cell (i := j * 3) (by omega)
      have c1 := hr1.cell (i := j * 3 + 1) (by omega)
      have c2 := hr1.cell (i := j * 3 + 2) (by omega)
      have z0 := hr1.frozen (j * 3)
      have z1 := hr1.frozen (j * 3 + 1)
      have hgl := hr1.lt
      have hvj := (HV.out j hlt).below hb1
      obtain ⟨ga, fa, hva, hga1, hga2, hra⟩ := hvj
      rw [hva] at c2
      have HR3 := hid ((hr1.set (j * 3) (.string s1)).set (j * 3 + 1) (.int .i64 (k + 1)))
      have HV3 : Hid (∀ i, i < n → AttrsOwn ((w1.setCell ⟨g, j * 3, none⟩ (.string s1)).setCell ⟨g, j * 3 + 1, none⟩ (.int .i64 (k + 1))) (g + 1) C (f' (i * 3 + 2)) (m i)) := hid (fun i hi => (((HV.out i hi).below hb1).setBelow (by omega) _).setBelow (by omega) _)
      have HVJ : Hid (((w1.setCell ⟨g, j * 3, none⟩ (.string s1)).setCell ⟨g, j * 3 + 1, none⟩ (.int .i64 (k + 1))).rowIs ga 95 (m j * 2) fa) := hid ((hra.setOther (by dsimp only; omega) _).setOther (by dsimp only; omega) _)
      have hA3 : Amid w ((w1.setCell ⟨g, j * 3, none⟩ (.string s1)).setCell ⟨g, j * 3 + 1, none⟩ (.int .i64 (k + 1))) B C := ((ham.trans (Amid.of_below hb1)).trans (Amid.set w1 (j * 3) (.string s1) hB hC)).trans (Amid.set _ (j * 3 + 1) (.int .i64 (k + 1)) hB hC)
      clear hr1 hva hra
      go_wp2_with fail
      refine (markAttrS ga (m j) fa (k + 1 + 1) _ hmj (by omega) (by omega) HVJ.out).mono ?_
      rintro e w4 ⟨⟨r, rfl, hr1, hr2⟩, ⟨fb, hrb⟩, hA4⟩
      have HR4 : Hid (w4.rowIs g 56 (n * 3) (fun i => if i = j * 3 + 1 then .int .i64 (k + 1) else if i = j * 3 then .string s1 else f' i)) := hid (HR3.out.of_block (hA4.block g HR3.out.lt (.inl (by omega))))
      have HV4 : Hid (∀ i, i < n → AttrsOwn w4 (g + 1) C ((fun i => if i = j * 3 + 1 then Value.int .i64 (k + 1) else if i = j * 3 then .string s1 else f' i) (i * 3 + 2)) (m i)) := hid (fun i hi => by
        have e1 : ¬ i * 3 + 2 = j * 3 + 1 := by omega
        have e2 : ¬ i * 3 + 2 = j * 3 := by omega
        simp only [e1, e2, if_false]
        obtain ⟨gi, fi, hvi, hi1, hi2, hri⟩ := HV3.out i hi
        by_cases e3 : gi = ga
        · subst e3
          have hs := row_size hri HVJ.out
          exact ⟨gi, fb, hvi, hi1, hi2, by rw [hs]; exact hrb⟩
        · exact ⟨gi, fi, hvi, hi1, hi2, hri.of_block (hA4.block gi hri.lt (by omega))⟩)
      have hA5 : Amid w w4 B C := hA3.trans (hA4.mono (by omega) (by omega))
      clear hrb hA4
      go_wp2
      exact ⟨⟨j + 1, r, _, by simp, rfl, by omega, by push_cast; omega, by omega, HR4, HV4, hA5⟩, by simp [intOf]; omega⟩
    · obtain rfl : j = n := by omega
      go_wp2
      go_ret
      exact ⟨⟨_, rfl, hk1⟩, ham⟩
end Tr
end Go.Proofs.YtlnmegfcecpfmahDoor
