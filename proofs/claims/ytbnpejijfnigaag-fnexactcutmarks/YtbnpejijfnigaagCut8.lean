/- The law on CutMarks, where strings.IndexAny answers as it should. -/
import Derived.Test.YtbnpejijfnigaagCut6
import Derived.Test.YtbnpejijfnigaagCut7
namespace Go.Proofs.Ytbnpejijfnigaag
open Go.Shelf Go.RowKit
set_option linter.unusedVariables false
namespace Cut
theorem ctexts_len {s : ByteArray} (hs : s.size ≤ 1048576) : (ctexts s.data.toList).length ≤ 1048576 := by
  unfold ctexts texts told
  split
  · rw [List.length_map]
    have : ∀ (f : Nat) (l : List UInt8), (seqF f l).length ≤ f := by
      intro f
      induction f with
      | zero => intro l; simp [seqF]
      | succ f ih =>
        intro l
        cases l with
        | nil => simp [seqF]
        | cons c r =>
          unfold seqF
          split
          · simp
          · simp only [List.length_cons]; exact Nat.succ_le_succ (ih _)
    have h := this s.data.toList.length s.data.toList
    rw [len_size] at *
    omega
  · simp
theorem row_block {w : World} {base n : Nat} {v : Value} {xs : List Value} (h : w.ownsRow base 9 1 v n xs) : ∀ k, v.ownBlock = some k → base ≤ k ∧ k < w.heap.size := h.lt
theorem cell_grown {w w' : World} {row : Option Nat} (h : w.grownBy w' row) {b o : Nat} {u : Value} (hc : w.cell? ⟨b, o, none⟩ = some u) (hlt : b < w.heap.size) (hne : some b ≠ row) : w'.cell? ⟨b, o, none⟩ = some u :=
  (World.cell?_of_block (a := ⟨b, o, none⟩) (h.block b hlt hne)).trans hc
set_option maxHeartbeats 4000000 in
theorem walk (s : ByteArray) (w : World) (hs : s.size ≤ maxLen) (hia : s.size ≤ 1500 → ∀ k, IAok (rb s.data.toList k)) :
    Calls Try.prog 3 #[.string s] w fun e w' => e = .returned (.bool true) ∧ Below w.heap.size w w' := by
  have hm := hs
  unfold maxLen at hs
  have HIA : Hid (s.size ≤ 1500 → ∀ k, IAok (rb s.data.toList k)) := hia
  clear hia
  by_cases hbig : s.size ≤ 1048576
  · have hlen := ctexts_len hbig
    have HSP : Hid (∀ w, Calls Try.prog 5 #[.string s] w fun e w' => CutPost s w e w') := fun w => specCut s w hm
    have HIP : Hid (∀ w, Calls Try.prog 6 #[.string s] w fun e w' => CutPost s w e w') := fun w => implCut s w hm HIA.out
    unfold CutPost at HSP HIP
    generalize ctexts s.data.toList = ts at *
    generalize ccode s.data.toList = c at *
    go_enter Try.func3, Try.ntmps3
    go_wp2_with fail
    refine (HSP.out _).mono ?_
    rintro e w1 ⟨v0, rfl, ho0, hb1⟩
    have H0 : Hid (RowAt w1 v0 ts) := RowAt.of ho0
    obtain ⟨a0, k0, rfl⟩ := owns_slice ho0
    clear ho0
    have hz1 := hb1.size
    go_wp2_with fail
    refine (HIP.out _).mono ?_
    rintro e w2 ⟨v1, rfl, ho1, hb2⟩
    rw [World.size_alloc] at ho1 hb2
    have HO1 : Hid (w2.ownsRow (w1.heap.size + 1) 9 1 v1 ts.length (ts.map strv)) := ho1
    obtain ⟨a1, k1, rfl⟩ := owns_slice ho1
    clear ho1
    have hz2 : w1.heap.size + 1 ≤ w2.heap.size := by have := hb2.size; simpa using this
    have hB2 : Below w1.heap.size w1 w2 := ((Below.refl _ w1).alloc (Nat.le_refl _) _).trans (hb2.mono (Nat.le_succ _))
    have c20 : w2.cell? ⟨w1.heap.size, 0, none⟩ = some (.int .i64 c) := by rw [hb2.cell (p := ⟨w1.heap.size, 0, none⟩) (by simp)]; simp
    have c21 : w2.cell? ⟨w1.heap.size, 1, none⟩ = some (.slice a0 ts.length k0) := by rw [hb2.cell (p := ⟨w1.heap.size, 1, none⟩) (by simp)]; simp
    have hlt12 : w1.heap.size < w2.heap.size := by omega
    go_wp2_with fail
    have hA2 : Below w2.heap.size w2 (w2.alloc (.cells #[.int .i64 c, .slice a1 ts.length k1] 24)) := (Below.refl _ w2).alloc (Nat.le_refl _) _
    refine (eqT c _ _ ts _ hlen ((RowAt.of HO1.out).below hA2) (H0.out.below (hB2.trans (hA2.mono (by omega))))).mono ?_
    rintro e w3 ⟨rfl, hb3⟩
    rw [World.size_alloc] at hb3
    have hz3 : w2.heap.size + 1 ≤ w3.heap.size := by have := hb3.size; simpa using this
    have hB23 : Below w2.heap.size w2 w3 := hA2.trans (hb3.mono (Nat.le_succ _))
    have c30 : w3.cell? ⟨w2.heap.size, 0, none⟩ = some (.int .i64 c) := by rw [hb3.cell (p := ⟨w2.heap.size, 0, none⟩) (by simp)]; simp
    have c31 : w3.cell? ⟨w2.heap.size, 1, none⟩ = some (.slice a1 ts.length k1) := by rw [hb3.cell (p := ⟨w2.heap.size, 1, none⟩) (by simp)]; simp
    have d30 : w3.cell? ⟨w1.heap.size, 0, none⟩ = some (.int .i64 c) := (hB23.cell (p := ⟨w1.heap.size, 0, none⟩) hlt12).trans c20
    have d31 : w3.cell? ⟨w1.heap.size, 1, none⟩ = some (.slice a0 ts.length k0) := (hB23.cell (p := ⟨w1.heap.size, 1, none⟩) hlt12).trans c21
    have HO3 : Hid (w3.ownsRow (w1.heap.size + 1) 9 1 (.slice a1 ts.length k1) ts.length (ts.map strv)) := owns_below' HO1.out hB23
    have hrb : ∀ k, (Value.slice a1 ts.length k1).ownBlock = some k → w1.heap.size + 1 ≤ k ∧ k < w2.heap.size := row_block HO1.out
    go_wp2_with fail
    refine (markR c (w1.heap.size + 1) _ ts _ hlen (by omega) HO3.out).mono ?_
    rintro e w4 ⟨rfl, ho4, hg4⟩
    have hz4 := hg4.size
    have H4 : Hid (RowAt w4 (.slice a1 ts.length k1) (marksTo ts.length)) := RowAt.of (by rw [marksTo_len]; exact ho4)
    clear ho4
    have c40 : w4.cell? ⟨w2.heap.size, 0, none⟩ = some (.int .i64 c) := cell_grown hg4 c30 (by omega) (fun e => by have := hrb _ e.symm; omega)
    have c41 : w4.cell? ⟨w2.heap.size, 1, none⟩ = some (.slice a1 ts.length k1) := cell_grown hg4 c31 (by omega) (fun e => by have := hrb _ e.symm; omega)
    have d40 : w4.cell? ⟨w1.heap.size, 0, none⟩ = some (.int .i64 c) := cell_grown hg4 d30 (by omega) (fun e => by have := hrb _ e.symm; omega)
    have d41 : w4.cell? ⟨w1.heap.size, 1, none⟩ = some (.slice a0 ts.length k0) := cell_grown hg4 d31 (by omega) (fun e => by have := hrb _ e.symm; omega)
    have hB4 : Below w1.heap.size w1 w4 := (hB2.trans (hB23.mono (by omega))).grown hg4 (by omega) (fun k e => by have := hrb k e; omega)
    clear hg4 c30 c31 d30 d31 c20 c21
    go_wp2_with fail
    refine (heldR c _ ts.length _ hlen H4.out).mono ?_
    rintro e w5 ⟨rfl, hb5⟩
    have hz5 := hb5.size
    have c50 : w5.cell? ⟨w2.heap.size, 0, none⟩ = some (.int .i64 c) := (hb5.cell (p := ⟨w2.heap.size, 0, none⟩) (by simp; omega)).trans c40
    have c51 : w5.cell? ⟨w2.heap.size, 1, none⟩ = some (.slice a1 ts.length k1) := (hb5.cell (p := ⟨w2.heap.size, 1, none⟩) (by simp; omega)).trans c41
    have d50 : w5.cell? ⟨w1.heap.size, 0, none⟩ = some (.int .i64 c) := (hb5.cell (p := ⟨w1.heap.size, 0, none⟩) (by simp; omega)).trans d40
    have d51 : w5.cell? ⟨w1.heap.size, 1, none⟩ = some (.slice a0 ts.length k0) := (hb5.cell (p := ⟨w1.heap.size, 1, none⟩) (by simp; omega)).trans d41
    clear c40 c41 d40 d41
    have q0 : ¬ (1 + (ts.length : Int)) < 0 := by omega
    have q1 : ((1 + (ts.length : Int)) != (1 + (ts.length : Int))) = false := by simp
    go_wp2_with fail
    refine (HIP.out _).mono ?_
    rintro e w6 ⟨v2, rfl, ho6, hb6⟩
    have H6 : Hid (RowAt w6 v2 ts) := RowAt.of ho6
    obtain ⟨a2, k2, rfl⟩ := owns_slice ho6
    clear ho6
    have hz6 := hb6.size
    have c60 : w6.cell? ⟨w2.heap.size, 0, none⟩ = some (.int .i64 c) := (hb6.cell (p := ⟨w2.heap.size, 0, none⟩) (by simp; omega)).trans c50
    have c61 : w6.cell? ⟨w2.heap.size, 1, none⟩ = some (.slice a1 ts.length k1) := (hb6.cell (p := ⟨w2.heap.size, 1, none⟩) (by simp; omega)).trans c51
    have d60 : w6.cell? ⟨w1.heap.size, 0, none⟩ = some (.int .i64 c) := (hb6.cell (p := ⟨w1.heap.size, 0, none⟩) (by simp; omega)).trans d50
    have d61 : w6.cell? ⟨w1.heap.size, 1, none⟩ = some (.slice a0 ts.length k0) := (hb6.cell (p := ⟨w1.heap.size, 1, none⟩) (by simp; omega)).trans d51
    clear c50 c51 d50 d51
    have g16 : w1.heap.size < w6.heap.size := by omega
    have g26 : w2.heap.size < w6.heap.size := by omega
    have hB6 : Below w1.heap.size w1 w6 := hB4.trans ((hb5.mono (by omega)).trans (hb6.mono (by omega)))
    have hB46 : Below w4.heap.size w4 w6 := hb5.trans (hb6.mono (by omega))
    go_wp2_with fail
    have hA6 : Below w6.heap.size w6 (w6.alloc (.cells #[.int .i64 c, .slice a2 ts.length k2] 24)) := (Below.refl _ w6).alloc (Nat.le_refl _) _
    refine (eqT c _ _ ts _ hlen (H6.out.below hA6) (H0.out.below (hB6.trans (hA6.mono (by omega))))).mono ?_
    rintro e w7 ⟨rfl, hb7⟩
    rw [World.size_alloc] at hb7
    have hz7 : w6.heap.size + 1 ≤ w7.heap.size := by have := hb7.size; simpa using this
    have hB67 : Below w6.heap.size w6 w7 := hA6.trans (hb7.mono (Nat.le_succ _))
    have c70 : w7.cell? ⟨w2.heap.size, 0, none⟩ = some (.int .i64 c) := (hB67.cell (p := ⟨w2.heap.size, 0, none⟩) g26).trans c60
    have c71 : w7.cell? ⟨w2.heap.size, 1, none⟩ = some (.slice a1 ts.length k1) := (hB67.cell (p := ⟨w2.heap.size, 1, none⟩) g26).trans c61
    clear c60 c61 d60 d61
    go_wp2_with fail
    refine (heldR c _ ts.length _ hlen (H4.out.below (hB46.trans (hB67.mono (by omega))))).mono ?_
    rintro e w8 ⟨rfl, hb8⟩
    go_wp2
    go_ret
    exact ⟨rfl, hb1.trans ((hB6.mono hz1).trans ((hB67.mono (by omega)).trans (hb8.mono (by omega))))⟩
  · go_enter Try.func3, Try.ntmps3
    go_wp2
    go_ret
    exact ⟨rfl, Below.refl _ _⟩
end Cut
end Go.Proofs.Ytbnpejijfnigaag
