/- Marks written into lists of nodes, and whether they still hold them: the law's own helpers. -/
import Derived.Test.YtalplnbkijmahaiDoorNd
import Derived.Test.YtalplnbkijmahaiDoorIntsX
namespace Go.Proofs.YtalplnbkijmahaiDoor
open Go.RowKit
set_option linter.unusedVariables false
namespace NdM
open Ex (hid)
open Nd (NodeD)
def marked (f : Nat → Value) (n : Nat) : Prop := ∀ j, j < n * 4 → f j = .int .i64 (1 + (j : Int))
theorem marked_step {w : World} {g m k : Nat} {t : TypeId} {f : Nat → Value} (h : w.rowIs g t m f) (hm : marked f k) :
    ∃ f', ((((w.setCell ⟨g, k * 4, none⟩ (.int .i64 (1 + 4 * (k : Int)))).setCell ⟨g, k * 4 + 1, none⟩ (.int .i64 (1 + 4 * (k : Int) + 1))).setCell ⟨g, k * 4 + 2, none⟩ (.int .i64 (1 + 4 * (k : Int) + 1 + 1))).setCell ⟨g, k * 4 + 3, none⟩ (.int .i64 (1 + 4 * (k : Int) + 1 + 1 + 1))).rowIs g t m f' ∧ marked f' (k + 1) := by
  refine ⟨_, ((((h.set (k * 4) _).set (k * 4 + 1) _).set (k * 4 + 2) _).set (k * 4 + 3) _), fun j hj => ?_⟩
  by_cases e3 : j = k * 4 + 3
  · rw [if_pos e3, e3]; congr 1; omega
  · rw [if_neg e3]
    by_cases e2 : j = k * 4 + 2
    · rw [if_pos e2, e2]; congr 1; omega
    · rw [if_neg e2]
      by_cases e1 : j = k * 4 + 1
      · rw [if_pos e1, e1]; congr 1; omega
      · rw [if_neg e1]
        by_cases e0 : j = k * 4
        · rw [if_pos e0, e0]; congr 1; omega
        · rw [if_neg e0]; exact hm j (by omega)
set_option maxRecDepth 100000 in
set_option maxHeartbeats 2000000 in
theorem markRow (g n m cap : Nat) (f : Nat → Value) (w : World) (hn : n ≤ 1048576) (hm : n * 4 ≤ m) (h : w.rowIs g 41 m f) :
    Calls Tryd.prog 24 #[.slice (some ⟨g, 0, none⟩) n cap, .int .i64 1] w fun e w' => e = .returned (.int .i64 (1 + 4 * (n : Int))) ∧ (∃ f', w'.rowIs g 41 m f' ∧ marked f' n) ∧ w.grownBy w' (some g) := by
  have HO := hid h
  clear h
  go_enter Tryd.func24, Tryd.ntmps24
  go_wp2
  go_loopw [1, 5] (fun q i wr => ∃ (k : Nat) (f' : Nat → Value), i = .int .i64 k ∧ q = .int .i64 (1 + 4 * (k : Int)) ∧ k ≤ n ∧ Hid (wr.rowIs g 41 m f') ∧ Hid (marked f' k) ∧ Hid (w.grownBy wr (some g))) (fun _ i _ => n - (intOf i).toNat)
  case atStart => exact ⟨0, f, rfl, rfl, Nat.zero_le _, HO, hid (fun j hj => by omega), hid (Ints.grown_refl _ _)⟩
  case round =>
    obtain ⟨k, f', rfl, rfl, hk, HR, HF, HG⟩ := hrel
    by_cases hlt : k < n
    · have q1 : (k : Int) < (n : Int) := by omega
      have d0 := HR.out.cell (i := k * 4) (by omega)
      have d1 := HR.out.cell (i := k * 4 + 1) (by omega)
      have d2 := HR.out.cell (i := k * 4 + 2) (by omega)
      have d3 := HR.out.cell (i := k * 4 + 3) (by omega)
      have f0 := HR.out.frozen (k * 4)
      have f1 := HR.out.frozen (k * 4 + 1)
      have f2 := HR.out.frozen (k * 4 + 2)
      have f3 := HR.out.frozen (k * 4 + 3)
      obtain ⟨f2', hR2, hF2⟩ := marked_step HR.out HF.out
      have HR2 := hid hR2
      have HF2 := hid hF2
      have HG2 := hid (Ints.grown_set (Ints.grown_set (Ints.grown_set (Ints.grown_set HG.out (k * 4) (.int .i64 (1 + 4 * (k : Int)))) (k * 4 + 1) (.int .i64 (1 + 4 * (k : Int) + 1))) (k * 4 + 2) (.int .i64 (1 + 4 * (k : Int) + 1 + 1))) (k * 4 + 3) (.int .i64 (1 + 4 * (k : Int) + 1 + 1 + 1)))
      clear hR2 hF2
      go_wp2
      exact ⟨⟨k + 1, f2', by simp, by simp; omega, by omega, HR2, HF2, HG2⟩, by simp [intOf]; omega⟩
    · obtain rfl : k = n := by omega
      go_wp2
      go_ret
      exact ⟨rfl, ⟨f', HR.out, HF.out⟩, HG.out⟩
set_option maxRecDepth 100000 in
set_option maxHeartbeats 1000000 in
theorem markNil (cap : Nat) (w : World) : Calls Tryd.prog 24 #[.slice none 0 cap, .int .i64 1] w fun e w' => e = .returned (.int .i64 1) ∧ w' = w := by
  go_enter Tryd.func24, Tryd.ntmps24
  go_wp2
  go_loop [1, 5] (fun q i => i = .int .i64 0 ∧ q = .int .i64 1) (fun _ i => 0)
  case atStart => exact ⟨rfl, rfl⟩
  case round =>
    obtain ⟨rfl, rfl⟩ := hrel
    go_wp2
    go_ret
    exact ⟨rfl, rfl⟩
end NdM
end Go.Proofs.YtalplnbkijmahaiDoor
