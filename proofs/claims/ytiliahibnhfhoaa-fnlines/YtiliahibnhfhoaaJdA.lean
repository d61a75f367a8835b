/- Draws of chapter 13: numbers of a greater range, a line. No condition. -/
import Derived.Test.YtiliahibnhfhoaaDrA
import Derived.Test.YtiliahibnhfhoaaJnU
namespace Go.Proofs.Ytiliahibnhfhoaa
open Go.RowKit
set_option linter.unusedVariables false
namespace Jn

set_option maxRecDepth 100000 in
set_option maxHeartbeats 4000000 in
theorem nextB (B S len cap pos n : Nat) (a : Option Addr) (w : World) (hs : Drw.Src w S a len cap pos) (hc : Drw.CodeAt B w a len) (hB : B ≤ S) (hl : len ≤ 2000000) (hp : pos ≤ 1000000) (hn : 1 ≤ n) (hn2 : n ≤ 100000) :
    Calls Try.prog 76 #[.pointer (some ⟨S, 0, none⟩), .int .i64 n] w fun e w' => ∃ r : Nat, r < n ∧ e = .returned (.int .i64 r) ∧ Drw.Src w' S a len cap (pos + 1) ∧ w.grownBy w' (some S) := by
  by_cases hsm : n ≤ 200
  · exact Drw.next B S len cap pos n a w hs hc hB hl hp hn hsm
  have HS : Hid (Drw.Src w S a len cap pos) := hid hs
  have c0 := hs.c0
  have c1 := hs.c1
  have f1 := hs.f1
  have HS2 : Hid (Drw.Src (w.setCell ⟨S, 1, none⟩ (.int .i64 ((pos : Int) + 1))) S a len cap (pos + 1)) := hid (hs.set (pos + 1) _ (by simp))
  clear hs
  have q1 : (1 : Int) ≤ (n : Int) := by omega
  have q2 : (200 : Int) < (n : Int) := by omega
  by_cases h0 : len = 0
  · subst h0
    clear hc
    go_enter Try.func76, Try.ntmps76
    go_wp2
    go_ret
    exact ⟨pos * 7 % n, Nat.mod_lt _ (by omega), by simp, HS2.out, Drw.grown_set _ _ _ _⟩
  · obtain ⟨b, off, rfl, hb, hcell⟩ : ∃ b off, a = some ⟨b, off, none⟩ ∧ b < B ∧ ∀ i, i < len → ∃ z : Nat, z ≤ 255 ∧ w.cell? ⟨b, off + i, none⟩ = some (.int .u8 z) := by
      rcases hc with h | h
      · exact absurd h h0
      · exact h
    obtain ⟨z, hz, hcz⟩ := hcell (pos % len) (Nat.mod_lt _ (by omega))
    obtain ⟨y, hy, hcy⟩ := hcell ((pos + 1) % len) (Nat.mod_lt _ (by omega))
    have hneb : b ≠ S := by omega
    have hcz2 : (w.setCell ⟨S, 1, none⟩ (.int .i64 ((pos : Int) + 1))).cell? ⟨b, off + pos % len, none⟩ = some (.int .u8 z) := (World.cell?_of_block (a := ⟨b, off + pos % len, none⟩) (Below.heap_setCell w ⟨S, 1, none⟩ _ b hneb)).trans hcz
    have hcy2 : (w.setCell ⟨S, 1, none⟩ (.int .i64 ((pos : Int) + 1))).cell? ⟨b, off + (pos + 1) % len, none⟩ = some (.int .u8 y) := (World.cell?_of_block (a := ⟨b, off + (pos + 1) % len, none⟩) (Below.heap_setCell w ⟨S, 1, none⟩ _ b hneb)).trans hcy
    have hd : pos / len ≤ 1000000 := Nat.le_trans (Nat.div_le_self _ _) hp
    clear hc hcell hcz hcy
    have b0 : ((len : Int) == 0) = false := beq_eq_false_iff_ne.2 (by omega)
    have b1 : (0 : Int) < (len : Int) := by omega
    have b2 : (0 : Int) ≤ (pos : Int) % (len : Int) := Int.emod_nonneg _ (by omega)
    have b3 : (pos : Int) % (len : Int) < (len : Int) := Int.emod_lt_of_pos _ b1
    have b4 : (0 : Int) ≤ (pos : Int) / (len : Int) := Int.ediv_nonneg (by omega) (by omega)
    have b5 : (pos : Int) / (len : Int) ≤ 1000000 := by rw [← Int.natCast_ediv]; omega
    have b6 : (z : Int) ≤ 255 := by omega
    have b7 : (y : Int) ≤ 255 := by omega
    have b8 : (0 : Int) ≤ ((pos : Int) + 1) % (len : Int) := Int.emod_nonneg _ (by omega)
    have b9 : ((pos : Int) + 1) % (len : Int) < (len : Int) := Int.emod_lt_of_pos _ b1
    have HG : Hid (w.grownBy (w.setCell ⟨S, 1, none⟩ (.int .i64 ((pos : Int) + 1))) (some S)) := hid (Drw.grown_set _ _ _ _)
    have c0s := HS2.out.c0
    have e9 : (((pos + 1) % len : Nat) : Int) = ((pos : Int) + 1) % (len : Int) := by rw [Int.natCast_emod]; rfl
    go_enter Try.func76, Try.ntmps76
    go_wp2
    generalize w.setCell ⟨S, 1, none⟩ (.int .i64 ((pos : Int) + 1)) = W at *
    go_quiet (fail)
    have HG1 := hid (Drw.grown_drewN HG.out nq)
    have HS3 : Hid (Drw.Src (W.drewN nq) S (some ⟨b, off, none⟩) len cap (pos + 1)) := hid HS2.out
    have k0 : (W.drewN nq).cell? ⟨b, off + (pos + 1) % len, none⟩ = some (.int .u8 (y : Int)) := hcy2
    have k1 : (W.drewN nq).cell? ⟨S, 0, none⟩ = some (.slice (some ⟨b, off, none⟩) len cap) := HS3.out.c0
    clear HG HS2 hcz2 hcy2 c0s
    generalize W.drewN nq = V at *
    go_wp2
    go_quiet (fail)
    go_wp2
    go_ret
    refine ⟨((z + pos / len * 37) * 251 + y * 13 + pos) % n, Nat.mod_lt _ (by omega), ?_, HS3.out, Drw.grown_drewN HG1.out nq⟩
    simp
end Jn
end Go.Proofs.Ytiliahibnhfhoaa
