/- What the specification's draws answer: numbers within their bounds; nothing turns but the place up to which the bytes are read. -/
import Derived.Test.YtiliahibnhfhoaaRows
import Derived.WalkKit
import Derived.ProofKit
import Derived.WalkSpells
import Derived.Deep.QuietTactic
import Derived.BigQuiet
import Derived.Below
namespace Go.Proofs.Ytiliahibnhfhoaa
open Go.RowKit
set_option linter.unusedVariables false
namespace Drw
theorem hid {p : Prop} (h : p) : Hid p := h
/-- The bytes of a code, in a block below B. -/
def CodeAt (B : Nat) (w : World) (a : Option Addr) (len : Nat) : Prop :=
  len = 0 ∨ ∃ b off, a = some ⟨b, off, none⟩ ∧ b < B ∧ ∀ i, i < len → ∃ z : Nat, z ≤ 255 ∧ w.cell? ⟨b, off + i, none⟩ = some (.int .u8 z)
/-- The source: where it stands. -/
def Src (w : World) (S : Nat) (a : Option Addr) (len cap pos : Nat) : Prop := w.heap[S]? = some (.cells #[.slice a len cap, .int .i64 pos] 94 (0, 0))
theorem Src.c0 {w : World} {S len cap pos : Nat} {a : Option Addr} (h : Src w S a len cap pos) : w.cell? ⟨S, 0, none⟩ = some (.slice a len cap) := by simp [World.cell?, show w.heap[S]? = _ from h]
theorem Src.c1 {w : World} {S len cap pos : Nat} {a : Option Addr} (h : Src w S a len cap pos) : w.cell? ⟨S, 1, none⟩ = some (.int .i64 pos) := by simp [World.cell?, show w.heap[S]? = _ from h]
theorem Src.f1 {w : World} {S len cap pos : Nat} {a : Option Addr} (h : Src w S a len cap pos) : w.frozen? ⟨S, 1, none⟩ = false := by simp [World.frozen?, show w.heap[S]? = _ from h]
theorem Src.lt {w : World} {S len cap pos : Nat} {a : Option Addr} (h : Src w S a len cap pos) : S < w.heap.size := (Array.getElem?_eq_some_iff.1 h).1
theorem Src.set {w : World} {S len cap pos : Nat} {a : Option Addr} (h : Src w S a len cap pos) (p' : Nat) (v : Value) (hv : v = .int .i64 p') : Src (w.setCell ⟨S, 1, none⟩ v) S a len cap p' := by
  subst hv
  unfold Src
  simp [World.setCell, Array.getElem?_modify, show w.heap[S]? = _ from h]
theorem Src.grown {w w' : World} {row : Option Nat} {S len cap pos : Nat} {a : Option Addr} (h : Src w S a len cap pos) (hg : w.grownBy w' row) (hne : some S ≠ row) : Src w' S a len cap pos := (hg.block S h.lt hne).trans h
theorem CodeAt.grown {B len : Nat} {w w' : World} {row : Option Nat} {a : Option Addr} (h : CodeAt B w a len) (hg : w.grownBy w' row) (hB : B ≤ w.heap.size) (hne : ∀ k, row = some k → B ≤ k) : CodeAt B w' a len := by
  rcases h with h | ⟨b, off, rfl, hb, hc⟩
  · exact .inl h
  · refine .inr ⟨b, off, rfl, hb, fun i hi => ?_⟩
    obtain ⟨z, hz, hcz⟩ := hc i hi
    exact ⟨z, hz, (World.cell?_of_block (a := ⟨b, off + i, none⟩) (hg.block b (by omega) (fun e => by have := hne b e.symm; omega))).trans hcz⟩
theorem grown_refl (w : World) (row : Option Nat) : w.grownBy w row := ⟨rfl, rfl, rfl, Nat.le_refl _, fun _ _ _ => rfl⟩
theorem grown_after {w w1 w2 : World} {row : Option Nat} (h : w.grownBy w1 row) (h2 : w1.grownBy w2 row) : w.grownBy w2 row :=
  ⟨h2.os.trans h.os, h2.tape.trans h.tape, h2.output.trans h.output, Nat.le_trans h.size h2.size, fun k hk hr => (h2.block k (Nat.lt_of_lt_of_le hk h.size) hr).trans (h.block k hk hr)⟩
theorem grown_set (w : World) (g i : Nat) (u : Value) : w.grownBy (w.setCell ⟨g, i, none⟩ u) (some g) :=
  ⟨rfl, rfl, rfl, by simp [World.setCell], fun k hk hr => Below.heap_setCell _ _ _ _ (fun e => hr (by rw [e]))⟩
theorem grown_drewN {w w1 : World} {row : Option Nat} (h : w.grownBy w1 row) (n : Nat) : w.grownBy (w1.drewN n) row := ⟨h.os, h.tape, h.output, h.size, h.block⟩
set_option maxRecDepth 100000 in
set_option maxHeartbeats 1000000 in
theorem source (a : Option Addr) (len cap : Nat) (w : World) :
    Calls Try.prog 73 #[.slice a len cap] w fun e w' => e = .returned (.pointer (some ⟨w.heap.size, 0, none⟩)) ∧ w' = w.alloc (.cells #[.slice a len cap, .int .i64 0] 94) := by
  go_enter Try.func73, Try.ntmps73
  go_wp2
  go_ret
  exact ⟨rfl, rfl⟩
set_option maxRecDepth 100000 in
set_option maxHeartbeats 2000000 in
theorem next (B S len cap pos n : Nat) (a : Option Addr) (w : World) (hs : Src w S a len cap pos) (hc : CodeAt B w a len) (hB : B ≤ S) (hl : len ≤ 2000000) (hp : pos ≤ 1000000) (hn : 1 ≤ n) (hn2 : n ≤ 200) :
    Calls Try.prog 76 #[.pointer (some ⟨S, 0, none⟩), .int .i64 n] w fun e w' => ∃ r : Nat, r < n ∧ e = .returned (.int .i64 r) ∧ Src w' S a len cap (pos + 1) ∧ w.grownBy w' (some S) := by
  have HS : Hid (Src w S a len cap pos) := hs
  have c0 := hs.c0
  have c1 := hs.c1
  have f1 := hs.f1
  have HS2 : Hid (Src (w.setCell ⟨S, 1, none⟩ (.int .i64 ((pos : Int) + 1))) S a len cap (pos + 1)) := hs.set (pos + 1) _ (by simp)
  clear hs
  have q1 : (1 : Int) ≤ (n : Int) := by omega
  have q2 : (n : Int) ≤ 200 := by omega
  by_cases h0 : len = 0
  · subst h0
    clear hc
    go_enter Try.func76, Try.ntmps76
    go_wp2
    go_ret
    exact ⟨pos * 7 % n, Nat.mod_lt _ (by omega), by simp, HS2.out, grown_set _ _ _ _⟩
  · obtain ⟨b, off, rfl, hb, hcell⟩ : ∃ b off, a = some ⟨b, off, none⟩ ∧ b < B ∧ ∀ i, i < len → ∃ z : Nat, z ≤ 255 ∧ w.cell? ⟨b, off + i, none⟩ = some (.int .u8 z) := by
      rcases hc with h | h
      · exact absurd h h0
      · exact h
    have hi : pos % len < len := Nat.mod_lt _ (by omega)
    obtain ⟨z, hz, hcz⟩ := hcell (pos % len) hi
    have hneb : b ≠ S := by omega
    have hcz2 : (w.setCell ⟨S, 1, none⟩ (.int .i64 ((pos : Int) + 1))).cell? ⟨b, off + pos % len, none⟩ = some (.int .u8 z) := (World.cell?_of_block (a := ⟨b, off + pos % len, none⟩) (Below.heap_setCell w ⟨S, 1, none⟩ _ b hneb)).trans hcz
    have hd : pos / len ≤ 1000000 := Nat.le_trans (Nat.div_le_self _ _) hp
    clear hc hcell hcz
    have b0 : ((len : Int) == 0) = false := beq_eq_false_iff_ne.2 (by omega)
    have b1 : (0 : Int) < (len : Int) := by omega
    have b2 : (0 : Int) ≤ (pos : Int) % (len : Int) := by omega
    have b3 : (pos : Int) % (len : Int) < (len : Int) := by omega
    have b4 : (0 : Int) ≤ (pos : Int) / (len : Int) := Int.ediv_nonneg (by omega) (by omega)
    have b5 : (pos : Int) / (len : Int) ≤ 1000000 := by rw [← Int.natCast_ediv]; omega
    have b6 : (z : Int) ≤ 255 := by omega
    have HG : Hid (w.grownBy (w.setCell ⟨S, 1, none⟩ (.int .i64 ((pos : Int) + 1))) (some S)) := grown_set _ _ _ _
    have c0s := HS2.out.c0
    go_enter Try.func76, Try.ntmps76
    go_wp2
    generalize w.setCell ⟨S, 1, none⟩ (.int .i64 ((pos : Int) + 1)) = W at *
    go_quiet (fail)
    go_wp2
    go_ret
    refine ⟨(z + pos / len * 37) % n, Nat.mod_lt _ (by omega), ?_, HS2.out, grown_drewN HG.out nq⟩
    simp
set_option maxRecDepth 100000 in
set_option maxHeartbeats 1000000 in
theorem chance (B S len cap pos n : Nat) (a : Option Addr) (w : World) (hs : Src w S a len cap pos) (hc : CodeAt B w a len) (hB : B ≤ S) (hl : len ≤ 2000000) (hp : pos ≤ 1000000) (hn : 1 ≤ n) (hn2 : n ≤ 200) :
    Calls Try.prog 75 #[.pointer (some ⟨S, 0, none⟩), .int .i64 n] w fun e w' => ∃ t : Bool, e = .returned (.bool t) ∧ Src w' S a len cap (pos + 1) ∧ w.grownBy w' (some S) := by
  have HN : Hid (∀ x : Unit, Calls Try.prog 76 #[.pointer (some ⟨S, 0, none⟩), .int .i64 n] w fun e w' => ∃ r : Nat, r < n ∧ e = .returned (.int .i64 r) ∧ Src w' S a len cap (pos + 1) ∧ w.grownBy w' (some S)) := fun _ => next B S len cap pos n a w hs hc hB hl hp hn hn2
  clear hs hc
  go_enter Try.func75, Try.ntmps75
  go_wp2_with fail
  refine (HN.out ()).mono ?_
  rintro e w1 ⟨r, hr, rfl, hs1, hg1⟩
  have HS1 : Hid (Src w1 S a len cap (pos + 1)) := hs1
  clear hs1
  go_wp2
  go_ret
  exact ⟨_, rfl, HS1.out, hg1⟩
set_option maxRecDepth 100000 in
set_option maxHeartbeats 1000000 in
theorem pick (B S len cap pos g m : Nat) (zs : List Int) (a : Option Addr) (w : World) (hs : Src w S a len cap pos) (hc : CodeAt B w a len) (hB : B ≤ S) (hl : len ≤ 2000000) (hp : pos ≤ 1000000)
    (hm : zs.length = m) (hn : 1 ≤ m) (hn2 : m ≤ 200) (hgS : g ≠ S) (hgl : g < w.heap.size) (hz : ∀ (i : Nat) (z : Int), zs[i]? = some z → w.cell? ⟨g, i, none⟩ = some (.int .i64 z)) :
    Calls Try.prog 77 #[.pointer (some ⟨S, 0, none⟩), .slice (some ⟨g, 0, none⟩) m m] w fun e w' => ∃ z, z ∈ zs ∧ e = .returned (.int .i64 z) ∧ Src w' S a len cap (pos + 1) ∧ w.grownBy w' (some S) := by
  have HN : Hid (∀ x : Unit, Calls Try.prog 76 #[.pointer (some ⟨S, 0, none⟩), .int .i64 m] w fun e w' => ∃ r : Nat, r < m ∧ e = .returned (.int .i64 r) ∧ Src w' S a len cap (pos + 1) ∧ w.grownBy w' (some S)) := fun _ => next B S len cap pos m a w hs hc hB hl hp hn hn2
  have HZ : Hid (∀ (i : Nat) (z : Int), zs[i]? = some z → w.cell? ⟨g, i, none⟩ = some (.int .i64 z)) := hz
  have HM : Hid (zs.length = m) := hm
  clear hs hc hz hm
  go_enter Try.func77, Try.ntmps77
  go_wp2_with fail
  refine (HN.out ()).mono ?_
  rintro e w1 ⟨r, hr, rfl, hs1, hg1⟩
  have HS1 : Hid (Src w1 S a len cap (pos + 1)) := hs1
  clear hs1
  have hrl : r < zs.length := by rw [HM.out]; exact hr
  have hcr : w1.cell? ⟨g, r, none⟩ = some (.int .i64 zs[r]) := (World.cell?_of_block (a := ⟨g, r, none⟩) (hg1.block g hgl (fun e => hgS (by cases e; rfl)))).trans (HZ.out r _ (List.getElem?_eq_getElem hrl))
  have hmem : zs[r] ∈ zs := List.getElem_mem hrl
  have HMM : Hid (zs[r] ∈ zs) := hmem
  clear hmem
  generalize zs[r] = z at *
  have q1 : (r : Int) < (m : Int) := by omega
  go_wp2
  go_ret
  exact ⟨z, HMM.out, rfl, HS1.out, hg1⟩
end Drw
end Go.Proofs.Ytiliahibnhfhoaa
