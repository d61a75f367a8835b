/- Laid together: DrA, NdX. -/
import Derived.Test.YtnbmpofmieagfaaGreatDoorRows
import Derived.WalkKit
import Derived.ProofKit
import Derived.WalkSpells
import Derived.Deep.QuietTactic
import Derived.BigQuiet
import Derived.Below
import Derived.Test.YtnbmpofmieagfaaGreatDoorJFnProcs1
import Derived.Deep.SlicePairs
import Derived.Laws.AppendOwn
import Derived.Laws.OwnMore
/- What the specification's draws answer: numbers within their bounds; nothing turns but the place up to which the bytes are read. -/
namespace Go.Proofs.YtnbmpofmieagfaaGreatDoor
open Go.RowKit
set_option linter.unusedVariables false
namespace Drw
theorem hid {p : Prop} (h : p) : Hid p := h
/-- The bytes of a code, in a block below B. -/
def CodeAt (B : Nat) (w : World) (a : Option Addr) (len : Nat) : Prop :=
  len = 0 ∨ ∃ b off, a = some ⟨b, off, none⟩ ∧ b < B ∧ ∀ i, i < len → ∃ z : Nat, z ≤ 255 ∧ w.cell? ⟨b, off + i, none⟩ = some (.int .u8 z)
/-- The source: where it stands. -/
def Src (w : World) (S : Nat) (a : Option Addr) (len cap pos : Nat) : Prop := w.heap[S]? = some (.cells #[.slice a len cap, .int .i64 pos] 80 (0, 0))
theorem Src.c0 {w : World} {S len cap pos : Nat} {a : Option Addr} (h : Src w S a len cap pos) : w.cell? ⟨S, 0, none⟩ = some (.slice a len cap) := by simp [World.cell?, show w.heap[S]? = _ from h]
theorem Src.c1 {w : World} {S len cap pos : Nat} {a : Option Addr} (h : Src w S a len cap pos) : w.cell? ⟨S, 1, none⟩ = some (.int .i64 pos) := by simp [World.cell?, show w.heap[S]? = _ from h]
theorem Src.f1 {w : World} {S len cap pos : Nat} {a : Option Addr} (h : Src w S a len cap pos) : w.frozen? ⟨S, 1, none⟩ = false := by simp [World.frozen?, show w.heap[S]? = _ from h]
theorem Src.lt {w : World} {S len cap pos : Nat} {a : Option Addr} (h : Src w S a len cap pos) : S < w.heap.size := (Array.getElem?_eq_some_iff.1 h).1
theorem Src.set {w : World} {S len cap pos : Nat} {a : Option Addr} (h : Src w S a len cap pos) (p' : Nat) (v : Value) (hv : v = .int .i64 p') : Src (w.setCell ⟨S, 1, none⟩ v) S a len cap p' := by
  subst hv
  unfold Src
  simp [World.setCell, Array.getElem?_modify, show w.heap[S]? = _ from h]
theorem Src.grown {w w' : World} {row : Option Nat} {S len cap pos : Nat} {a : Option Addr} (h : Src w S a len cap pos) (hg : w.grownBy w' row) (hne : some S ≠ row) : Src w' S a len cap pos := (hg.block S h.lt hne).trans h
theorem CodeAt.grown {B len : Nat} {w w' : World} {row : Option Nat} {a : Option Addr} (h : CodeAt B w a len) (hg : w.grownBy w' row) (hB : B ≤ w.heap.size) (hne : ∀ k, row = some k → B ≤ k) : CodeAt B w' a len := by
  rcases h with h | ⟨b, off, rfl, hb, hc⟩
  · exact .inl h
  · refine .inr ⟨b, off, rfl, hb, fun i hi => ?_⟩
    obtain ⟨z, hz, hcz⟩ := hc i hi
    exact ⟨z, hz, (World.cell?_of_block (a := ⟨b, off + i, none⟩) (hg.block b (by omega) (fun e => by have := hne b e.symm; omega))).trans hcz⟩
theorem grown_refl (w : World) (row : Option Nat) : w.grownBy w row := ⟨rfl, rfl, rfl, Nat.le_refl _, fun _ _ _ => rfl⟩
theorem grown_after {w w1 w2 : World} {row : Option Nat} (h : w.grownBy w1 row) (h2 : w1.grownBy w2 row) : w.grownBy w2 row :=
  ⟨h2.os.trans h.os, h2.tape.trans h.tape, h2.output.trans h.output, Nat.le_trans h.size h2.size, fun k hk hr => (h2.block k (Nat.lt_of_lt_of_le hk h.size) hr).trans (h.block k hk hr)⟩
theorem grown_set (w : World) (g i : Nat) (u : Value) : w.grownBy (w.setCell ⟨g, i, none⟩ u) (some g) :=
  ⟨rfl, rfl, rfl, by simp [World.setCell], fun k hk hr => Below.heap_setCell _ _ _ _ (fun e => hr (by rw [e]))⟩
theorem grown_drewN {w w1 : World} {row : Option Nat} (h : w.grownBy w1 row) (n : Nat) : w.grownBy (w1.drewN n) row := ⟨h.os, h.tape, h.output, h.size, h.block⟩
set_option maxRecDepth 100000 in
set_option maxHeartbeats 1000000 in
theorem source (a : Option Addr) (len cap : Nat) (w : World) :
    Calls Tryz.prog 16 #[.slice a len cap] w fun e w' => e = .returned (.pointer (some ⟨w.heap.size, 0, none⟩)) ∧ w' = w.alloc (.cells #[.slice a len cap, .int .i64 0] 80) := by
  go_enter Tryz.func16, Tryz.ntmps16
  go_wp2
  go_ret
  exact ⟨rfl, rfl⟩
set_option maxRecDepth 100000 in
set_option maxHeartbeats 2000000 in
theorem next (B S len cap pos n : Nat) (a : Option Addr) (w : World) (hs : Src w S a len cap pos) (hc : CodeAt B w a len) (hB : B ≤ S) (hl : len ≤ 2000000) (hp : pos ≤ 1000000) (hn : 1 ≤ n) (hn2 : n ≤ 200) :
    Calls Tryz.prog 18 #[.pointer (some ⟨S, 0, none⟩), .int .i64 n] w fun e w' => ∃ r : Nat, r < n ∧ e = .returned (.int .i64 r) ∧ Src w' S a len cap (pos + 1) ∧ w.grownBy w' (some S) := by
  have HS : Hid (Src w S a len cap pos) := hs
  have c0 := hs.c0
  have c1 := hs.c1
  have f1 := hs.f1
  have HS2 : Hid (Src (w.setCell ⟨S, 1, none⟩ (.int .i64 ((pos : Int) + 1))) S a len cap (pos + 1)) := hs.set (pos + 1) _ (by simp)
  clear hs
  have q1 : (1 : Int) ≤ (n : Int) := by omega
  have q2 : (n : Int) ≤ 200 := by omega
  by_cases h0 : len = 0
  · subst h0
    clear hc
    go_enter Tryz.func18, Tryz.ntmps18
    go_wp2
    go_ret
    exact ⟨pos * 7 % n, Nat.mod_lt _ (by omega), by simp, HS2.out, grown_set _ _ _ _⟩
  · obtain ⟨b, off, rfl, hb, hcell⟩ : ∃ b off, a = some ⟨b, off, none⟩ ∧ b < B ∧ ∀ i, i < len → ∃ z : Nat, z ≤ 255 ∧ w.cell? ⟨b, off + i, none⟩ = some (.int .u8 z) := by
      rcases hc with h | h
      · exact absurd h h0
      · exact h
    have hi : pos % len < len := Nat.mod_lt _ (by omega)
    obtain ⟨z, hz, hcz⟩ := hcell (pos % len) hi
    have hneb : b ≠ S := by omega
    have hcz2 : (w.setCell ⟨S, 1, none⟩ (.int .i64 ((pos : Int) + 1))).cell? ⟨b, off + pos % len, none⟩ = some (.int .u8 z) := (World.cell?_of_block (a := ⟨b, off + pos % len, none⟩) (Below.heap_setCell w ⟨S, 1, none⟩ _ b hneb)).trans hcz
    have hd : pos / len ≤ 1000000 := Nat.le_trans (Nat.div_le_self _ _) hp
    clear hc hcell hcz
    have b0 : ((len : Int) == 0) = false := beq_eq_false_iff_ne.2 (by omega)
    have b1 : (0 : Int) < (len : Int) := by omega
    have b2 : (0 : Int) ≤ (pos : Int) % (len : Int) := by omega
    have b3 : (pos : Int) % (len : Int) < (len : Int) := by omega
    have b4 : (0 : Int) ≤ (pos : Int) / (len : Int) := Int.ediv_nonneg (by omega) (by omega)
    have b5 : (pos : Int) / (len : Int) ≤ 1000000 := by rw [← Int.natCast_ediv]; omega
    have b6 : (z : Int) ≤ 255 := by omega
    have HG : Hid (w.grownBy (w.setCell ⟨S, 1, none⟩ (.int .i64 ((pos : Int) + 1))) (some S)) := grown_set _ _ _ _
    have c0s := HS2.out.c0
    go_enter Tryz.func18, Tryz.ntmps18
    go_wp2
    generalize w.setCell ⟨S, 1, none⟩ (.int .i64 ((pos : Int) + 1)) = W at *
    go_quiet (fail)
    go_wp2
    go_ret
    refine ⟨(z + pos / len * 37) % n, Nat.mod_lt _ (by omega), ?_, HS2.out, grown_drewN HG.out nq⟩
    simp
set_option maxRecDepth 100000 in
set_option maxHeartbeats 1000000 in
theorem chance (B S len cap pos n : Nat) (a : Option Addr) (w : World) (hs : Src w S a len cap pos) (hc : CodeAt B w a len) (hB : B ≤ S) (hl : len ≤ 2000000) (hp : pos ≤ 1000000) (hn : 1 ≤ n) (hn2 : n ≤ 200) :
    Calls Tryz.prog 106 #[.pointer (some ⟨S, 0, none⟩), .int .i64 n] w fun e w' => ∃ t : Bool, e = .returned (.bool t) ∧ Src w' S a len cap (pos + 1) ∧ w.grownBy w' (some S) := by
  have HN : Hid (∀ x : Unit, Calls Tryz.prog 18 #[.pointer (some ⟨S, 0, none⟩), .int .i64 n] w fun e w' => ∃ r : Nat, r < n ∧ e = .returned (.int .i64 r) ∧ Src w' S a len cap (pos + 1) ∧ w.grownBy w' (some S)) := fun _ => next B S len cap pos n a w hs hc hB hl hp hn hn2
  clear hs hc
  go_enter Tryz.func106, Tryz.ntmps106
  go_wp2_with fail
  refine (HN.out ()).mono ?_
  rintro e w1 ⟨r, hr, rfl, hs1, hg1⟩
  have HS1 : Hid (Src w1 S a len cap (pos + 1)) := hs1
  clear hs1
  go_wp2
  go_ret
  exact ⟨_, rfl, HS1.out, hg1⟩
set_option maxRecDepth 100000 in
set_option maxHeartbeats 1000000 in
theorem pick (B S len cap pos g m : Nat) (zs : List Int) (a : Option Addr) (w : World) (hs : Src w S a len cap pos) (hc : CodeAt B w a len) (hB : B ≤ S) (hl : len ≤ 2000000) (hp : pos ≤ 1000000)
    (hm : zs.length = m) (hn : 1 ≤ m) (hn2 : m ≤ 200) (hgS : g ≠ S) (hgl : g < w.heap.size) (hz : ∀ (i : Nat) (z : Int), zs[i]? = some z → w.cell? ⟨g, i, none⟩ = some (.int .i64 z)) :
    Calls Tryz.prog 40 #[.pointer (some ⟨S, 0, none⟩), .slice (some ⟨g, 0, none⟩) m m] w fun e w' => ∃ z, z ∈ zs ∧ e = .returned (.int .i64 z) ∧ Src w' S a len cap (pos + 1) ∧ w.grownBy w' (some S) := by
  have HN : Hid (∀ x : Unit, Calls Tryz.prog 18 #[.pointer (some ⟨S, 0, none⟩), .int .i64 m] w fun e w' => ∃ r : Nat, r < m ∧ e = .returned (.int .i64 r) ∧ Src w' S a len cap (pos + 1) ∧ w.grownBy w' (some S)) := fun _ => next B S len cap pos m a w hs hc hB hl hp hn hn2
  have HZ : Hid (∀ (i : Nat) (z : Int), zs[i]? = some z → w.cell? ⟨g, i, none⟩ = some (.int .i64 z)) := hz
  have HM : Hid (zs.length = m) := hm
  clear hs hc hz hm
  go_enter Tryz.func40, Tryz.ntmps40
  go_wp2_with fail
  refine (HN.out ()).mono ?_
  rintro e w1 ⟨r, hr, rfl, hs1, hg1⟩
  have HS1 : Hid (Src w1 S a len cap (pos + 1)) := hs1
  clear hs1
  have hrl : r < zs.length := by rw [HM.out]; exact hr
  have hcr : w1.cell? ⟨g, r, none⟩ = some (.int .i64 zs[r]) := (World.cell?_of_block (a := ⟨g, r, none⟩) (hg1.block g hgl (fun e => hgS (by cases e; rfl)))).trans (HZ.out r _ (List.getElem?_eq_getElem hrl))
  have hmem : zs[r] ∈ zs := List.getElem_mem hrl
  have HMM : Hid (zs[r] ∈ zs) := hmem
  clear hmem
  generalize zs[r] = z at *
  have q1 : (r : Int) < (m : Int) := by omega
  go_wp2
  go_ret
  exact ⟨z, HMM.out, rfl, HS1.out, hg1⟩
end Drw
end Go.Proofs.YtnbmpofmieagfaaGreatDoor
/- Rows of nodes that a function has made itself: their cells, kept over what grows; as a list of nodes. -/
namespace Go.Proofs.YtnbmpofmieagfaaGreatDoor
open Go.RowKit
set_option linter.unusedVariables false
namespace Ex
open Nd (NodeD)
def nval (n : NodeD) : List Value := [.int .i64 n.kind, .int .i64 n.value, .int .i64 n.left, .int .i64 n.right]
def nvals (l : List NodeD) : List Value := l.flatMap nval
theorem nvals_len (l : List NodeD) : (nvals l).length = l.length * 4 := by
  induction l with
  | nil => rfl
  | cons a l ih => simp only [nvals, List.flatMap_cons, List.length_append, List.length_cons] at ih ⊢; rw [ih]; simp [nval]; omega
theorem nvals_snoc (l : List NodeD) (n : NodeD) : nvals (l ++ [n]) = nvals l ++ nval n := by simp [nvals]
theorem own4_slice {w : World} {base n : Nat} {e : TypeId} {v : Value} {xs : List Value} (h : w.ownsRow base e 4 v n xs) : ∃ a cap, v = .slice a n cap := by
  obtain ⟨hl, ⟨rfl, rfl⟩ | ⟨g', cap', cur, hv, _⟩⟩ := h
  · exact ⟨_, _, rfl⟩
  · exact ⟨_, _, hv⟩
theorem owns_keep {w w' : World} {base : Nat} {e : TypeId} {size n : Nat} {v : Value} {xs : List Value} (h : w.ownsRow base e size v n xs) (hb : Below w.heap.size w w') : w'.ownsRow base e size v n xs :=
  h.kept (row := none) ⟨hb.os, hb.tape, hb.output, hb.size, fun k hk _ => hb.block k hk⟩ (by cases v.ownBlock <;> simp)
theorem grown_cell2 {w w' : World} {row : Option Nat} {b o : Nat} {v : Value} (h : w.grownBy w' row) (hc : w.cell? ⟨b, o, none⟩ = some v) (hr : row ≠ some b) : w'.cell? ⟨b, o, none⟩ = some v := by
  have hb : b < w.heap.size := by
    rcases Nat.lt_or_ge b w.heap.size with h1 | h1
    · exact h1
    · simp [World.cell?, Array.getElem?_eq_none h1] at hc
  simp only [World.cell?] at hc ⊢
  rw [h.block b hb (fun e => hr e.symm)]
  exact hc
theorem grown_free2 {w w' : World} {row : Option Nat} {b o : Nat} (h : w.grownBy w' row) (hb : b < w.heap.size) (hc : w.frozen? ⟨b, o, none⟩ = false) (hr : row ≠ some b) : w'.frozen? ⟨b, o, none⟩ = false := by
  simp only [World.frozen?] at hc ⊢
  rw [h.block b hb (fun e => hr e.symm)]
  exact hc
theorem infoNode : (Tryz.prog.info? 110).map (fun i => (i.zero, i.size, i.bytes)) = some (some (.agg #[.int .i64 0, .int .i64 0, .int .i64 0, .int .i64 0]), 4, 32) := by kernel_rfl
theorem nvals_get : ∀ (l : List NodeD) (i : Nat) (h : i < l.length), (nvals l)[i * 4]? = some (.int .i64 l[i].kind) ∧ (nvals l)[i * 4 + 1]? = some (.int .i64 l[i].value) ∧ (nvals l)[i * 4 + 2]? = some (.int .i64 l[i].left) ∧ (nvals l)[i * 4 + 3]? = some (.int .i64 l[i].right)
  | [], i, h => by simp at h
  | n :: l, 0, h => by simp [nvals, nval]
  | n :: l, i + 1, h => by
    have ih := nvals_get l i (by simpa using h)
    have e : nvals (n :: l) = nval n ++ nvals l := by simp [nvals]
    have e4 : (nval n).length = 4 := rfl
    simp only [List.getElem_cons_succ]
    rw [e]
    refine ⟨?_, ?_, ?_, ?_⟩
    · rw [List.getElem?_append_right (by omega), e4, show (i + 1) * 4 - 4 = i * 4 by omega]; exact ih.1
    · rw [List.getElem?_append_right (by omega), e4, show (i + 1) * 4 + 1 - 4 = i * 4 + 1 by omega]; exact ih.2.1
    · rw [List.getElem?_append_right (by omega), e4, show (i + 1) * 4 + 2 - 4 = i * 4 + 2 by omega]; exact ih.2.2.1
    · rw [List.getElem?_append_right (by omega), e4, show (i + 1) * 4 + 3 - 4 = i * 4 + 3 by omega]; exact ih.2.2.2
theorem at_of_owns {w : World} {B : Nat} {v : Value} {ns : List NodeD} (h : w.ownsRow B 110 4 v ns.length (nvals ns)) : Nd.At w B v ns := by
  obtain ⟨hl, ⟨rfl, h0⟩ | ⟨g, cap, cur, rfl, hbg, hg, hle, hm, hs, ht⟩⟩ := h
  · exact ⟨none, 0, by rw [h0], by omega, by unfold maxLen; omega, .inl (List.length_eq_zero_iff.1 h0)⟩
  · refine ⟨some ⟨g, 0, none⟩, cap, rfl, hle, hm, .inr ⟨g, 0, rfl, hbg, (Array.getElem?_eq_some_iff.1 hg).1, fun i hi => ?_⟩⟩
    have hc : ∀ j v, j < ns.length * 4 → (nvals ns)[j]? = some v → w.cell? ⟨g, 0 + j, none⟩ = some v := fun j v hj hv => by
      have h2 := congrArg (·[j]?) ht
      simp only [List.getElem?_take, hj, if_true, hv] at h2
      have h3 : cur[j]? = some v := by simpa using h2
      simp [World.cell?, hg, h3]
    obtain ⟨g1, g2, g3, g4⟩ := nvals_get ns i hi
    exact ⟨hc _ _ (by omega) g1, hc _ _ (by omega) g2, hc _ _ (by omega) g3, hc _ _ (by omega) g4⟩
end Ex
end Go.Proofs.YtnbmpofmieagfaaGreatDoor
