/- A Chart in memory: two numbers and three lists of numbers; the law's measure of it, its copy, its comparison. -/
import Derived.Test.YtccklgopcjilcaaGreatDoorJCT2
import Derived.Deep.Heap
import Derived.Deep.Cut
namespace Go.Proofs.YtccklgopcjilcaaGreatDoor
open Go.RowKit Go.Deep
set_option linter.unusedVariables false
namespace Ch
theorem hid {p : Prop} (h : p) : Hid p := h
structure RunD where
  status : Int
  now : Int
  vars : List Int
  marks : List Int
  dues : List Int
structure At (w : World) (B : Nat) (v1 v2 v3 : Value) (r : RunD) : Prop where
  vars : Nu.At w B v1 r.vars
  marks : Nu.At w B v2 r.marks
  dues : Nu.At w B v3 r.dues
theorem At.kept {w w' : World} {B : Nat} {v1 v2 v3 : Value} {r : RunD} (h : At w B v1 v2 v3 r) (hs : w.heap.size ≤ w'.heap.size) (hb : ∀ b, B ≤ b → b < w.heap.size → w'.heap[b]? = w.heap[b]?) : At w' B v1 v2 v3 r := ⟨h.vars.kept hs hb, h.marks.kept hs hb, h.dues.kept hs hb⟩
theorem At.below {w w' : World} {B : Nat} {v1 v2 v3 : Value} {r : RunD} (h : At w B v1 v2 v3 r) (hb : Below w.heap.size w w') : At w' B v1 v2 v3 r := ⟨h.vars.below hb, h.marks.below hb, h.dues.below hb⟩
theorem At.mono {w : World} {B B' : Nat} {v1 v2 v3 : Value} {r : RunD} (h : At w B v1 v2 v3 r) (hB : B' ≤ B) : At w B' v1 v2 v3 r := ⟨h.vars.mono hB, h.marks.mono hB, h.dues.mono hB⟩
structure Ok (r : RunD) : Prop where
  vars : r.vars.length ≤ maxLen
  marks : r.marks.length ≤ maxLen
  dues : r.dues.length ≤ maxLen
structure Small (n : Int) (r : RunD) : Prop where
  vars : (r.vars.length : Int) ≤ n
  marks : (r.marks.length : Int) ≤ n
  dues : (r.dues.length : Int) ≤ n
theorem Small.mono {m n : Int} {r : RunD} (h : Small m r) (hm : m ≤ n) : Small n r := ⟨Int.le_trans h.vars hm, Int.le_trans h.marks hm, Int.le_trans h.dues hm⟩
theorem old_cell {B : Nat} {W w : World} (h : Below B W w) {b o : Nat} (hb : b < B) {v : Value} (hc : W.cell? ⟨b, o, none⟩ = some v) : w.cell? ⟨b, o, none⟩ = some v := (h.cell (p := ⟨b, o, none⟩) hb).trans hc
theorem blk_set {w : World} {S i : Nat} {cs : Array Value} {t : TypeId} (h : w.heap[S]? = some (.cells cs t)) (u : Value) : (w.setCell ⟨S, i, none⟩ u).heap[S]? = some (.cells (cs.setIfInBounds i u) t) := by
  simp [World.setCell, Array.getElem?_modify, h]
theorem blk_cell {w : World} {S : Nat} {cs : Array Value} {t : TypeId} (h : w.heap[S]? = some (.cells cs t)) (i : Nat) : w.cell? ⟨S, i, none⟩ = cs[i]? := by simp [World.cell?, h]
theorem blk_free {w : World} {S : Nat} {cs : Array Value} {t : TypeId} (h : w.heap[S]? = some (.cells cs t)) (i : Nat) : w.frozen? ⟨S, i, none⟩ = false := by simp [World.frozen?, h]
theorem new_blk (w : World) (o : Obj) : (w.alloc o).heap[w.heap.size]? = some o := by
  show (w.heap.push o)[w.heap.size]? = some o
  simp
theorem new_at {w : World} {n : Nat} (h : n = w.heap.size) (o : Obj) : (w.alloc o).heap[n]? = some o := by rw [h]; exact new_blk w o
theorem blk_lt {w : World} {S : Nat} {o : Obj} (h : w.heap[S]? = some o) : S < w.heap.size := by
  rcases Nat.lt_or_ge S w.heap.size with h1 | h1
  · exact h1
  · rw [Array.getElem?_eq_none h1] at h; simp at h
theorem set5 {w : World} {b : Nat} {t : TypeId} {z0 z1 z2 z3 z4 : Value} (h : w.heap[b]? = some (.cells #[z0, z1, z2, z3, z4] t)) (a0 a1 a2 a3 a4 : Value) : (((((w.setCell ⟨b, 0, none⟩ a0).setCell ⟨b, 1, none⟩ a1).setCell ⟨b, 2, none⟩ a2).setCell ⟨b, 3, none⟩ a3).setCell ⟨b, 4, none⟩ a4).heap[b]? = some (.cells #[a0, a1, a2, a3, a4] t) := by
  have := blk_set (i := 4) (blk_set (i := 3) (blk_set (i := 2) (blk_set (i := 1) (blk_set (i := 0) h a0) a1) a2) a3) a4
  simpa only [List.setIfInBounds_toArray, List.set_cons_zero, List.set_cons_succ] using this
theorem size_set {w : World} {b i : Nat} {u : Value} : (w.setCell ⟨b, i, none⟩ u).heap.size = w.heap.size := by simp [World.setCell]
theorem below5 {B : Nat} {x w : World} (h : Below B x w) {b : Nat} (hb : B ≤ b) (a0 a1 a2 a3 a4 : Value) : Below B x (((((w.setCell ⟨b, 0, none⟩ a0).setCell ⟨b, 1, none⟩ a1).setCell ⟨b, 2, none⟩ a2).setCell ⟨b, 3, none⟩ a3).setCell ⟨b, 4, none⟩ a4) :=
  ((((h.setCell (by exact hb) _).setCell (by exact hb) _).setCell (by exact hb) _).setCell (by exact hb) _).setCell (by exact hb) _
theorem at5 {B : Nat} {w : World} {v : Value} {xs : List Int} (h : Nu.At w B v xs) {b : Nat} (hb : b < B) (a0 a1 a2 a3 a4 : Value) : Nu.At (((((w.setCell ⟨b, 0, none⟩ a0).setCell ⟨b, 1, none⟩ a1).setCell ⟨b, 2, none⟩ a2).setCell ⟨b, 3, none⟩ a3).setCell ⟨b, 4, none⟩ a4) B v xs :=
  ((((h.setBelow hb _).setBelow hb _).setBelow hb _).setBelow hb _).setBelow hb _
set_option maxRecDepth 100000 in
set_option maxHeartbeats 1000000 in
theorem szL (xs : List Int) (a : Option Addr) (cap : Nat) (n : Int) (w : World) (h0 : 0 ≤ n) (hn : n ≤ 1048576) (hk : xs.length ≤ maxLen) :
    Calls Tryz.prog 187 #[.slice a xs.length cap, .int .i64 n] w fun e w' => (∃ r : Int, e = .returned (.int .i64 r) ∧ -1 ≤ r ∧ r ≤ n ∧ (0 ≤ r → (xs.length : Int) ≤ n)) ∧ w' = w := by
  unfold maxLen at hk
  by_cases h : n - (xs.length : Int) < 0
  · go_enter Tryz.func187, Tryz.ntmps187
    go_wp2
    go_ret
    exact ⟨⟨-1, rfl, by omega, by omega, by omega⟩, rfl⟩
  · go_enter Tryz.func187, Tryz.ntmps187
    go_wp2
    go_ret
    exact ⟨⟨n - xs.length, rfl, by omega, by omega, by omega⟩, rfl⟩
set_option maxRecDepth 100000 in
set_option maxHeartbeats 2000000 in
theorem sz (B : Nat) (r : RunD) (v1 v2 v3 : Value) (n : Int) (w : World) (h0 : 0 ≤ n) (hn : n ≤ 1048576) (hk : Ok r) (ha : At w B v1 v2 v3 r) :
    Calls Tryz.prog 154 #[.agg #[.int .i64 r.status, .int .i64 r.now, v1, v2, v3], .int .i64 n] w fun e w' => (∃ x : Int, e = .returned (.int .i64 x) ∧ -1 ≤ x ∧ x ≤ n ∧ (0 ≤ x → Small n r)) ∧ Below w.heap.size w w' := by
  obtain ⟨a1, k1, rfl⟩ := ha.vars.slice
  obtain ⟨a2, k2, rfl⟩ := ha.marks.slice
  obtain ⟨a3, k3, rfl⟩ := ha.dues.slice
  obtain ⟨o1, o2, o3⟩ := hk
  have HB : Hid (Below w.heap.size w (w.alloc (.cells #[.int .i64 r.status, .int .i64 r.now, .slice a1 r.vars.length k1, .slice a2 r.marks.length k2, .slice a3 r.dues.length k3] 179))) := hid ((Below.refl _ w).alloc (Nat.le_refl _) _)
  clear ha
  go_enter Tryz.func154, Tryz.ntmps154
  go_wp2_with fail
  refine (szL r.vars a1 k1 n _ h0 hn o1).mono ?_
  rintro e w1 ⟨⟨x1, rfl, p1, p2, p3⟩, rfl⟩
  by_cases q1 : x1 < 0
  · go_wp2
    go_ret
    exact ⟨⟨-1, rfl, by omega, by omega, by omega⟩, HB.out⟩
  have P3 := hid (p3 (by omega))
  clear p3
  go_wp2_with fail
  refine (szL r.marks a2 k2 x1 _ (by omega) (by omega) o2).mono ?_
  rintro e w1 ⟨⟨x2, rfl, s1, s2, s3⟩, rfl⟩
  by_cases q2 : x2 < 0
  · go_wp2
    go_ret
    exact ⟨⟨-1, rfl, by omega, by omega, by omega⟩, HB.out⟩
  have S3 := hid (s3 (by omega))
  clear s3
  go_wp2_with fail
  refine (szL r.dues a3 k3 x2 _ (by omega) (by omega) o3).mono ?_
  rintro e w1 ⟨⟨x3, rfl, t1, t2, t3⟩, rfl⟩
  by_cases q3 : x3 < 0
  · go_wp2
    go_ret
    exact ⟨⟨-1, rfl, by omega, by omega, by omega⟩, HB.out⟩
  have T3 := hid (t3 (by omega))
  clear t3
  go_wp2
  go_ret
  exact ⟨⟨x3, rfl, by omega, by omega, fun _ => ⟨P3.out, Int.le_trans S3.out (by omega), Int.le_trans T3.out (by omega)⟩⟩, HB.out⟩
theorem info5 : (Tryz.prog.info? 112).map (·.size) = some 5 := by kernel_rfl
set_option maxRecDepth 100000 in
set_option maxHeartbeats 4000000 in
theorem to1 (B : Nat) (r : RunD) (v1 v2 v3 : Value) (w : World) (hl : Small 1048576 r) (ha : At w B v1 v2 v3 r) :
    Calls Tryz.prog 158 #[.agg #[.int .i64 r.status, .int .i64 r.now, v1, v2, v3]] w fun e w' => ∃ u1 u2 u3, e = .returned (.agg #[.int .i64 r.status, .int .i64 r.now, u1, u2, u3]) ∧ At w' w.heap.size u1 u2 u3 r ∧ Below w.heap.size w w' := by
  obtain ⟨a1, k1, rfl⟩ := ha.vars.slice
  obtain ⟨a2, k2, rfl⟩ := ha.marks.slice
  obtain ⟨a3, k3, rfl⟩ := ha.dues.slice
  have HL := hid hl
  have KB : Hid (Below w.heap.size w (((w.alloc (.cells #[.int .i64 r.status, .int .i64 r.now, .slice a1 r.vars.length k1, .slice a2 r.marks.length k2, .slice a3 r.dues.length k3] 179)).alloc (.cells #[.int .i64 0, .int .i64 0, .slice none 0 0, .slice none 0 0, .slice none 0 0] 112)).alloc (.cells #[.int .i64 r.status, .int .i64 r.now, .slice none 0 0, .slice none 0 0, .slice none 0 0] 112))) := hid ((((Below.refl _ w).alloc (Nat.le_refl _) _).alloc (by simp) _).alloc (by simp; omega) _)
  have K0 : Hid ((((w.alloc (.cells #[.int .i64 r.status, .int .i64 r.now, .slice a1 r.vars.length k1, .slice a2 r.marks.length k2, .slice a3 r.dues.length k3] 179)).alloc (.cells #[.int .i64 0, .int .i64 0, .slice none 0 0, .slice none 0 0, .slice none 0 0] 112)).alloc (.cells #[.int .i64 r.status, .int .i64 r.now, .slice none 0 0, .slice none 0 0, .slice none 0 0] 112)).heap[w.heap.size]? = some (.cells #[.int .i64 r.status, .int .i64 r.now, .slice a1 r.vars.length k1, .slice a2 r.marks.length k2, .slice a3 r.dues.length k3] 179)) := hid (by rw [Below.heap_alloc _ _ _ (by simp; omega), Below.heap_alloc _ _ _ (by simp), new_blk])
  have K1 : Hid ((((w.alloc (.cells #[.int .i64 r.status, .int .i64 r.now, .slice a1 r.vars.length k1, .slice a2 r.marks.length k2, .slice a3 r.dues.length k3] 179)).alloc (.cells #[.int .i64 0, .int .i64 0, .slice none 0 0, .slice none 0 0, .slice none 0 0] 112)).alloc (.cells #[.int .i64 r.status, .int .i64 r.now, .slice none 0 0, .slice none 0 0, .slice none 0 0] 112)).heap[w.heap.size + 1]? = some (.cells #[.int .i64 0, .int .i64 0, .slice none 0 0, .slice none 0 0, .slice none 0 0] 112)) := hid (by rw [Below.heap_alloc _ _ _ (by simp)]; exact new_at (by simp) _)
  have K2 : Hid ((((w.alloc (.cells #[.int .i64 r.status, .int .i64 r.now, .slice a1 r.vars.length k1, .slice a2 r.marks.length k2, .slice a3 r.dues.length k3] 179)).alloc (.cells #[.int .i64 0, .int .i64 0, .slice none 0 0, .slice none 0 0, .slice none 0 0] 112)).alloc (.cells #[.int .i64 r.status, .int .i64 r.now, .slice none 0 0, .slice none 0 0, .slice none 0 0] 112)).heap[w.heap.size + 1 + 1]? = some (.cells #[.int .i64 r.status, .int .i64 r.now, .slice none 0 0, .slice none 0 0, .slice none 0 0] 112)) := hid (new_at (by simp) _)
  have HA := hid ha
  clear ha hl
  go_enter Tryz.func158, Tryz.ntmps158
  go_wp2_with fail
  generalize ((w.alloc (.cells #[.int .i64 r.status, .int .i64 r.now, .slice a1 r.vars.length k1, .slice a2 r.marks.length k2, .slice a3 r.dues.length k3] 179)).alloc (.cells #[.int .i64 0, .int .i64 0, .slice none 0 0, .slice none 0 0, .slice none 0 0] 112)).alloc (.cells #[.int .i64 r.status, .int .i64 r.now, .slice none 0 0, .slice none 0 0, .slice none 0 0] 112) = w0 at *
  refine (Nu.toS B r.vars _ w0 (by have := HL.out.vars; omega) (HA.out.below KB.out).vars).mono ?_
  rintro e w1 ⟨u1, rfl, hu, hb⟩
  obtain ⟨x1, y1, rfl⟩ := hu.slice
  have KBx := KB.out.trans (hb.mono KB.out.size)
  have z0 := blk_lt K2.out
  have K0x := (hb.block _ (blk_lt K0.out)).trans K0.out
  have K1x := (hb.block _ (blk_lt K1.out)).trans K1.out
  have K2x := (hb.block _ (blk_lt K2.out)).trans K2.out
  have G0 := hid (blk_cell K2x 2)
  have g2 := blk_free K2x 2
  have z1 := blk_lt K2x
  have g1 : w1.cell? ⟨w.heap.size + 1 + 1, 2, none⟩ = some (.slice none 0 0) := by rw [G0.out]; rfl
  have K01 := hid ((Below.heap_setCell w1 ⟨w.heap.size + 1 + 1, 2, none⟩ (.slice x1 r.vars.length y1) w.heap.size (by dsimp only; omega)).trans K0x)
  have K11 := hid ((Below.heap_setCell w1 ⟨w.heap.size + 1 + 1, 2, none⟩ (.slice x1 r.vars.length y1) (w.heap.size + 1) (by dsimp only; omega)).trans K1x)
  have K21 : Hid ((w1.setCell ⟨w.heap.size + 1 + 1, 2, none⟩ (.slice x1 r.vars.length y1)).heap[w.heap.size + 1 + 1]? = some (.cells #[.int .i64 r.status, .int .i64 r.now, .slice x1 r.vars.length y1, .slice none 0 0, .slice none 0 0] 112)) := hid (by have := blk_set (i := 2) K2x (.slice x1 r.vars.length y1); simpa using this)
  have KB1 : Hid (Below w.heap.size w (w1.setCell ⟨w.heap.size + 1 + 1, 2, none⟩ (.slice x1 r.vars.length y1))) := hid (KBx.setCell (by dsimp only; omega) _)
  have HX11 : Hid (Nu.At (w1.setCell ⟨w.heap.size + 1 + 1, 2, none⟩ (.slice x1 r.vars.length y1)) (w.heap.size + 1 + 1 + 1) (.slice x1 r.vars.length y1) r.vars) := hid ((hu.setBelow (b := w.heap.size + 1 + 1) (o := 2) (by omega) _).mono (by omega))
  have b1 : (w1.setCell ⟨w.heap.size + 1 + 1, 2, none⟩ (.slice x1 r.vars.length y1)).cell? ⟨w.heap.size, 3, none⟩ = some (.slice a2 r.marks.length k2) := by rw [blk_cell K01.out]; rfl
  have b2 := blk_lt K01.out
  clear hu hb KBx K0x K1x K2x G0 z0 KB K0 K1 K2
  go_wp2_with fail
  generalize w1.setCell ⟨w.heap.size + 1 + 1, 2, none⟩ (.slice x1 r.vars.length y1) = wA1 at *
  clear g1 g2 z1
  have b1p := b1
  have b2p := b2
  clear b1 b2
  refine (Nu.toS B r.marks _ wA1 (by have := HL.out.marks; omega) (HA.out.below KB1.out).marks).mono ?_
  rintro e w2 ⟨u2, rfl, hu, hb⟩
  obtain ⟨x2, y2, rfl⟩ := hu.slice
  have KBx := KB1.out.trans (hb.mono KB1.out.size)
  have z0 := blk_lt K21.out
  have K0x := (hb.block _ (blk_lt K01.out)).trans K01.out
  have K1x := (hb.block _ (blk_lt K11.out)).trans K11.out
  have K2x := (hb.block _ (blk_lt K21.out)).trans K21.out
  have G0 := hid (blk_cell K2x 3)
  have g2 := blk_free K2x 3
  have z1 := blk_lt K2x
  have g1 : w2.cell? ⟨w.heap.size + 1 + 1, 3, none⟩ = some (.slice none 0 0) := by rw [G0.out]; rfl
  have K02 := hid ((Below.heap_setCell w2 ⟨w.heap.size + 1 + 1, 3, none⟩ (.slice x2 r.marks.length y2) w.heap.size (by dsimp only; omega)).trans K0x)
  have K12 := hid ((Below.heap_setCell w2 ⟨w.heap.size + 1 + 1, 3, none⟩ (.slice x2 r.marks.length y2) (w.heap.size + 1) (by dsimp only; omega)).trans K1x)
  have K22 : Hid ((w2.setCell ⟨w.heap.size + 1 + 1, 3, none⟩ (.slice x2 r.marks.length y2)).heap[w.heap.size + 1 + 1]? = some (.cells #[.int .i64 r.status, .int .i64 r.now, .slice x1 r.vars.length y1, .slice x2 r.marks.length y2, .slice none 0 0] 112)) := hid (by have := blk_set (i := 3) K2x (.slice x2 r.marks.length y2); simpa using this)
  have KB2 : Hid (Below w.heap.size w (w2.setCell ⟨w.heap.size + 1 + 1, 3, none⟩ (.slice x2 r.marks.length y2))) := hid (KBx.setCell (by dsimp only; omega) _)
  have HX22 : Hid (Nu.At (w2.setCell ⟨w.heap.size + 1 + 1, 3, none⟩ (.slice x2 r.marks.length y2)) (w.heap.size + 1 + 1 + 1) (.slice x2 r.marks.length y2) r.marks) := hid ((hu.setBelow (b := w.heap.size + 1 + 1) (o := 3) (by omega) _).mono (by omega))
  have HX12 : Hid (Nu.At (w2.setCell ⟨w.heap.size + 1 + 1, 3, none⟩ (.slice x2 r.marks.length y2)) (w.heap.size + 1 + 1 + 1) (.slice x1 r.vars.length y1) r.vars) := hid ((HX11.out.below hb).setBelow (b := w.heap.size + 1 + 1) (o := 3) (by omega) _)
  have b1 : (w2.setCell ⟨w.heap.size + 1 + 1, 3, none⟩ (.slice x2 r.marks.length y2)).cell? ⟨w.heap.size, 4, none⟩ = some (.slice a3 r.dues.length k3) := by rw [blk_cell K02.out]; rfl
  have b2 := blk_lt K02.out
  clear hu hb KBx K0x K1x K2x G0 z0 KB1 K01 K11 K21 HX11 b1p b2p
  go_wp2_with fail
  generalize w2.setCell ⟨w.heap.size + 1 + 1, 3, none⟩ (.slice x2 r.marks.length y2) = wA2 at *
  clear g1 g2 z1
  have b1p := b1
  have b2p := b2
  clear b1 b2
  refine (Nu.toS B r.dues _ wA2 (by have := HL.out.dues; omega) (HA.out.below KB2.out).dues).mono ?_
  rintro e w3 ⟨u3, rfl, hu, hb⟩
  obtain ⟨x3, y3, rfl⟩ := hu.slice
  have KBx := KB2.out.trans (hb.mono KB2.out.size)
  have z0 := blk_lt K22.out
  have K0x := (hb.block _ (blk_lt K02.out)).trans K02.out
  have K1x := (hb.block _ (blk_lt K12.out)).trans K12.out
  have K2x := (hb.block _ (blk_lt K22.out)).trans K22.out
  have G0 := hid (blk_cell K2x 4)
  have g2 := blk_free K2x 4
  have z1 := blk_lt K2x
  have g1 : w3.cell? ⟨w.heap.size + 1 + 1, 4, none⟩ = some (.slice none 0 0) := by rw [G0.out]; rfl
  have K03 := hid ((Below.heap_setCell w3 ⟨w.heap.size + 1 + 1, 4, none⟩ (.slice x3 r.dues.length y3) w.heap.size (by dsimp only; omega)).trans K0x)
  have K13 := hid ((Below.heap_setCell w3 ⟨w.heap.size + 1 + 1, 4, none⟩ (.slice x3 r.dues.length y3) (w.heap.size + 1) (by dsimp only; omega)).trans K1x)
  have K23 : Hid ((w3.setCell ⟨w.heap.size + 1 + 1, 4, none⟩ (.slice x3 r.dues.length y3)).heap[w.heap.size + 1 + 1]? = some (.cells #[.int .i64 r.status, .int .i64 r.now, .slice x1 r.vars.length y1, .slice x2 r.marks.length y2, .slice x3 r.dues.length y3] 112)) := hid (by have := blk_set (i := 4) K2x (.slice x3 r.dues.length y3); simpa using this)
  have KB3 : Hid (Below w.heap.size w (w3.setCell ⟨w.heap.size + 1 + 1, 4, none⟩ (.slice x3 r.dues.length y3))) := hid (KBx.setCell (by dsimp only; omega) _)
  have HX33 : Hid (Nu.At (w3.setCell ⟨w.heap.size + 1 + 1, 4, none⟩ (.slice x3 r.dues.length y3)) (w.heap.size + 1 + 1 + 1) (.slice x3 r.dues.length y3) r.dues) := hid ((hu.setBelow (b := w.heap.size + 1 + 1) (o := 4) (by omega) _).mono (by omega))
  have HX13 : Hid (Nu.At (w3.setCell ⟨w.heap.size + 1 + 1, 4, none⟩ (.slice x3 r.dues.length y3)) (w.heap.size + 1 + 1 + 1) (.slice x1 r.vars.length y1) r.vars) := hid ((HX12.out.below hb).setBelow (b := w.heap.size + 1 + 1) (o := 4) (by omega) _)
  have HX23 : Hid (Nu.At (w3.setCell ⟨w.heap.size + 1 + 1, 4, none⟩ (.slice x3 r.dues.length y3)) (w.heap.size + 1 + 1 + 1) (.slice x2 r.marks.length y2) r.marks) := hid ((HX22.out.below hb).setBelow (b := w.heap.size + 1 + 1) (o := 4) (by omega) _)
  clear hu hb KBx K0x K1x K2x G0 z0 KB2 K02 K12 K22 HX12 HX22 b1p b2p
  go_upto_region 7 with fail
  generalize w3.setCell ⟨w.heap.size + 1 + 1, 4, none⟩ (.slice x3 r.dues.length y3) = wA3 at *
  clear g1 g2 z1
  have c0 := (blk_cell K23.out 0)
  have c1 := (blk_cell K23.out 1)
  have c2 := (blk_cell K23.out 2)
  have c3 := (blk_cell K23.out 3)
  have c4 := (blk_cell K23.out 4)
  have d0 := (blk_cell K13.out 0)
  have d1 := (blk_cell K13.out 1)
  have d2 := (blk_cell K13.out 2)
  have d3 := (blk_cell K13.out 3)
  have d4 := (blk_cell K13.out 4)
  have f0 := (blk_free K13.out 0)
  have f1 := (blk_free K13.out 1)
  have f2 := (blk_free K13.out 2)
  have f3 := (blk_free K13.out 3)
  have f4 := (blk_free K13.out 4)
  simp at c0 c1 c2 c3 c4 d0 d1 d2 d3 d4
  have z0 := blk_lt K23.out
  have z1 := blk_lt K13.out
  go_wp2
  refine bodyPost_ret (results_cell_row Tryz.results158 _ _ (w.heap.size + 1) 112 #[.int .i64 r.status, .int .i64 r.now, .slice x1 r.vars.length y1, .slice x2 r.marks.length y2, .slice x3 r.dues.length y3] (0, 0) _ rfl (set5 K13.out _ _ _ _ _) Tryz.underlying112 rfl info5) rfl ⟨_, _, _, rfl, ⟨?_, ?_, ?_⟩, ?_⟩
  · exact (at5 HX13.out (by omega) _ _ _ _ _).mono (by omega)
  · exact (at5 HX23.out (by omega) _ _ _ _ _).mono (by omega)
  · exact (at5 HX33.out (by omega) _ _ _ _ _).mono (by omega)
  · exact below5 KB3.out (by omega) _ _ _ _ _
set_option maxRecDepth 100000 in
set_option maxHeartbeats 2000000 in
theorem eq (B1 B2 : Nat) (r : RunD) (v1 v2 v3 u1 u2 u3 : Value) (w : World) (hl : Small 1048576 r) (h1 : At w B1 v1 v2 v3 r) (h2 : At w B2 u1 u2 u3 r) :
    Calls Tryz.prog 168 #[.agg #[.int .i64 r.status, .int .i64 r.now, v1, v2, v3], .agg #[.int .i64 r.status, .int .i64 r.now, u1, u2, u3]] w fun e w' => e = .returned (.bool true) ∧ Below w.heap.size w w' := by
  obtain ⟨a1, k1, rfl⟩ := h1.vars.slice
  obtain ⟨a2, k2, rfl⟩ := h1.marks.slice
  obtain ⟨a3, k3, rfl⟩ := h1.dues.slice
  obtain ⟨b1, m1, rfl⟩ := h2.vars.slice
  obtain ⟨b2, m2, rfl⟩ := h2.marks.slice
  obtain ⟨b3, m3, rfl⟩ := h2.dues.slice
  have e1 : (r.status != r.status) = false := by simp
  have e2 : (r.now != r.now) = false := by simp
  have KB : Hid (Below w.heap.size w ((w.alloc (.cells #[.int .i64 r.status, .int .i64 r.now, .slice a1 r.vars.length k1, .slice a2 r.marks.length k2, .slice a3 r.dues.length k3] 112)).alloc (.cells #[.int .i64 r.status, .int .i64 r.now, .slice b1 r.vars.length m1, .slice b2 r.marks.length m2, .slice b3 r.dues.length m3] 112))) := hid (((Below.refl _ w).alloc (Nat.le_refl _) _).alloc (by simp) _)
  have c3 : Hid (((w.alloc (.cells #[.int .i64 r.status, .int .i64 r.now, .slice a1 r.vars.length k1, .slice a2 r.marks.length k2, .slice a3 r.dues.length k3] 112)).alloc (.cells #[.int .i64 r.status, .int .i64 r.now, .slice b1 r.vars.length m1, .slice b2 r.marks.length m2, .slice b3 r.dues.length m3] 112)).cell? ⟨w.heap.size, 3, none⟩ = some (.slice a2 r.marks.length k2)) := hid (by go_simp)
  have c4 : Hid (((w.alloc (.cells #[.int .i64 r.status, .int .i64 r.now, .slice a1 r.vars.length k1, .slice a2 r.marks.length k2, .slice a3 r.dues.length k3] 112)).alloc (.cells #[.int .i64 r.status, .int .i64 r.now, .slice b1 r.vars.length m1, .slice b2 r.marks.length m2, .slice b3 r.dues.length m3] 112)).cell? ⟨w.heap.size, 4, none⟩ = some (.slice a3 r.dues.length k3)) := hid (by go_simp)
  have d3 : Hid (((w.alloc (.cells #[.int .i64 r.status, .int .i64 r.now, .slice a1 r.vars.length k1, .slice a2 r.marks.length k2, .slice a3 r.dues.length k3] 112)).alloc (.cells #[.int .i64 r.status, .int .i64 r.now, .slice b1 r.vars.length m1, .slice b2 r.marks.length m2, .slice b3 r.dues.length m3] 112)).cell? ⟨w.heap.size + 1, 3, none⟩ = some (.slice b2 r.marks.length m2)) := hid (by go_simp)
  have d4 : Hid (((w.alloc (.cells #[.int .i64 r.status, .int .i64 r.now, .slice a1 r.vars.length k1, .slice a2 r.marks.length k2, .slice a3 r.dues.length k3] 112)).alloc (.cells #[.int .i64 r.status, .int .i64 r.now, .slice b1 r.vars.length m1, .slice b2 r.marks.length m2, .slice b3 r.dues.length m3] 112)).cell? ⟨w.heap.size + 1, 4, none⟩ = some (.slice b3 r.dues.length m3)) := hid (by go_simp)
  have zz : w.heap.size + 1 < ((w.alloc (.cells #[.int .i64 r.status, .int .i64 r.now, .slice a1 r.vars.length k1, .slice a2 r.marks.length k2, .slice a3 r.dues.length k3] 112)).alloc (.cells #[.int .i64 r.status, .int .i64 r.now, .slice b1 r.vars.length m1, .slice b2 r.marks.length m2, .slice b3 r.dues.length m3] 112)).heap.size := by simp
  have H1 := hid (h1.below KB.out)
  have H2 := hid (h2.below KB.out)
  have HL := hid hl
  clear h1 h2 hl
  go_enter Tryz.func168, Tryz.ntmps168
  go_wp2_with fail
  generalize (w.alloc (.cells #[.int .i64 r.status, .int .i64 r.now, .slice a1 r.vars.length k1, .slice a2 r.marks.length k2, .slice a3 r.dues.length k3] 112)).alloc (.cells #[.int .i64 r.status, .int .i64 r.now, .slice b1 r.vars.length m1, .slice b2 r.marks.length m2, .slice b3 r.dues.length m3] 112) = w0 at *
  refine (Nu.eqS B1 B2 r.vars _ _ w0 (by have := HL.out.vars; omega) H1.out.vars H2.out.vars).mono ?_
  rintro e w1 ⟨rfl, hb1⟩
  have zz1 := Nat.lt_of_lt_of_le zz hb1.size
  have KB1 := hid (KB.out.trans (hb1.mono KB.out.size))
  have c3p := hid (old_cell hb1 (by omega) c3.out)
  have d3p := hid (old_cell hb1 (by omega) d3.out)
  have c4p := hid (old_cell hb1 (by omega) c4.out)
  have d4p := hid (old_cell hb1 (by omega) d4.out)
  have x1 := c3p.out
  have x2 := d3p.out
  have x3 : w.heap.size < w1.heap.size := by omega
  have H11 := hid (H1.out.below hb1)
  have H21 := hid (H2.out.below hb1)
  clear hb1
  go_wp2_with fail
  refine (Nu.eqS B1 B2 r.marks _ _ w1 (by have := HL.out.marks; omega) H11.out.marks H21.out.marks).mono ?_
  rintro e w2 ⟨rfl, hb2⟩
  have zz2 := Nat.lt_of_lt_of_le zz1 hb2.size
  have KB2 := hid (KB1.out.trans (hb2.mono KB1.out.size))
  have c4pp := hid (old_cell hb2 (by omega) c4p.out)
  have d4pp := hid (old_cell hb2 (by omega) d4p.out)
  have x1 := c4pp.out
  have x2 := d4pp.out
  have x3 : w.heap.size < w2.heap.size := by omega
  have H12 := hid (H11.out.below hb2)
  have H22 := hid (H21.out.below hb2)
  clear hb2
  go_wp2_with fail
  refine (Nu.eqS B1 B2 r.dues _ _ w2 (by have := HL.out.dues; omega) H12.out.dues H22.out.dues).mono ?_
  rintro e w3 ⟨rfl, hb3⟩
  have KB3 := hid (KB2.out.trans (hb3.mono KB2.out.size))
  clear hb3
  go_wp2
  go_ret
  exact ⟨rfl, KB3.out⟩
theorem cellsR : Tryz.prog.cellsOf 179 = 5 := by kernel_rfl
theorem cellsI : Tryz.prog.cellsOf 2 = 1 := by kernel_rfl
theorem cellsL : Tryz.prog.cellsOf 110 = 1 := by kernel_rfl
set_option maxRecDepth 100000 in
theorem open_all {H : Type} {enc : TypeId × Value → H} {w : World} {base : Nat} {spare : Nat → Bool} {held : Bool} {fuel : Nat} {cs : List Value} {x : DataW H × List MemPlace} (h : DataW.trod enc Tryz.prog w base spare held fuel 179 cs = some x) :
    ∃ (r : RunD) (v1 v2 v3 : Value), cs = [.int .i64 r.status, .int .i64 r.now, v1, v2, v3] ∧ At w 0 v1 v2 v3 r ∧ Ok r := by
  obtain ⟨xs, n, rfl, _, hlen, hxl, hf⟩ := DataW.trod_struct Tryz.underlying179 h
  have h0 := hf 0 _ rfl
  have h1 := hf 1 _ rfl
  have h2 := hf 2 _ rfl
  have h3 := hf 3 _ rfl
  have h4 := hf 4 _ rfl
  rw [cellsR] at hlen
  match cs, hlen with
  | [a, b, c, d, f], _ =>
    match xs, hxl with
    | [x0, x1, x2, x3, x4], _ =>
      simp [cellsI, cellsL] at h0 h1 h2 h3 h4
      obtain ⟨n0, e0⟩ := Nu.open_one h0
      obtain ⟨n1, e1⟩ := Nu.open_one h1
      obtain ⟨l2, p2, q2⟩ := Nu.open_all h2
      obtain ⟨l3, p3, q3⟩ := Nu.open_all h3
      obtain ⟨l4, p4, q4⟩ := Nu.open_all h4
      cases e0
      cases e1
      exact ⟨⟨n0, n1, l2, l3, l4⟩, c, d, f, rfl, ⟨p2, p3, p4⟩, ⟨q2, q3, q4⟩⟩
end Ch
end Go.Proofs.YtccklgopcjilcaaGreatDoor
