/- Draws of chapter 13: a journal that crashes. No condition. -/
import Derived.Test.YtiliahibnhfhoaaJdC
namespace Go.Proofs.Ytiliahibnhfhoaa
open Go.RowKit
set_option linter.unusedVariables false
namespace Jn
theorem results_row_tmp {P : Program} {fn : Func} {p u : Tmp} {ty : TypeId} (h : fn.results = #[.cell p ty, .tmp u]) (tmps : Array Value) (w : World) (g : Nat) (t : TypeId) (cs : Array Value) (fr : Nat × Nat) (d : TypeDesc)
    (hp : tmps.getD p undef = .pointer (some ⟨g, 0, none⟩)) (hg : w.heap[g]? = some (.cells cs t fr))
    (hu : P.underlying ty = some d) (hd : (match d with | .struct _ | .array _ _ => true | _ => false) = true) (hi : (P.info? ty).map (·.size) = some cs.size) :
    (results fn tmps).run P w = .ok (.tuple #[.agg cs, tmps.getD u undef]) w := by
  rw [results_cell_tmp h]
  rw [hp]
  simp [asAddr, run_loadVar_row w g t ty cs fr d hg hu hd hi, Result.andThen]
theorem six_i (w : World) (z0 z1 z2 z3 z4 z5 : Int) : ∀ (i : Nat) (z : Int), ([z0, z1, z2, z3, z4, z5] : List Int)[i]? = some z → (w.alloc (.cells #[.int .i64 z0, .int .i64 z1, .int .i64 z2, .int .i64 z3, .int .i64 z4, .int .i64 z5] 2)).cell? ⟨w.heap.size, i, none⟩ = some (.int .i64 z) := by
  intro i z h
  match i, h with
  | 0, h => simp at h; subst h; go_simp
  | 1, h => simp at h; subst h; go_simp
  | 2, h => simp at h; subst h; go_simp
  | 3, h => simp at h; subst h; go_simp
  | 4, h => simp at h; subst h; go_simp
  | 5, h => simp at h; subst h; go_simp
  | n + 6, h => simp at h
/-- Amid a draw: the source (behind one block), the journal's variable, its rows, what is answered. -/
structure JK (w wr : World) (a : Option Addr) (len cap p g5 : Nat) (v1 v2 : Value) (s l : List UInt8) : Prop where
  st : w.grownBy wr (some (w.heap.size + 1))
  src : Drw.Src wr (w.heap.size + 1) a len cap p
  b : wr.heap[g5]? = some (.cells #[v1, v2] 44 (0, 0))
  res : wr.heap[w.heap.size]? = some (.cells #[.slice none 0 0, .slice none 0 0] 44 (0, 0))
  jo : Jo wr (w.heap.size + 2) v1 v2 s l
  g5 : w.heap.size + 1 < g5
theorem JK.lt {w wr : World} {a : Option Addr} {len cap p g5 : Nat} {v1 v2 : Value} {s l : List UInt8} (h : JK w wr a len cap p g5 v1 v2 s l) : w.heap.size + 1 < wr.heap.size := by have := blk_lt h.b; have := h.g5; omega
theorem JK.below {w wr w' : World} {a : Option Addr} {len cap p g5 : Nat} {v1 v2 : Value} {s l : List UInt8} (h : JK w wr a len cap p g5 v1 v2 s l) (hb : Below wr.heap.size wr w') : JK w w' a len cap p g5 v1 v2 s l :=
  ⟨Drw.grown_after h.st (grown_below hb), src_below h.src hb h.lt, (hb.block _ (blk_lt h.b)).trans h.b, (hb.block _ (blk_lt h.res)).trans h.res, h.jo.below hb (Nat.le_refl _), h.g5⟩
theorem JK.turn {w wr w' : World} {a : Option Addr} {len cap p p' g5 : Nat} {v1 v2 : Value} {s l : List UInt8} (h : JK w wr a len cap p g5 v1 v2 s l) (hg : wr.grownBy w' (some (w.heap.size + 1))) (hs : Drw.Src w' (w.heap.size + 1) a len cap p') : JK w w' a len cap p' g5 v1 v2 s l :=
  ⟨Drw.grown_after h.st hg, hs, (hg.block _ (blk_lt h.b) (fun e => by have := h.g5; cases e; omega)).trans h.b, (hg.block _ (blk_lt h.res) (fun e => by have := Option.some.inj e; omega)).trans h.res,
    h.jo.kept hg (fun b e f => by have := (h.jo.o1.lt _ e).1; have := Option.some.inj f; omega) (fun b e f => by have := (h.jo.o2.lt _ e).1; have := Option.some.inj f; omega), h.g5⟩
theorem below_of_grown {w w' : World} (h : w.grownBy w' (some (w.heap.size + 1))) : Below w.heap.size w w' := ⟨h.os, h.tape, h.output, h.size, fun k hk => h.block k hk (fun e => by have := Option.some.inj e; omega)⟩
def CDraw (w : World) (e : Ending) (w' : World) : Prop := ∃ (s l : List UInt8) (x1 : Option Addr) (k1 : Nat) (x2 : Option Addr) (k2 : Nat) (q : Int), e = .returned (.tuple #[.agg #[.slice x1 s.length k1, .slice x2 l.length k2], .int .i64 q]) ∧ Jo w' w.heap.size (.slice x1 s.length k1) (.slice x2 l.length k2) s l ∧ s.length ≤ 2401 ∧ l.length ≤ 2401 ∧ (-1 ≤ q ∧ q ≤ 2402) ∧ Below w.heap.size w w'
set_option maxRecDepth 100000 in
set_option maxHeartbeats 8000000 in
theorem crashD (len cap : Nat) (a : Option Addr) (w : World) (hln : len ≤ 1048576) (hc : Drw.CodeAt w.heap.size w a len) :
    Calls Try.prog 47 #[.slice a len cap] w (CDraw w) := by
  have hcode := hid (fun w' (hg : w.grownBy w' (some (w.heap.size + 1))) => hc.grown hg (Nat.le_refl _) (fun k e => by have := Option.some.inj e; omega))
  obtain ⟨RR, hRR⟩ : ∃ RR, Hid (RR = CDraw w) := ⟨_, hid rfl⟩
  rw [← hRR.out]
  obtain ⟨hb0, hx0, hx1, hx2⟩ := two_blocks w #[.slice none 0 0, .slice none 0 0] #[.slice a len cap, .int .i64 0] 44 94
  have HB0 := hid hb0
  have HX0 := hid hx0
  have HX1 := hid hx1
  have HX2 := hid hx2
  clear hc hb0 hx0 hx1 hx2
  go_enter Try.func47, Try.ntmps47
  go_wp2_with fail
  refine (Drw.source a len cap _).mono ?_
  rintro e w1 ⟨rfl, hw1⟩
  have HW1 := hid hw1
  have B1 := hid (show Below w.heap.size w w1 by rw [hw1]; exact HB0.out)
  have P0 := hid (show w1.heap[w.heap.size]? = some (.cells #[.slice none 0 0, .slice none 0 0] 44 (0, 0)) by rw [hw1]; exact HX0.out)
  have P1 := hid (show Drw.Src w1 (w.heap.size + 1) a len cap 0 by rw [hw1]; exact HX1.out)
  have l1 : w1.heap.size = w.heap.size + 1 + 1 := by rw [hw1]; exact HX2.out
  have L1 := hid l1
  clear hw1 HW1 HB0 HX0 HX1 HX2 l1
  simp only [World.size_alloc]
  go_wp2_with fail
  refine (journalD w.heap.size (w.heap.size + 1) len cap 0 a _ P1.out (hcode.out _ (grown_below B1.out)) (by omega) (by omega) (by omega)).mono ?_
  rintro e w2 ⟨s, l, x1, k1, x2, k2, rfl, hj, hs1, hl1, ⟨p, hp, hsr⟩, hg2⟩
  have hl2 := hg2.size
  have hL1 := L1.out
  have lw2 : w.heap.size + 1 + 1 ≤ w2.heap.size := by omega
  have K0' : JK w (w2.alloc (.cells #[.slice x1 s.length k1, .slice x2 l.length k2] 44)) a len cap p w2.heap.size (.slice x1 s.length k1) (.slice x2 l.length k2) s l := by
    have hbA : Below w2.heap.size w2 (w2.alloc (.cells #[.slice x1 s.length k1, .slice x2 l.length k2] 44)) := (Below.refl w2.heap.size w2).alloc (Nat.le_refl _) _
    exact ⟨Drw.grown_after (Drw.grown_after (grown_below B1.out) hg2) (grown_below hbA), src_below hsr hbA (by omega), heap_alloc_new w2 _, (hbA.block _ (by omega)).trans ((hg2.block _ (by omega) (fun e => by have := Option.some.inj e; omega)).trans P0.out), (hj.below hbA (Nat.le_refl _)).mono (by omega), by omega⟩
  obtain ⟨w3, hw3⟩ : ∃ w3, w3 = w2.alloc (.cells #[.slice x1 s.length k1, .slice x2 l.length k2] 44) := ⟨_, rfl⟩
  obtain ⟨g5, hg5⟩ : ∃ g5, g5 = w2.heap.size := ⟨_, rfl⟩
  have m0 := blk_cell K0'.b (o := 0) (v := .slice x1 s.length k1) rfl
  have m1 := blk_cell K0'.b (o := 1) (v := .slice x2 l.length k2) rfl
  have HK0 := hid K0'
  rw [← hw3, ← hg5] at HK0
  clear hj hsr hg2 K0' hL1 hl2 L1 lw2
  go_upto_region 4 with fail
  rw [← hw3, ← hg5]
  clear hw3 hg5 m0 m1
  have K0 : JK w w3.drew a len cap p g5 (.slice x1 s.length k1) (.slice x2 l.length k2) s l := HK0.out.below ((Below.refl w3.heap.size w3).drew)
  refine wp_region_held_drew (S := fun wx => wx.heap[g5]? = some (.cells #[.slice x1 s.length k1, .slice x2 l.length k2] 44 (0, 0))) (by kernel_rfl) K0.b (fun hHeld => ?_)
  refine wpAnyH_take (i := 0) (oi := { dst := some 14, op := Go.Op.load 44 (Go.Operand.tmp 5), type := 44, pos := "l13_journal.go:198", after := #[], guard := none }) (v := .agg #[.slice x1 s.length k1, .slice x2 l.length k2]) rfl (by kernel_rfl) (by kernel_rfl) (by kernel_rfl) (fun _ _ _ h => h) (Or.inl ⟨by rfl, by intro w hSw; (try dsimp only at hSw); have ca := blk_cell hSw (o := 0) (v := .slice x1 s.length k1) rfl; have cb := blk_cell hSw (o := 1) (v := .slice x2 l.length k2) rfl; go_simp⟩) (by assumption) ?_
  simp only [Act.put, List.setIfInBounds_toArray, List.set_cons_zero, List.set_cons_succ]
  refine wpAnyH_take (i := 1) (oi := { dst := some 15, op := Go.Op.move (Go.Operand.tmp 4), type := 80, pos := "l13_journal.go:198", after := #[], guard := none }) (v := .pointer (some ⟨w.heap.size + 1, 0, none⟩)) rfl (by kernel_rfl) (by kernel_rfl) (by kernel_rfl) (fun _ _ _ h => h) (Or.inl ⟨by rfl, by intro w hSw; (try dsimp only at hSw); go_simp⟩) (by assumption) ?_
  simp only [Act.put, List.setIfInBounds_toArray, List.set_cons_zero, List.set_cons_succ]
  refine wpAnyH_take (i := 2) (oi := { dst := some 16, op := Go.Op.move (Go.Operand.tmp 4), type := 80, pos := "l13_journal.go:198", after := #[], guard := none }) (v := .pointer (some ⟨w.heap.size + 1, 0, none⟩)) rfl (by kernel_rfl) (by kernel_rfl) (by kernel_rfl) (fun _ _ _ h => h) (Or.inl ⟨by rfl, by intro w hSw; (try dsimp only at hSw); go_simp⟩) (by assumption) ?_
  simp only [Act.put, List.setIfInBounds_toArray, List.set_cons_zero, List.set_cons_succ]
  refine wpAnyH_take (i := 3) (oi := { dst := some 17, op := Go.Op.move (Go.Operand.tmp 6), type := 2, pos := "l13_journal.go:198", after := #[], guard := none }) (v := .int .i64 (l.length : Int)) rfl (by kernel_rfl) (by kernel_rfl) (by kernel_rfl) (fun _ _ _ h => h) (Or.inl ⟨by rfl, by intro w hSw; (try dsimp only at hSw); go_simp⟩) (by assumption) ?_
  simp only [Act.put, List.setIfInBounds_toArray, List.set_cons_zero, List.set_cons_succ]
  refine wpAnyH_take (i := 4) (oi := { dst := some 18, op := Go.Op.binOp Go.BinOp.add 2 (Go.Operand.tmp 17) (Go.Operand.const (Go.Value.int Go.IntKind.i64 1)) 2, type := 2, pos := "l13_journal.go:198", after := #[{ on := 3, ground := Go.Ground.data }], guard := none }) (v := .int .i64 ((l.length : Int) + 1)) rfl (by kernel_rfl) (by kernel_rfl) (by kernel_rfl) (fun _ _ _ h => h) (Or.inl ⟨by rfl, by intro w hSw; (try dsimp only at hSw); have hww := IntWalk.i64_in ((l.length : Int) + 1) (by omega); go_simp⟩) (by assumption) ?_
  simp only [Act.put, List.setIfInBounds_toArray, List.set_cons_zero, List.set_cons_succ]
  refine wpAnyH_take (i := 6) (oi := { dst := some 20, op := Go.Op.move (Go.Operand.tmp 4), type := 80, pos := "l13_journal.go:198", after := #[], guard := none }) (v := .pointer (some ⟨w.heap.size + 1, 0, none⟩)) rfl (by kernel_rfl) (by kernel_rfl) (by kernel_rfl) (fun _ _ _ h => h) (Or.inl ⟨by rfl, by intro w hSw; (try dsimp only at hSw); go_simp⟩) (by assumption) ?_
  simp only [Act.put, List.setIfInBounds_toArray, List.set_cons_zero, List.set_cons_succ]
  refine wpAnyH_take (i := 7) (oi := { dst := some 21, op := Go.Op.move (Go.Operand.tmp 6), type := 2, pos := "l13_journal.go:198", after := #[], guard := none }) (v := .int .i64 (l.length : Int)) rfl (by kernel_rfl) (by kernel_rfl) (by kernel_rfl) (fun _ _ _ h => h) (Or.inl ⟨by rfl, by intro w hSw; (try dsimp only at hSw); go_simp⟩) (by assumption) ?_
  simp only [Act.put, List.setIfInBounds_toArray, List.set_cons_zero, List.set_cons_succ]
  refine wpAnyH_take (i := 8) (oi := { dst := some 22, op := Go.Op.binOp Go.BinOp.add 2 (Go.Operand.tmp 21) (Go.Operand.const (Go.Value.int Go.IntKind.i64 1)) 2, type := 2, pos := "l13_journal.go:198", after := #[{ on := 7, ground := Go.Ground.data }], guard := none }) (v := .int .i64 ((l.length : Int) + 1)) rfl (by kernel_rfl) (by kernel_rfl) (by kernel_rfl) (fun _ _ _ h => h) (Or.inl ⟨by rfl, by intro w hSw; (try dsimp only at hSw); have hww := IntWalk.i64_in ((l.length : Int) + 1) (by omega); go_simp⟩) (by assumption) ?_
  simp only [Act.put, List.setIfInBounds_toArray, List.set_cons_zero, List.set_cons_succ]
  refine wpAnyH_take (i := 10) (oi := { dst := some 24, op := Go.Op.move (Go.Operand.tmp 6), type := 2, pos := "l13_journal.go:198", after := #[], guard := none }) (v := .int .i64 (l.length : Int)) rfl (by kernel_rfl) (by kernel_rfl) (by kernel_rfl) (fun _ _ _ h => h) (Or.inl ⟨by rfl, by intro w hSw; (try dsimp only at hSw); go_simp⟩) (by assumption) ?_
  simp only [Act.put, List.setIfInBounds_toArray, List.set_cons_zero, List.set_cons_succ]
  refine wpAnyH_take (i := 11) (oi := { dst := some 25, op := Go.Op.move (Go.Operand.tmp 6), type := 2, pos := "l13_journal.go:198", after := #[], guard := none }) (v := .int .i64 (l.length : Int)) rfl (by kernel_rfl) (by kernel_rfl) (by kernel_rfl) (fun _ _ _ h => h) (Or.inl ⟨by rfl, by intro w hSw; (try dsimp only at hSw); go_simp⟩) (by assumption) ?_
  simp only [Act.put, List.setIfInBounds_toArray, List.set_cons_zero, List.set_cons_succ]
  refine wpAnyH_take (i := 12) (oi := { dst := some 26, op := Go.Op.binOp Go.BinOp.add 2 (Go.Operand.tmp 25) (Go.Operand.const (Go.Value.int Go.IntKind.i64 1)) 2, type := 2, pos := "l13_journal.go:198", after := #[{ on := 11, ground := Go.Ground.data }], guard := none }) (v := .int .i64 ((l.length : Int) + 1)) rfl (by kernel_rfl) (by kernel_rfl) (by kernel_rfl) (fun _ _ _ h => h) (Or.inl ⟨by rfl, by intro w hSw; (try dsimp only at hSw); have hww := IntWalk.i64_in ((l.length : Int) + 1) (by omega); go_simp⟩) (by assumption) ?_
  simp only [Act.put, List.setIfInBounds_toArray, List.set_cons_zero, List.set_cons_succ]
  refine wpAnyH_ready (rs := [5]) (by kernel_rfl) (by simp) ?_
  refine AllReadyH.cons (o := { dst := some 19, op := Go.Op.call { callee := Go.Callee.value (Go.Operand.func 76), args := #[Go.Operand.tmp 16, Go.Operand.tmp 18], argTypes := #[80, 2] }, type := 2, pos := "l13_journal.go:198", after := #[{ on := 2, ground := Go.Ground.data }, { on := 4, ground := Go.Ground.data }], guard := none }) rfl (fun K hK => ?_) AllReadyH.nil
  go_simp
  go_at_call 76
  have hnx := nextB w.heap.size (w.heap.size + 1) len cap p (l.length + 1) a _ K0.src (hcode.out _ K0.st) (by omega) (by omega) (by omega) (by omega) (by omega)
  rw [Int.natCast_add] at hnx
  refine hnx.mono ?_
  rintro z w4 ⟨r1, hr1, rfl, hs, hg⟩
  have K1 := K0.turn hg hs
  clear hs hg hnx
  go_wp2_with fail
  refine hK.out _ _ K1.b (fun hHeld => ?_)
  clear hK K
  try simp only [Act.put, List.setIfInBounds_toArray, List.set_cons_zero, List.set_cons_succ]
  refine wpAnyH_ready (rs := [9]) (by kernel_rfl) (by simp) ?_
  refine AllReadyH.cons (o := { dst := some 23, op := Go.Op.call { callee := Go.Callee.value (Go.Operand.func 76), args := #[Go.Operand.tmp 20, Go.Operand.tmp 22], argTypes := #[80, 2] }, type := 2, pos := "l13_journal.go:198", after := #[{ on := 6, ground := Go.Ground.data }, { on := 8, ground := Go.Ground.data }, { on := 5, ground := Go.Ground.chain }], guard := none }) rfl (fun K hK => ?_) AllReadyH.nil
  go_simp
  go_at_call 76
  have hnx := nextB w.heap.size (w.heap.size + 1) len cap (p + 1) (l.length + 1) a _ K1.src (hcode.out _ K1.st) (by omega) (by omega) (by omega) (by omega) (by omega)
  rw [Int.natCast_add] at hnx
  refine hnx.mono ?_
  rintro z w5 ⟨r2, hr2, rfl, hs, hg⟩
  have K2 := K1.turn hg hs
  clear hs hg hnx
  go_wp2_with fail
  refine hK.out _ _ K2.b (fun hHeld => ?_)
  clear hK K
  try simp only [Act.put, List.setIfInBounds_toArray, List.set_cons_zero, List.set_cons_succ]
  refine wpAnyH_ready (rs := [13]) (by kernel_rfl) (by simp) ?_
  refine AllReadyH.cons (o := { dst := some 27, op := Go.Op.buildSlice 95 6 #[(0, Go.Operand.tmp 19), (1, Go.Operand.tmp 23), (2, Go.Operand.const (Go.Value.int Go.IntKind.i64 0)), (3, Go.Operand.tmp 24), (4, Go.Operand.tmp 26), (5, Go.Operand.const (Go.Value.int Go.IntKind.i64 (-1)))], type := 95, pos := "l13_journal.go:198", after := #[{ on := 5, ground := Go.Ground.data }, { on := 9, ground := Go.Ground.data }, { on := 10, ground := Go.Ground.data }, { on := 12, ground := Go.Ground.data }], guard := none }) rfl (fun K hK => ?_) AllReadyH.nil
  go_simp
  have K3 := K2.below ((Below.refl w5.heap.size w5).alloc (Nat.le_refl _) (.cells #[.int .i64 (r1 : Int), .int .i64 (r2 : Int), .int .i64 0, .int .i64 (l.length : Int), .int .i64 ((l.length : Int) + 1), .int .i64 (-1)] 2))
  refine hK.out _ _ K3.b (fun hHeld => ?_)
  clear hK K
  try simp only [Act.put, List.setIfInBounds_toArray, List.set_cons_zero, List.set_cons_succ]
  refine wpAnyH_ready (rs := [14]) (by kernel_rfl) (by simp) ?_
  refine AllReadyH.cons (o := { dst := some 28, op := Go.Op.call { callee := Go.Callee.value (Go.Operand.func 77), args := #[Go.Operand.tmp 15, Go.Operand.tmp 27], argTypes := #[80, 95] }, type := 2, pos := "l13_journal.go:198", after := #[{ on := 1, ground := Go.Ground.data }, { on := 13, ground := Go.Ground.data }, { on := 9, ground := Go.Ground.chain }], guard := none }) rfl (fun K hK => ?_) AllReadyH.nil
  go_simp
  go_at_call 77
  refine (Drw.pick w.heap.size (w.heap.size + 1) len cap (p + 1 + 1) w5.heap.size 6 [(r1 : Int), (r2 : Int), 0, (l.length : Int), (l.length : Int) + 1, -1] a _ K3.src (hcode.out _ K3.st) (by omega) (by omega) (by omega) rfl (by omega) (by omega) (by have := K2.lt; omega) (by simp) (six_i w5 _ _ _ _ _ _)).mono ?_
  rintro z w6 ⟨q, hq, rfl, hs, hg⟩
  have K4 := K3.turn hg hs
  have HQ : Hid (-1 ≤ q ∧ q ≤ 2402) := hid (by simp only [List.mem_cons, List.not_mem_nil, or_false] at hq; omega)
  have z0 := blk_cell K4.res (o := 0) (v := .slice none 0 0) rfl
  have z1 := blk_cell K4.res (o := 1) (v := .slice none 0 0) rfl
  have y0 := blk_free (o := 0) K4.res
  have y1 := blk_free (o := 1) K4.res
  clear hs hg hq
  go_wp2_with fail
  refine hK.out _ _ K4.b (fun hHeld => ?_)
  clear hK K
  try simp only [Act.put, List.setIfInBounds_toArray, List.set_cons_zero, List.set_cons_succ]
  refine wpAnyH_ready (rs := [15]) (by kernel_rfl) (by simp) ?_
  refine AllReadyH.cons (o := { dst := none, op := Go.Op.store 44 (Go.Operand.tmp 2) (Go.Operand.tmp 14), type := 0, pos := "l13_journal.go:198", after := #[{ on := 0, ground := Go.Ground.data }, { on := 14, ground := Go.Ground.chain }, { on := 0, ground := Go.Ground.phase }, { on := 1, ground := Go.Ground.textOnly Go.Departure.lateStores }, { on := 2, ground := Go.Ground.textOnly Go.Departure.lateStores }, { on := 3, ground := Go.Ground.textOnly Go.Departure.lateStores }, { on := 4, ground := Go.Ground.textOnly Go.Departure.lateStores }, { on := 5, ground := Go.Ground.textOnly Go.Departure.lateStoresUnsure }, { on := 6, ground := Go.Ground.textOnly Go.Departure.lateStores }, { on := 7, ground := Go.Ground.textOnly Go.Departure.lateStores }, { on := 8, ground := Go.Ground.textOnly Go.Departure.lateStores }, { on := 9, ground := Go.Ground.textOnly Go.Departure.lateStoresUnsure }, { on := 10, ground := Go.Ground.textOnly Go.Departure.lateStores }, { on := 11, ground := Go.Ground.textOnly Go.Departure.lateStores }, { on := 12, ground := Go.Ground.textOnly Go.Departure.lateStores }, { on := 13, ground := Go.Ground.textOnly Go.Departure.lateStores }, { on := 14, ground := Go.Ground.textOnly Go.Departure.lateStoresUnsure }], guard := none }) rfl (fun K hK => ?_) AllReadyH.nil
  go_simp
  refine hK.out _ _ ((Below.heap_setCell _ _ _ _ (by have := K4.g5; dsimp only; omega)).trans ((Below.heap_setCell _ _ _ _ (by have := K4.g5; dsimp only; omega)).trans K4.b)) (fun hHeld => ?_)
  clear hK K
  try simp only [Act.put, List.setIfInBounds_toArray, List.set_cons_zero, List.set_cons_succ]
  refine wpAnyH_take (i := 16) (oi := { dst := some 3, op := Go.Op.assign (Go.Operand.tmp 28), type := 2, pos := "l13_journal.go:198", after := #[{ on := 14, ground := Go.Ground.data }, { on := 15, ground := Go.Ground.chain }, { on := 0, ground := Go.Ground.phase }, { on := 1, ground := Go.Ground.phase }, { on := 2, ground := Go.Ground.phase }, { on := 3, ground := Go.Ground.phase }, { on := 4, ground := Go.Ground.phase }, { on := 5, ground := Go.Ground.phase }, { on := 6, ground := Go.Ground.phase }, { on := 7, ground := Go.Ground.phase }, { on := 8, ground := Go.Ground.phase }, { on := 9, ground := Go.Ground.phase }, { on := 10, ground := Go.Ground.phase }, { on := 11, ground := Go.Ground.phase }, { on := 12, ground := Go.Ground.phase }, { on := 13, ground := Go.Ground.phase }, { on := 14, ground := Go.Ground.phase }, { on := 15, ground := Go.Ground.phase }], guard := none }) (v := .int .i64 q) rfl (by kernel_rfl) (by kernel_rfl) (by kernel_rfl) (fun _ _ _ h => h) (Or.inl ⟨by rfl, by intro w hSw; (try dsimp only at hSw); go_simp⟩) (by assumption) ?_
  simp only [Act.put, List.setIfInBounds_toArray, List.set_cons_zero, List.set_cons_succ]
  refine wpAnyH_done (by kernel_rfl) ?_ _
  have HJ := (K4.jo.set (b := w.heap.size) (c := 0) (u := .slice x1 s.length k1) (by omega)).set (b := w.heap.size) (c := 1) (u := .slice x2 l.length k2) (by omega)
  have HBW : Below w.heap.size w ((w6.setCell ⟨w.heap.size, 0, none⟩ (.slice x1 s.length k1)).setCell ⟨w.heap.size, 1, none⟩ (.slice x2 l.length k2)) := setB (setB (below_of_grown K4.st) (Nat.le_refl _) _) (Nat.le_refl _) _
  have h1 := blk_set K4.res 0 (.slice x1 s.length k1) rfl (by simp)
  have h2 := blk_set h1 1 (.slice x2 l.length k2) rfl (by simp)
  go_wp2
  refine bodyPost_ret (results_row_tmp Try.results47 _ _ w.heap.size 44 #[.slice x1 s.length k1, .slice x2 l.length k2] (0, 0) _ rfl (by simpa using h2) Try.underlying44 rfl info2) rfl ?_
  rw [hRR.out]
  exact ⟨s, l, x1, k1, x2, k2, q, rfl, HJ.mono (by omega), hs1, hl1, HQ.out, HBW⟩
end Jn
end Go.Proofs.Ytiliahibnhfhoaa
