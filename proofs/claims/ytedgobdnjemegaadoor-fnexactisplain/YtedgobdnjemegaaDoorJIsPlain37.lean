/- The specification's copy of steps: l4Copy. -/
import Derived.Test.YtedgobdnjemegaaDoorJIsPlain11
namespace Go.Proofs.YtedgobdnjemegaaDoor
open Go.RowKit Go.Deep
set_option linter.unusedVariables false
namespace Bk
open Ex (hid nvals)
open Nd (NodeD)
open St (StepD)
open Nst (own flat)
open So (SOwn)
open Pl
theorem made (w : World) (t : TypeId) (size : Nat) : (w.alloc (.cells #[] t)).ownsRow w.heap.size t size (.slice (some ⟨w.heap.size, 0, none⟩) 0 0) 0 [] := World.ownsRow_made w #[] 0 (Nat.le_refl _) (by unfold maxLen; omega) (by simp)
theorem sown_made (w : World) : SOwn (w.alloc (.cells #[] 43)) w.heap.size (.slice (some ⟨w.heap.size, 0, none⟩) 0 0) [] :=
  ⟨fun _ => .slice none 0 0, fun _ => .slice none 0 0, made w _ 6, fun i h => by simp at h, fun i j h => by simp at h, fun i h => by simp at h⟩
theorem take_step {ss : List StepD} {j : Nat} (h : j < ss.length) : ss.take (j + 1) = ss.take j ++ [ss[j]] := by rw [List.take_succ_eq_append_getElem h]
set_option maxRecDepth 100000 in
set_option maxHeartbeats 4000000 in
theorem specCopy (B : Nat) (ss : List StepD) (v : Value) (w : World) (hl : ss.length ≤ 1048576) (hsm : ∀ s ∈ ss, St.Small1 1048576 s) (ha : St.At w B v ss) :
    Calls Tryd.prog 34 #[v] w fun e w' => (∃ u, e = .returned u ∧ SOwn w' w.heap.size u ss) ∧ Below w.heap.size w w' := by
  obtain ⟨a, cap, rfl⟩ := ha.slice
  obtain ⟨j0, hj, hy0, hy1, hy2⟩ := info_parts Ex.infoNode
  obtain ⟨j6, hj6, hy60, hy61, hy62⟩ := info_parts So.infoStep
  have HA := hid ha
  have HSM := hid hsm
  clear ha hsm
  go_enter Tryd.func34, Tryd.ntmps34
  go_wp2
  go_loopw [3, 4] (fun o i wr => ∃ (j : Nat), i = .int .i64 j ∧ j ≤ ss.length ∧ (∃ a7 n7 c7, o = .slice a7 n7 c7) ∧ Hid (SOwn wr w.heap.size o (ss.take j)) ∧ Hid (Below w.heap.size w wr)) (fun _ i _ => ss.length - (intOf i).toNat)
  case atStart => exact ⟨0, rfl, Nat.zero_le _, ⟨_, _, _, rfl⟩, hid (sown_made w), hid ((Below.refl _ w).alloc (Nat.le_refl _) _)⟩
  case round =>
    obtain ⟨j, rfl, hjl, ⟨a7, n7, c7, rfl⟩, HO, HB⟩ := hrel
    have lw := HB.out.size
    by_cases hlt : j < ss.length
    · have q1 : (j : Int) < (ss.length : Int) := by omega
      obtain ⟨g, o, vc, ve, rfl, hg, c0, c1, c2, c3, c4, c5, hvc, hve⟩ := (HA.out.below HB.out).at hlt
      obtain ⟨ac, cc, rfl⟩ := hvc.slice
      obtain ⟨ae, ce, rfl⟩ := hve.slice
      have hs1 := HSM.out ss[j] (List.getElem_mem hlt)
      have hs2 := hs1.2.1
      have hs3 := hs1.2.2
      have HTS := hid (take_step hlt)
      have hn7 : n7 = (ss.take j).length := by
        obtain ⟨a', c', e'⟩ := HO.out.slice
        cases e'; rfl
      have hn24 : (ss.take j).length ≤ 1048576 := by simp; omega
      subst hn7
      have HVC := hid hvc
      have HVE := hid hve
      clear hvc hve hs1
      generalize ss[j] = x at *
      generalize hL : ss.take j = L at *
      clear hL
      obtain ⟨w0, hw0⟩ : ∃ w0, w0 = wr.alloc (.cells #[.int .i64 x.kind, .int .i64 x.parent, .string x.name, .int .i64 x.arg, .slice ac x.cond.length cc, .slice ae x.expr.length ce] 43) := ⟨_, rfl⟩
      have hb0 : Below wr.heap.size wr w0 := by rw [hw0]; exact (Below.refl _ wr).alloc (Nat.le_refl _) _
      have hx0 : w0.heap[wr.heap.size]? = some (.cells #[.int .i64 x.kind, .int .i64 x.parent, .string x.name, .int .i64 x.arg, .slice ac x.cond.length cc, .slice ae x.expr.length ce] 43) := by rw [hw0]; exact heap_new wr _
      have hz0 : w0.heap.size = wr.heap.size + 1 := by rw [hw0]; simp
      have x4 : w0.cell? ⟨wr.heap.size, 4, none⟩ = some (.slice ac x.cond.length cc) := bcell hx0 4
      have HB0 := hid hb0
      have HX0 := hid hx0
      have HZ0 := hid hz0
      have HB0' : Hid (Below wr.heap.size wr (w0.alloc (.cells #[] 84))) := hid (hb0.alloc (by omega) _)
      have HRW := hid (row_nodes (HVC.out.below HB0'.out))
      have zl : wr.heap.size < w0.heap.size := by omega
      clear hb0 hx0 hz0
      go_upto_region 6 with fail
      rw [← hw0]
      clear hw0 c0 c1 c2 c3 c4 c5
      go_upto_region 7 with (at_builtin; go_must (refine Ap.wpList_any _ rfl _ _ 41 rfl w0.heap.size 84 j0 (.agg #[.int .i64 0, .int .i64 0, .int .i64 0, .int .i64 0]) 4 32 Tryd.underlying41 hj hy0 hy1 hy2 rfl (by decide) _ _ _ rfl (made w0 _ 4) _ _ _ rfl HRW.out (by unfold maxLen; omega) (by omega) (by simp) _ rfl ?_); intro a2 c2 w2 hown2 hg2 hat2; have hx2 := (hg2.block wr.heap.size (by simp; omega) (fun e => by have e2 := Option.some.inj e; dsimp only at e2; omega)).trans ((Below.heap_alloc _ _ _ zl).trans HX0.out); have y4 : w2.cell? ⟨wr.heap.size, 4, none⟩ = some (.slice ac x.cond.length cc) := bcell hx2 4; have fy4 := bfree hx2 4; have y5 : w2.cell? ⟨wr.heap.size, 5, none⟩ = some (.slice ae x.expr.length ce) := bcell hx2 5)
      rw [Nat.zero_add, List.nil_append] at hown2
      have l2 : w0.heap.size < w2.heap.size := by have := hg2.size; rw [World.size_alloc] at this; omega
      obtain ⟨w3, hw3⟩ : ∃ w3, w3 = w2.setCell ⟨wr.heap.size, 4, none⟩ (.slice a2 x.cond.length c2) := ⟨_, rfl⟩
      have hx3 : w3.heap[wr.heap.size]? = some (.cells #[.int .i64 x.kind, .int .i64 x.parent, .string x.name, .int .i64 x.arg, .slice a2 x.cond.length c2, .slice ae x.expr.length ce] 43) := by rw [hw3]; have := blk_put (i := 4) hx2 (.slice a2 x.cond.length c2); simpa using this
      have hz3 : w3.heap.size = w2.heap.size := by rw [hw3]; simp [World.setCell]
      have hb3 : Below wr.heap.size wr w3 := by
        rw [hw3]
        exact (HB0'.out.grown hg2 (by simp; omega) (fun k e => by have e2 := Option.some.inj e; dsimp only at e2; omega)).setCell (p := ⟨wr.heap.size, 4, none⟩) (Nat.le_refl _) _
      have ho3 : w3.ownsRow w0.heap.size 84 4 (.slice a2 x.cond.length c2) x.cond.length (nvals x.cond) := by rw [hw3]; exact ownsRow_setCell_below hown2 (a := ⟨wr.heap.size, 4, none⟩) zl _
      have HRW3 := hid (row_nodes (HVE.out.below (hb3.alloc (by omega) (.cells #[] 84))))
      have zl3 : wr.heap.size < w3.heap.size := by omega
      have l3 : w0.heap.size < w3.heap.size := by omega
      have y5' : w3.cell? ⟨wr.heap.size, 5, none⟩ = some (.slice ae x.expr.length ce) := bcell hx3 5
      have HX3 := hid hx3
      have HB3 := hid hb3
      have HO3 := hid ho3
      rw [← hw3]
      clear hown2 hg2 hat2 hx2 y4 fy4 y5 hx3 hb3 ho3 hw3 x4 hz3 l2
      go_upto_region 8 with (at_builtin; go_must (refine Ap.wpList_any _ rfl _ _ 41 rfl w3.heap.size 84 j0 (.agg #[.int .i64 0, .int .i64 0, .int .i64 0, .int .i64 0]) 4 32 Tryd.underlying41 hj hy0 hy1 hy2 rfl (by decide) _ _ _ rfl (made w3 _ 4) _ _ _ rfl HRW3.out (by unfold maxLen; omega) (by omega) (by simp) _ rfl ?_); intro a3 c3 w4 hown4 hg4 hat4; have hx4 := (hg4.block wr.heap.size (by simp; omega) (fun e => by have e2 := Option.some.inj e; dsimp only at e2; omega)).trans ((Below.heap_alloc _ _ _ zl3).trans HX3.out); have z5 : w4.cell? ⟨wr.heap.size, 5, none⟩ = some (.slice ae x.expr.length ce) := bcell hx4 5; have fz5 := bfree hx4 5)
      rw [Nat.zero_add, List.nil_append] at hown4
      have l4 : w3.heap.size < w4.heap.size := by have := hg4.size; rw [World.size_alloc] at this; omega
      obtain ⟨w5, hw5⟩ : ∃ w5, w5 = w4.setCell ⟨wr.heap.size, 5, none⟩ (.slice a3 x.expr.length c3) := ⟨_, rfl⟩
      have hx5 : w5.heap[wr.heap.size]? = some (.cells #[.int .i64 x.kind, .int .i64 x.parent, .string x.name, .int .i64 x.arg, .slice a2 x.cond.length c2, .slice a3 x.expr.length c3] 43) := by rw [hw5]; have := blk_put (i := 5) hx4 (.slice a3 x.expr.length c3); simpa using this
      have hz5 : w5.heap.size = w4.heap.size := by rw [hw5]; simp [World.setCell]
      have hb5 : Below wr.heap.size wr w5 := by
        rw [hw5]
        exact ((HB3.out.alloc (by omega) _).grown hg4 (by simp; omega) (fun k e => by have e2 := Option.some.inj e; dsimp only at e2; omega)).setCell (p := ⟨wr.heap.size, 5, none⟩) (Nat.le_refl _) _
      have ho5 : w5.ownsRow w3.heap.size 84 4 (.slice a3 x.expr.length c3) x.expr.length (nvals x.expr) := by rw [hw5]; exact ownsRow_setCell_below hown4 (a := ⟨wr.heap.size, 5, none⟩) zl3 _
      have hoc5 : w5.ownsRow w0.heap.size 84 4 (.slice a2 x.cond.length c2) x.cond.length (nvals x.cond) := by
        rw [hw5]
        refine ownsRow_setCell_below (Nst.own_kept HO3.out (fun b hb => ?_)) (a := ⟨wr.heap.size, 5, none⟩) zl _
        have hbl := (Nst.own_lt HO3.out hb).2
        exact (hg4.block b (by simp; omega) (fun e => by have e2 := Option.some.inj e; dsimp only at e2; omega)).trans (Below.heap_alloc _ _ _ hbl)
      have hce : ∀ b, own (.slice a2 x.cond.length c2) b → ¬ own (.slice a3 x.expr.length c3) b := fun b h1 h2 => by
        have := (Nst.own_lt HO3.out h1).2
        have := (Nst.own_lt ho5 h2).1
        omega
      have l5 : w3.heap.size < w5.heap.size := by omega
      rw [← hw5]
      clear hz5 l4 hw5 hown4 hg4 hat4 hx4 z5 fz5 y5'
      have z0 : w5.cell? ⟨wr.heap.size, 0, none⟩ = some (.int .i64 x.kind) := bcell hx5 0
      have z1 : w5.cell? ⟨wr.heap.size, 1, none⟩ = some (.int .i64 x.parent) := bcell hx5 1
      have z2 : w5.cell? ⟨wr.heap.size, 2, none⟩ = some (.string x.name) := bcell hx5 2
      have z3 : w5.cell? ⟨wr.heap.size, 3, none⟩ = some (.int .i64 x.arg) := bcell hx5 3
      have z4 : w5.cell? ⟨wr.heap.size, 4, none⟩ = some (.slice a2 x.cond.length c2) := bcell hx5 4
      have z5 : w5.cell? ⟨wr.heap.size, 5, none⟩ = some (.slice a3 x.expr.length c3) := bcell hx5 5
      obtain ⟨C, E, hF⟩ := HO.out
      have HEF := hid hF
      have HBA : Hid (Below wr.heap.size wr (w5.alloc (.cells #[.int .i64 x.kind, .int .i64 x.parent, .string x.name, .int .i64 x.arg, .slice a2 x.cond.length c2, .slice a3 x.expr.length c3] 43))) := hid (hb5.alloc (by omega) _)
      have HRX := hid (Nst.own_kept hF.row (fun b hb => HBA.out.block b (Nst.own_lt hF.row hb).2))
      have HN2 := hid (hoc5.alloc (.cells #[.int .i64 x.kind, .int .i64 x.parent, .string x.name, .int .i64 x.arg, .slice a2 x.cond.length c2, .slice a3 x.expr.length c3] 43))
      have HN3 := hid (ho5.alloc (.cells #[.int .i64 x.kind, .int .i64 x.parent, .string x.name, .int .i64 x.arg, .slice a2 x.cond.length c2, .slice a3 x.expr.length c3] 43))
      have HN4 := hid hce
      have HROW : Hid (Ap.Row (w5.alloc (.cells #[.int .i64 x.kind, .int .i64 x.parent, .string x.name, .int .i64 x.arg, .slice a2 x.cond.length c2, .slice a3 x.expr.length c3] 43)) 6 (.slice (some ⟨w5.heap.size, 0, none⟩) 1 1) 1 [.int .i64 x.kind, .int .i64 x.parent, .string x.name, .int .i64 x.arg, .slice a2 x.cond.length c2, .slice a3 x.expr.length c3]) := hid ⟨_, _, rfl, rfl, (by simp [Value.oneCell']), .inr ⟨_, rfl, So.news #[.int .i64 x.kind, .int .i64 x.parent, .string x.name, .int .i64 x.arg, .slice a2 x.cond.length c2, .slice a3 x.expr.length c3] _ _ rfl⟩⟩
      have hz0 : wr.heap.size < w0.heap.size := zl
      clear hF hoc5 ho5 hce hb5 hx5 HO
      go_wp2_with (at_builtin; go_must (refine Ap.wpList_any _ rfl _ _ 24 rfl w.heap.size 43 j6 (.agg #[.int .i64 0, .int .i64 0, .string ⟨#[]⟩, .int .i64 0, .slice none 0 0, .slice none 0 0]) 6 88 Tryd.underlying24 hj6 hy60 hy61 hy62 rfl (by decide) _ _ _ rfl HRX.out _ _ _ rfl HROW.out (by unfold maxLen; omega) (by omega) (by simp; omega) _ rfl ?_); intro a9 c9 w9 hown9 hg9 hat9)
      have HO9 : Hid (SOwn w9 w.heap.size (.slice a9 (L.length + 1) c9) (L ++ [x])) := hid (So.push_at HEF.out lw (fun b _ hb => HBA.out.block b hb) (by simp; omega) (Nst.own_mono HN2.out (by omega)) (Nst.own_mono HN3.out (by omega)) HN4.out hown9 hg9 hat9)
      have HB9 : Hid (Below w.heap.size w w9) := hid ((HB.out.trans (HBA.out.mono lw)).grown hg9 (by simp; omega) (fun b e => (Nst.own_lt HRX.out e).1))
      clear hown9 hg9 hat9
      go_wp2
      exact ⟨⟨j + 1, by simp, by omega, ⟨_, _, _, rfl⟩, hid (by rw [HTS.out]; exact HO9.out), HB9⟩, by simp [intOf]; omega⟩
    · have q1 : ¬ (j : Int) < (ss.length : Int) := by omega
      have hjn : j = ss.length := by omega
      have HO1 : Hid (SOwn wr w.heap.size (.slice a7 n7 c7) ss) := hid (by
        have := HO.out
        rw [hjn, List.take_length] at this
        exact this)
      clear HO hjn
      go_wp2
      go_ret
      exact ⟨⟨_, rfl, HO1.out⟩, HB.out⟩
end Bk
end Go.Proofs.YtedgobdnjemegaaDoor
