/- A step with memory of its own, and the list of a block, as the program tells it: ownStep, listBlock. -/
import Derived.Test.YtedgobdnjemegaaDoorJIsPlain32
import Derived.Test.YtedgobdnjemegaaDoorJIsPlain10
import Derived.Deep.Cut
namespace Go.Proofs.YtedgobdnjemegaaDoor
open Go.RowKit Go.Deep
set_option linter.unusedVariables false
namespace Bk
open Ex (hid inR nvals nvals_len nvals_get)
open Nd (NodeD)
open St (StepD)
open Nst (own flat)
open So (SOwn SJ scell)
open Pl
theorem cloneS (s : ByteArray) (w : World) (h : s.size ≤ 1048576) : Calls Tryd.prog 66 #[.string s] w fun e w' => e = .returned (.string s) ∧ Below w.heap.size w w' := by
  go_enter Tryd.func66, Tryd.ntmps66
  go_wp2_with fail
  refine (Tryd.stringslite_Clone s _ (by omega)).mono ?_
  rintro e w1 ⟨rfl, hb1⟩
  go_wp2
  go_ret
  exact ⟨rfl, hb1⟩
theorem row_nodes {w : World} {B : Nat} {v : Value} {ns : List NodeD} (h : Nd.At w B v ns) : Ap.Row w 4 v ns.length (nvals ns) := by
  obtain ⟨a, cap, rfl, hle, hmx, h1⟩ := h
  refine ⟨a, cap, rfl, nvals_len ns, fun u hu => ?_, ?_⟩
  · unfold nvals at hu
    obtain ⟨n, _, hu⟩ := List.mem_flatMap.1 hu
    simp only [Ex.nval, List.mem_cons, List.not_mem_nil, or_false] at hu
    rcases hu with rfl | rfl | rfl | rfl <;> rfl
  · rcases h1 with rfl | ⟨g, o, rfl, hB, hg, hc⟩
    · exact .inl rfl
    · refine .inr ⟨_, rfl, fun j u hu => ?_⟩
      rw [Go.WideShapes.add_plain]
      have hj : j < ns.length * 4 := by
        have := (List.getElem?_eq_some_iff.1 hu).1
        rw [nvals_len] at this
        exact this
      have hd : j / 4 < ns.length := Nat.div_lt_of_lt_mul (by omega)
      obtain ⟨g1, g2, g3, g4⟩ := nvals_get ns (j / 4) hd
      obtain ⟨k1, k2, k3, k4⟩ := hc (j / 4) hd
      have hm : j % 4 = 0 ∨ j % 4 = 1 ∨ j % 4 = 2 ∨ j % 4 = 3 := by omega
      rcases hm with e | e | e | e
      · rw [show j = j / 4 * 4 by omega] at hu ⊢
        rw [g1] at hu; cases hu; exact k1
      · rw [show j = j / 4 * 4 + 1 by omega] at hu ⊢
        rw [g2] at hu; cases hu; rw [← Nat.add_assoc]; exact k2
      · rw [show j = j / 4 * 4 + 2 by omega] at hu ⊢
        rw [g3] at hu; cases hu; rw [← Nat.add_assoc]; exact k3
      · rw [show j = j / 4 * 4 + 3 by omega] at hu ⊢
        rw [g4] at hu; cases hu; rw [← Nat.add_assoc]; exact k4
theorem bcell {w : World} {b : Nat} {cs : Array Value} {t : TypeId} {fr : Nat × Nat} (h : w.heap[b]? = some (.cells cs t fr)) (i : Nat) : w.cell? ⟨b, i, none⟩ = cs[i]? := by simp [World.cell?, h]
theorem bfree {w : World} {b : Nat} {cs : Array Value} {t : TypeId} (h : w.heap[b]? = some (.cells cs t (0, 0))) (i : Nat) : w.frozen? ⟨b, i, none⟩ = false := by simp [World.frozen?, h]
theorem set6 {w : World} {b : Nat} {t : TypeId} {fr : Nat × Nat} {z0 z1 z2 z3 z4 z5 : Value} (h : w.heap[b]? = some (.cells #[z0, z1, z2, z3, z4, z5] t fr)) (a0 a1 a2 a3 a4 a5 : Value) : ((((((w.setCell ⟨b, 0, none⟩ a0).setCell ⟨b, 1, none⟩ a1).setCell ⟨b, 2, none⟩ a2).setCell ⟨b, 3, none⟩ a3).setCell ⟨b, 4, none⟩ a4).setCell ⟨b, 5, none⟩ a5).heap[b]? = some (.cells #[a0, a1, a2, a3, a4, a5] t fr) := by
  have h7 := blk_put (i := 5) (blk_put (i := 4) (blk_put (i := 3) (blk_put (i := 2) (blk_put (i := 1) (blk_put (i := 0) h a0) a1) a2) a3) a4) a5
  simpa only [List.setIfInBounds_toArray, List.set_cons_zero, List.set_cons_succ] using h7
theorem below6 {B : Nat} {x w : World} (h : Below B x w) {b : Nat} (hb : B ≤ b) (a0 a1 a2 a3 a4 a5 : Value) : Below B x ((((((w.setCell ⟨b, 0, none⟩ a0).setCell ⟨b, 1, none⟩ a1).setCell ⟨b, 2, none⟩ a2).setCell ⟨b, 3, none⟩ a3).setCell ⟨b, 4, none⟩ a4).setCell ⟨b, 5, none⟩ a5) :=
  ((((((h.setCell (p := ⟨b, 0, none⟩) hb _).setCell (p := ⟨b, 1, none⟩) hb _).setCell (p := ⟨b, 2, none⟩) hb _).setCell (p := ⟨b, 3, none⟩) hb _).setCell (p := ⟨b, 4, none⟩) hb _).setCell (p := ⟨b, 5, none⟩) hb _)
def OwnPost (s : StepD) (par : Int) (w : World) (e : Ending) (w' : World) : Prop :=
  (∃ uc ue, e = .returned (.agg #[.int .i64 s.kind, .int .i64 par, .string s.name, .int .i64 s.arg, uc, ue]) ∧ w'.ownsRow w.heap.size 84 4 uc s.cond.length (nvals s.cond) ∧ w'.ownsRow w.heap.size 84 4 ue s.expr.length (nvals s.expr) ∧ ∀ b, own uc b → ¬ own ue b) ∧ Below w.heap.size w w'
set_option maxRecDepth 100000 in
set_option maxHeartbeats 4000000 in
theorem ownStep (s : StepD) (p par : Int) (vc ve : Value) (w : World) (hn : s.name.size ≤ 1048576) (hcl : s.cond.length ≤ 1048576) (hel : s.expr.length ≤ 1048576) (hc : Nd.At w 0 vc s.cond) (he : Nd.At w 0 ve s.expr) :
    Calls Tryd.prog 41 #[.agg #[.int .i64 s.kind, .int .i64 p, .string s.name, .int .i64 s.arg, vc, ve], .int .i64 par] w (OwnPost s par w) := by
  obtain ⟨ac, cc, rfl⟩ := hc.slice
  obtain ⟨ae, ce, rfl⟩ := he.slice
  obtain ⟨j0, hj, hy0, hy1, hy2⟩ := info_parts Ex.infoNode
  obtain ⟨j6, hj6, hy60, hy61, hy62⟩ := info_parts So.infoStep
  have HCN := hid hc
  have HEN := hid he
  have HCS : ∀ w', Hid (Calls Tryd.prog 66 #[.string s.name] w' fun e w'' => e = .returned (.string s.name) ∧ Below w'.heap.size w' w'') := fun w' => hid (cloneS s.name w' hn)
  obtain ⟨w0, hw0⟩ : ∃ w0, w0 = (w.alloc (.cells #[.int .i64 s.kind, .int .i64 par, .string s.name, .int .i64 s.arg, .slice ac s.cond.length cc, .slice ae s.expr.length ce] 43)).alloc (.cells #[.int .i64 0, .int .i64 0, .string { data := #[] }, .int .i64 0, .slice none 0 0, .slice none 0 0] 43) := ⟨_, rfl⟩
  have hb0 : Below w.heap.size w w0 := by rw [hw0]; exact ((Below.refl _ w).alloc (Nat.le_refl _) _).alloc (by simp) _
  have hsz : w0.heap.size = w.heap.size + 2 := by rw [hw0]; simp
  have hx0 : w0.heap[w.heap.size]? = some (.cells #[.int .i64 s.kind, .int .i64 par, .string s.name, .int .i64 s.arg, .slice ac s.cond.length cc, .slice ae s.expr.length ce] 43) := by rw [hw0]; exact (Below.heap_alloc _ _ _ (by simp)).trans (heap_new w _)
  have hr0 : w0.heap[w.heap.size + 1]? = some (.cells #[.int .i64 0, .int .i64 0, .string { data := #[] }, .int .i64 0, .slice none 0 0, .slice none 0 0] 43) := by
    have := heap_new (w.alloc (.cells #[.int .i64 s.kind, .int .i64 par, .string s.name, .int .i64 s.arg, .slice ac s.cond.length cc, .slice ae s.expr.length ce] 43)) (.cells #[.int .i64 0, .int .i64 0, .string { data := #[] }, .int .i64 0, .slice none 0 0, .slice none 0 0] 43)
    rw [World.size_alloc] at this
    rw [hw0]
    exact this
  have HB0 := hid hb0
  have HX0 := hid hx0
  have HR0 := hid hr0
  have HZ0 := hid hsz
  unfold OwnPost
  clear hc he hb0 hsz hx0 hr0
  go_enter Tryd.func41, Tryd.ntmps41
  go_wp2_with fail
  rw [← hw0]
  clear hw0
  refine (HCS _).out.mono ?_
  rintro e w1 ⟨rfl, hb1⟩
  have hsz := HZ0.out
  have l1 := hb1.size
  have hx1 := (hb1.block w.heap.size (by omega)).trans HX0.out
  have hr1 := (hb1.block (w.heap.size + 1) (by omega)).trans HR0.out
  have x2 : w1.cell? ⟨w.heap.size, 2, none⟩ = some (.string s.name) := bcell hx1 2
  have x4 : w1.cell? ⟨w.heap.size, 4, none⟩ = some (.slice ac s.cond.length cc) := bcell hx1 4
  have fx2 := bfree hx1 2
  have HX2 : Hid ((w1.setCell ⟨w.heap.size, 2, none⟩ (.string s.name)).heap[w.heap.size]? = some (.cells #[.int .i64 s.kind, .int .i64 par, .string s.name, .int .i64 s.arg, .slice ac s.cond.length cc, .slice ae s.expr.length ce] 43)) := hid (by have := blk_put (i := 2) hx1 (.string s.name); simpa using this)
  have HB1 := hid (HB0.out.trans (hb1.mono HB0.out.size))
  have HB1' : Hid (Below w.heap.size w (w1.setCell ⟨w.heap.size, 2, none⟩ (.string s.name))) := hid (HB1.out.setCell (p := ⟨w.heap.size, 2, none⟩) (Nat.le_refl _) _)
  have HROW := hid (row_nodes (HCN.out.below HB1'.out))
  have HR1 := hid hr1
  have HX1 := hid hx1
  clear hx1 hr1 hb1
  go_upto_region 4 with (at_builtin; go_must (refine Ap.wpList_any _ rfl _ _ 41 rfl (w.heap.size + 2) 84 j0 (.agg #[.int .i64 0, .int .i64 0, .int .i64 0, .int .i64 0]) 4 32 Tryd.underlying41 hj hy0 hy1 hy2 rfl (by decide) _ _ _ rfl (World.ownsRow_nil _ _ _ _) _ _ _ rfl HROW.out (by unfold maxLen; omega) (by omega) (by simp [World.setCell]; omega) _ rfl ?_); intro a2 c2 w2 hown2 hg2 hat2; have hx2 := (hg2.block w.heap.size (by simp [World.setCell]; omega) (fun e => by cases e)).trans HX2.out; have y4 : w2.cell? ⟨w.heap.size, 4, none⟩ = some (.slice ac s.cond.length cc) := bcell hx2 4; have fy4 := bfree hx2 4; have y5 : w2.cell? ⟨w.heap.size, 5, none⟩ = some (.slice ae s.expr.length ce) := bcell hx2 5)
  have HX3 : Hid ((w2.setCell ⟨w.heap.size, 4, none⟩ (.slice a2 s.cond.length c2)).heap[w.heap.size]? = some (.cells #[.int .i64 s.kind, .int .i64 par, .string s.name, .int .i64 s.arg, .slice a2 s.cond.length c2, .slice ae s.expr.length ce] 43)) := hid (by have := blk_put (i := 4) hx2 (.slice a2 s.cond.length c2); simpa using this)
  have hr2 := (hg2.block (w.heap.size + 1) (by simp [World.setCell]; omega) (fun e => by cases e)).trans ((Below.heap_setCell _ _ _ _ (by simp)).trans HR1.out)
  have hb2 : Below w.heap.size w w2 := HB1'.out.grown hg2 (by simp [World.setCell]; omega) (fun k e => by cases e)
  have l2 : w1.heap.size ≤ w2.heap.size := by have := hg2.size; simpa [World.setCell] using this
  have HB2' : Hid (Below w.heap.size w (w2.setCell ⟨w.heap.size, 4, none⟩ (.slice a2 s.cond.length c2))) := hid (hb2.setCell (p := ⟨w.heap.size, 4, none⟩) (Nat.le_refl _) _)
  have HROW2 := hid (row_nodes (HEN.out.below HB2'.out))
  rw [Nat.zero_add, List.nil_append] at hown2
  have HOW2 := hid hown2
  have HR2 := hid hr2
  clear hown2 hg2 hat2 hx2 hr2 hb2 x2 x4 fx2
  go_wp2_with (at_builtin; go_must (refine Ap.wpList_any _ rfl _ _ 41 rfl w2.heap.size 84 j0 (.agg #[.int .i64 0, .int .i64 0, .int .i64 0, .int .i64 0]) 4 32 Tryd.underlying41 hj hy0 hy1 hy2 rfl (by decide) _ _ _ rfl (World.ownsRow_nil _ _ _ _) _ _ _ rfl HROW2.out (by unfold maxLen; omega) (by omega) (by simp [World.setCell]) _ rfl ?_); intro a3 c3 w3 hown3 hg3 hat3; have hx3 := (hg3.block w.heap.size (by simp [World.setCell]; omega) (fun e => by cases e)).trans HX3.out; have y0 : w3.cell? ⟨w.heap.size, 0, none⟩ = some (.int .i64 s.kind) := bcell hx3 0; have y1 : w3.cell? ⟨w.heap.size, 1, none⟩ = some (.int .i64 par) := bcell hx3 1; have y2 : w3.cell? ⟨w.heap.size, 2, none⟩ = some (.string s.name) := bcell hx3 2; have y3 : w3.cell? ⟨w.heap.size, 3, none⟩ = some (.int .i64 s.arg) := bcell hx3 3; have y4 : w3.cell? ⟨w.heap.size, 4, none⟩ = some (.slice a2 s.cond.length c2) := bcell hx3 4; have y5 : w3.cell? ⟨w.heap.size, 5, none⟩ = some (.slice ae s.expr.length ce) := bcell hx3 5; have fy5 := bfree hx3 5; have hr3 := (hg3.block (w.heap.size + 1) (by simp [World.setCell]; omega) (fun e => by cases e)).trans ((Below.heap_setCell _ _ _ _ (by simp)).trans HR2.out); have z0 : w3.cell? ⟨w.heap.size + 1, 0, none⟩ = some (.int .i64 0) := bcell hr3 0; have z1 : w3.cell? ⟨w.heap.size + 1, 1, none⟩ = some (.int .i64 0) := bcell hr3 1; have z2 : w3.cell? ⟨w.heap.size + 1, 2, none⟩ = some (.string { data := #[] }) := bcell hr3 2; have z3 : w3.cell? ⟨w.heap.size + 1, 3, none⟩ = some (.int .i64 0) := bcell hr3 3; have z4 : w3.cell? ⟨w.heap.size + 1, 4, none⟩ = some (.slice none 0 0) := bcell hr3 4; have z5 : w3.cell? ⟨w.heap.size + 1, 5, none⟩ = some (.slice none 0 0) := bcell hr3 5; have g0 := bfree hr3 0; have g1 := bfree hr3 1; have g2 := bfree hr3 2; have g3 := bfree hr3 3; have g4 := bfree hr3 4; have g5 := bfree hr3 5)
  rw [Nat.zero_add, List.nil_append] at hown3
  have hr4 : (w3.setCell ⟨w.heap.size, 5, none⟩ (.slice a3 s.expr.length c3)).heap[w.heap.size + 1]? = _ := (Below.heap_setCell _ _ _ _ (by simp)).trans hr3
  refine bodyPost_ret (results_cell_row Tryd.results41 _ _ (w.heap.size + 1) 43 #[.int .i64 s.kind, .int .i64 par, .string s.name, .int .i64 s.arg, .slice a2 s.cond.length c2, .slice a3 s.expr.length c3] (0, 0) _ rfl (set6 hr4 _ _ _ _ _ _) Tryd.underlying43 rfl (by rw [hj6]; simp [hy61])) rfl ⟨⟨_, _, rfl, ?_, ?_, ?_⟩, ?_⟩
  · refine Nst.own_mono (Kp.own (P := fun b => w.heap.size + 2 ≤ b) (kp6 (((((Kp.refl _ w2).setCell (p := ⟨w.heap.size, 4, none⟩) (fun _ h => by simp only at h; omega) _).grown hg3 (fun b _ e => by cases e)).setCell (p := ⟨w.heap.size, 5, none⟩) (fun _ h => by simp only at h; omega) _)) (fun h => by omega) _ _ _ _ _ _) HOW2.out (fun b hb => (Nst.own_lt HOW2.out hb).1)) (by omega)
  · refine Nst.own_mono (Kp.own (P := fun b => w2.heap.size ≤ b) (kp6 ((Kp.refl _ w3).setCell (p := ⟨w.heap.size, 5, none⟩) (fun _ h => by simp only at h; omega) _) (fun h => by omega) _ _ _ _ _ _) hown3 (fun b hb => (Nst.own_lt hown3 hb).1)) (by omega)
  · intro b h1 h2
    have := (Nst.own_lt HOW2.out h1).2
    have := (Nst.own_lt hown3 h2).1
    omega
  · exact below6 ((HB2'.out.grown hg3 (by simp [World.setCell]; omega) (fun k e => by cases e)).setCell (p := ⟨w.heap.size, 5, none⟩) (Nat.le_refl _) _) (by omega) _ _ _ _ _ _
end Bk
end Go.Proofs.YtedgobdnjemegaaDoor
