/- The program's addFlow. -/
import Derived.Test.YtfgckeoigkoflaaGreatDoorJGraphOf36
import Derived.Deep.RegionHeld3
namespace Go.Proofs.YtfgckeoigkoflaaGreatDoor
open Go.RowKit
set_option linter.unusedVariables false
namespace Gr
open Ex (hid nvals nvals_len infoNode at_of_owns owns_keep inR grown_cell2 grown_free2)
open Nd (NodeD)
open Gn (GNodeD)
open Fl (FlowD)
open Nst (own)
open Rc
open Go.ChangeMaps (setBlock)
structure Fd (w : World) (D M p q i o : Nat) : Prop where
  d2 : w.cell? ⟨D, 2, none⟩ = some (.map (some M))
  p5 : w.cell? ⟨p, 5, none⟩ = some (.int .i64 (i : Int))
  q5 : w.cell? ⟨q, 5, none⟩ = some (.int .i64 (o : Int))
theorem step_put {P : Program} {w w' : World} {ops : Array Oper} {o : Oper} {a : Act} {K : Act → World → Prop} {Q : Exit → Act → World → Prop} {E : Prop} (hgd : o.guard = none) (m x v : Operand) (t : TypeId) (ho : o.op = .mapUpdate t m x v) {mv xv vv : Value} (hm : a.eval m = mv) (hx : a.eval x = xv) (hv : a.eval v = vv)
    (hrun : (Instr.mapUpdate t mv xv vv).run P w = .ok () w') (h : K (a.put o.dst undef) w') : if Region.wanted o (yielded ops a.tmps) = true then Oper.wp P o a w K Q else E := by
  have hw : Region.wanted o (yielded ops a.tmps) = true := by simp [Region.wanted, hgd]
  rw [if_pos hw]
  unfold Oper.wp
  simp [execOp, ho, hm, hx, hv, hrun, Result.andThen]
  exact h
/-- What a call that adds a flow leaves. -/
def FPost (D : Nat) (S : Nat → Prop) (u : Value) (g : GraphD) (x : FlowD) (w : World) (e : Ending) (w' : World) : Prop := (∃ r, e = .returned r) ∧ ∃ S', DB w' D S' u (addF g x) ∧ Fr w w' D S S'
set_option maxRecDepth 100000 in
set_option maxHeartbeats 16000000 in
theorem addFlow (D : Nat) (S : Nat → Prop) (u : Value) (g : GraphD) (p q i o : Nat) (c : List NodeD) (vc : Value) (w : World) (h : DB w D S u g) (hp : PtN w D p i) (hq : PtN w D q o) (hc : Ap.Row w 4 vc c.length (nvals c)) (hcl : c.length ≤ 100000) (hs : Srt (linkL g.flows ⟨(i : Int), (o : Int), c⟩)) (hi : i ≤ 100000000000000) (ho : o ≤ 100000000000000) :
    Calls Tryz.prog 20 #[.pointer (some ⟨D, 0, none⟩), .pointer (some ⟨p, 0, none⟩), .pointer (some ⟨q, 0, none⟩), vc] w (FPost D S u g ⟨(i : Int), (o : Int), c⟩ w) := by
  obtain ⟨j0, hj, hy0, hy1, hy2⟩ := inf_parts2 infoNode
  obtain ⟨vn, M, pn, E, fs, hx, hS⟩ := h
  obtain rfl : S = (fun b => b = M ∨ own vn b) := funext fun b => propext (hS b)
  have hD := hx.lt
  have hpM : p ≠ M := fun e => hx.pt_ne hp (.inl e)
  have hqM : q ≠ M := fun e => hx.pt_ne hq (.inl e)
  have hDM : D ≠ M := by have := hx.mlt; omega
  obtain ⟨ac, cc, rfl⟩ : ∃ ac cc, vc = .slice ac c.length cc := by
    obtain ⟨a, b, e, _⟩ := hc
    exact ⟨a, b, e⟩
  have HX := hid hx
  have HP := hid hp
  have HQ := hid hq
  have hfd0 : Fd w D M p q i o := ⟨by simp [World.cell?, hx.box], hp.cell, hq.cell⟩
  have hnew : (((i : Int), (o : Int)) : Int × Int) ∉ (fs.map fun p => fent p.1 p.2).map (·.1) := by
    intro e
    rw [List.map_map] at e
    obtain ⟨f, hf, e2⟩ := List.mem_map.1 e
    have hm : f.1 ∈ g.flows := hx.perm.mem_iff.1 (List.mem_map.2 ⟨f, hf, rfl⟩)
    exact link_new hs f.1 hm e2
  have HNW := hid hnew
  have HL := hid (show D < w.heap.size ∧ p < w.heap.size ∧ q < w.heap.size from ⟨hD, hp.lt.2, hq.lt.2⟩)
  clear hx hS hp hq hnew hs
  go_enter Tryz.func20, Tryz.ntmps20
  go_wp2_with (at_builtin; go_must (refine Ap.wpList_any _ rfl _ _ 44 rfl w.heap.size 115 j0 _ 4 32 Tryz.underlying44 hj hy0 hy1 hy2 rfl (by omega) (.slice none 0 0) 0 [] rfl (World.ownsRow_nil _ _ _ _) _ c.length (nvals c) rfl hc (by unfold maxLen; omega) (by omega) (Nat.le_refl _) _ rfl ?_; intro a2 c2 w2 hown2 hgrow2 hat2; simp only [Nat.zero_add, List.nil_append] at hown2 hat2 ⊢))
  have hb2 : Below w.heap.size w w2 := (Below.refl _ w).grown hgrow2 (Nat.le_refl _) (fun b e => by cases e)
  obtain ⟨hl1, hl2, hl3⟩ := HL.out
  have hfd2 : Fd w2 D M p q i o := ⟨old_cell hb2 hl1 hfd0.d2, old_cell hb2 hl2 hfd0.p5, old_cell hb2 hl3 hfd0.q5⟩
  have hfd : Fd w2.drew D M p q i o := ⟨hfd2.d2, hfd2.p5, hfd2.q5⟩
  obtain ⟨ob, hrun, hmp, hot, hsz⟩ := Mp.At.put (w := w2.drew) (HX.out.mp.keep (hb2.drew.block M HX.out.mp.lt)) (p := ((i : Int), (o : Int))) ⟨⟨by simp, by show (i : Int) < _; omega⟩, by simp, by show (o : Int) < _; omega⟩ HNW.out (.agg #[.int .i64 (i : Int), .int .i64 (o : Int), .slice a2 c.length c2])
  have hfd3 : Fd (setBlock w2.drew M ob) D M p q i o := by
    have e : ∀ b j, b ≠ M → (setBlock w2.drew M ob).cell? ⟨b, j, none⟩ = w2.cell? ⟨b, j, none⟩ := fun b j hb => by
      simp only [World.cell?]
      rw [hot b hb]
      rfl
    exact ⟨(e _ _ hDM).trans hfd2.d2, (e _ _ hpM).trans hfd2.p5, (e _ _ hqM).trans hfd2.q5⟩
  have HO2 : Hid (w2.drew.ownsRow w.heap.size 115 4 (.slice a2 c.length c2) c.length (nvals c)) := hid hown2.drew
  have HB2 := hid hb2.drew
  have HMP := hid hmp
  have HOT := hid hot
  have HSZ := hid hsz
  clear hown2 hgrow2 hat2 hb2 hmp hot hsz hc
  refine wp_region_held_drew (S := fun wx => Fd wx D M p q i o) (by kernel_rfl) hfd (fun hHeld => ?_)
  refine wpAnyH_take (i := 0) (oi := { dst := some 11, op := Go.Op.move (Go.Operand.tmp 0), type := 90, pos := "l06_graph.go:150", after := #[], guard := none }) (v := .pointer (some ⟨D, 0, none⟩)) rfl (by kernel_rfl) (by kernel_rfl) (by kernel_rfl) (fun _ _ _ h => h) (Or.inl ⟨by rfl, by intro w hSw; (try dsimp only at hSw); obtain ⟨s0, s1, s2⟩ := hSw; go_simp⟩) (by assumption) ?_
  simp only [Act.put, List.setIfInBounds_toArray, List.set_cons_zero, List.set_cons_succ]
  refine wpAnyH_take (i := 1) (oi := { dst := some 12, op := Go.Op.nilCheck (Go.Operand.tmp 11), type := 0, pos := "l06_graph.go:150", after := #[{ on := 0, ground := Go.Ground.data }], guard := none }) (v := .pointer (some ⟨D, 0, none⟩)) rfl (by kernel_rfl) (by kernel_rfl) (by kernel_rfl) (fun _ _ _ h => h) (Or.inl ⟨by rfl, by intro w hSw; (try dsimp only at hSw); obtain ⟨s0, s1, s2⟩ := hSw; go_simp⟩) (by assumption) ?_
  simp only [Act.put, List.setIfInBounds_toArray, List.set_cons_zero, List.set_cons_succ]
  refine wpAnyH_take (i := 2) (oi := { dst := some 13, op := Go.Op.fieldAddr 54 (Go.Operand.tmp 12) 2, type := 0, pos := "l06_graph.go:150", after := #[{ on := 1, ground := Go.Ground.data }], guard := none }) (v := .pointer (some ⟨D, 2, none⟩)) rfl (by kernel_rfl) (by kernel_rfl) (by kernel_rfl) (fun _ _ _ h => h) (Or.inl ⟨by rfl, by intro w hSw; (try dsimp only at hSw); obtain ⟨s0, s1, s2⟩ := hSw; go_simp⟩) (by assumption) ?_
  simp only [Act.put, List.setIfInBounds_toArray, List.set_cons_zero, List.set_cons_succ]
  refine wpAnyH_take (i := 3) (oi := { dst := some 14, op := Go.Op.load 51 (Go.Operand.tmp 13), type := 51, pos := "l06_graph.go:150", after := #[{ on := 2, ground := Go.Ground.data }], guard := none }) (v := .map (some M)) rfl (by kernel_rfl) (by kernel_rfl) (by kernel_rfl) (fun _ _ _ h => h) (Or.inl ⟨by rfl, by intro w hSw; (try dsimp only at hSw); obtain ⟨s0, s1, s2⟩ := hSw; go_simp⟩) (by assumption) ?_
  simp only [Act.put, List.setIfInBounds_toArray, List.set_cons_zero, List.set_cons_succ]
  refine wpAnyH_take (i := 4) (oi := { dst := some 15, op := Go.Op.move (Go.Operand.tmp 1), type := 55, pos := "l06_graph.go:150", after := #[], guard := none }) (v := .pointer (some ⟨p, 0, none⟩)) rfl (by kernel_rfl) (by kernel_rfl) (by kernel_rfl) (fun _ _ _ h => h) (Or.inl ⟨by rfl, by intro w hSw; (try dsimp only at hSw); obtain ⟨s0, s1, s2⟩ := hSw; go_simp⟩) (by assumption) ?_
  simp only [Act.put, List.setIfInBounds_toArray, List.set_cons_zero, List.set_cons_succ]
  refine wpAnyH_take (i := 5) (oi := { dst := some 16, op := Go.Op.nilCheck (Go.Operand.tmp 15), type := 0, pos := "l06_graph.go:150", after := #[{ on := 4, ground := Go.Ground.data }], guard := none }) (v := .pointer (some ⟨p, 0, none⟩)) rfl (by kernel_rfl) (by kernel_rfl) (by kernel_rfl) (fun _ _ _ h => h) (Or.inl ⟨by rfl, by intro w hSw; (try dsimp only at hSw); obtain ⟨s0, s1, s2⟩ := hSw; go_simp⟩) (by assumption) ?_
  simp only [Act.put, List.setIfInBounds_toArray, List.set_cons_zero, List.set_cons_succ]
  refine wpAnyH_take (i := 6) (oi := { dst := some 17, op := Go.Op.fieldAddr 96 (Go.Operand.tmp 16) 1, type := 0, pos := "l06_graph.go:150", after := #[{ on := 5, ground := Go.Ground.data }], guard := none }) (v := .pointer (some ⟨p, 5, none⟩)) rfl (by kernel_rfl) (by kernel_rfl) (by kernel_rfl) (fun _ _ _ h => h) (Or.inl ⟨by rfl, by intro w hSw; (try dsimp only at hSw); obtain ⟨s0, s1, s2⟩ := hSw; go_simp⟩) (by assumption) ?_
  simp only [Act.put, List.setIfInBounds_toArray, List.set_cons_zero, List.set_cons_succ]
  refine wpAnyH_take (i := 7) (oi := { dst := some 18, op := Go.Op.load 2 (Go.Operand.tmp 17), type := 2, pos := "l06_graph.go:150", after := #[{ on := 6, ground := Go.Ground.data }], guard := none }) (v := .int .i64 (i : Int)) rfl (by kernel_rfl) (by kernel_rfl) (by kernel_rfl) (fun _ _ _ h => h) (Or.inl ⟨by rfl, by intro w hSw; (try dsimp only at hSw); obtain ⟨s0, s1, s2⟩ := hSw; go_simp⟩) (by assumption) ?_
  simp only [Act.put, List.setIfInBounds_toArray, List.set_cons_zero, List.set_cons_succ]
  refine wpAnyH_take (i := 8) (oi := { dst := some 19, op := Go.Op.move (Go.Operand.tmp 2), type := 55, pos := "l06_graph.go:150", after := #[], guard := none }) (v := .pointer (some ⟨q, 0, none⟩)) rfl (by kernel_rfl) (by kernel_rfl) (by kernel_rfl) (fun _ _ _ h => h) (Or.inl ⟨by rfl, by intro w hSw; (try dsimp only at hSw); obtain ⟨s0, s1, s2⟩ := hSw; go_simp⟩) (by assumption) ?_
  simp only [Act.put, List.setIfInBounds_toArray, List.set_cons_zero, List.set_cons_succ]
  refine wpAnyH_take (i := 9) (oi := { dst := some 20, op := Go.Op.nilCheck (Go.Operand.tmp 19), type := 0, pos := "l06_graph.go:150", after := #[{ on := 8, ground := Go.Ground.data }], guard := none }) (v := .pointer (some ⟨q, 0, none⟩)) rfl (by kernel_rfl) (by kernel_rfl) (by kernel_rfl) (fun _ _ _ h => h) (Or.inl ⟨by rfl, by intro w hSw; (try dsimp only at hSw); obtain ⟨s0, s1, s2⟩ := hSw; go_simp⟩) (by assumption) ?_
  simp only [Act.put, List.setIfInBounds_toArray, List.set_cons_zero, List.set_cons_succ]
  refine wpAnyH_take (i := 10) (oi := { dst := some 21, op := Go.Op.fieldAddr 96 (Go.Operand.tmp 20) 1, type := 0, pos := "l06_graph.go:150", after := #[{ on := 9, ground := Go.Ground.data }], guard := none }) (v := .pointer (some ⟨q, 5, none⟩)) rfl (by kernel_rfl) (by kernel_rfl) (by kernel_rfl) (fun _ _ _ h => h) (Or.inl ⟨by rfl, by intro w hSw; (try dsimp only at hSw); obtain ⟨s0, s1, s2⟩ := hSw; go_simp⟩) (by assumption) ?_
  simp only [Act.put, List.setIfInBounds_toArray, List.set_cons_zero, List.set_cons_succ]
  refine wpAnyH_take (i := 11) (oi := { dst := some 22, op := Go.Op.load 2 (Go.Operand.tmp 21), type := 2, pos := "l06_graph.go:150", after := #[{ on := 10, ground := Go.Ground.data }], guard := none }) (v := .int .i64 (o : Int)) rfl (by kernel_rfl) (by kernel_rfl) (by kernel_rfl) (fun _ _ _ h => h) (Or.inl ⟨by rfl, by intro w hSw; (try dsimp only at hSw); obtain ⟨s0, s1, s2⟩ := hSw; go_simp⟩) (by assumption) ?_
  simp only [Act.put, List.setIfInBounds_toArray, List.set_cons_zero, List.set_cons_succ]
  refine wpAnyH_take (i := 12) (oi := { dst := some 23, op := Go.Op.build 103 #[(0, Go.Operand.tmp 18), (1, Go.Operand.tmp 22)], type := 103, pos := "l06_graph.go:150", after := #[{ on := 7, ground := Go.Ground.data }, { on := 11, ground := Go.Ground.data }], guard := none }) (v := .agg #[.int .i64 (i : Int), .int .i64 (o : Int)]) rfl (by kernel_rfl) (by kernel_rfl) (by kernel_rfl) (fun _ _ _ h => h) (Or.inl ⟨by rfl, by intro w hSw; (try dsimp only at hSw); obtain ⟨s0, s1, s2⟩ := hSw; go_simp⟩) (by assumption) ?_
  simp only [Act.put, List.setIfInBounds_toArray, List.set_cons_zero, List.set_cons_succ]
  refine wpAnyH_take (i := 13) (oi := { dst := some 24, op := Go.Op.move (Go.Operand.tmp 1), type := 55, pos := "l06_graph.go:150", after := #[], guard := none }) (v := .pointer (some ⟨p, 0, none⟩)) rfl (by kernel_rfl) (by kernel_rfl) (by kernel_rfl) (fun _ _ _ h => h) (Or.inl ⟨by rfl, by intro w hSw; (try dsimp only at hSw); obtain ⟨s0, s1, s2⟩ := hSw; go_simp⟩) (by assumption) ?_
  simp only [Act.put, List.setIfInBounds_toArray, List.set_cons_zero, List.set_cons_succ]
  refine wpAnyH_take (i := 14) (oi := { dst := some 25, op := Go.Op.nilCheck (Go.Operand.tmp 24), type := 0, pos := "l06_graph.go:150", after := #[{ on := 13, ground := Go.Ground.data }], guard := none }) (v := .pointer (some ⟨p, 0, none⟩)) rfl (by kernel_rfl) (by kernel_rfl) (by kernel_rfl) (fun _ _ _ h => h) (Or.inl ⟨by rfl, by intro w hSw; (try dsimp only at hSw); obtain ⟨s0, s1, s2⟩ := hSw; go_simp⟩) (by assumption) ?_
  simp only [Act.put, List.setIfInBounds_toArray, List.set_cons_zero, List.set_cons_succ]
  refine wpAnyH_take (i := 15) (oi := { dst := some 26, op := Go.Op.fieldAddr 96 (Go.Operand.tmp 25) 1, type := 0, pos := "l06_graph.go:150", after := #[{ on := 14, ground := Go.Ground.data }], guard := none }) (v := .pointer (some ⟨p, 5, none⟩)) rfl (by kernel_rfl) (by kernel_rfl) (by kernel_rfl) (fun _ _ _ h => h) (Or.inl ⟨by rfl, by intro w hSw; (try dsimp only at hSw); obtain ⟨s0, s1, s2⟩ := hSw; go_simp⟩) (by assumption) ?_
  simp only [Act.put, List.setIfInBounds_toArray, List.set_cons_zero, List.set_cons_succ]
  refine wpAnyH_take (i := 16) (oi := { dst := some 27, op := Go.Op.load 2 (Go.Operand.tmp 26), type := 2, pos := "l06_graph.go:150", after := #[{ on := 15, ground := Go.Ground.data }], guard := none }) (v := .int .i64 (i : Int)) rfl (by kernel_rfl) (by kernel_rfl) (by kernel_rfl) (fun _ _ _ h => h) (Or.inl ⟨by rfl, by intro w hSw; (try dsimp only at hSw); obtain ⟨s0, s1, s2⟩ := hSw; go_simp⟩) (by assumption) ?_
  simp only [Act.put, List.setIfInBounds_toArray, List.set_cons_zero, List.set_cons_succ]
  refine wpAnyH_take (i := 17) (oi := { dst := some 28, op := Go.Op.move (Go.Operand.tmp 2), type := 55, pos := "l06_graph.go:150", after := #[], guard := none }) (v := .pointer (some ⟨q, 0, none⟩)) rfl (by kernel_rfl) (by kernel_rfl) (by kernel_rfl) (fun _ _ _ h => h) (Or.inl ⟨by rfl, by intro w hSw; (try dsimp only at hSw); obtain ⟨s0, s1, s2⟩ := hSw; go_simp⟩) (by assumption) ?_
  simp only [Act.put, List.setIfInBounds_toArray, List.set_cons_zero, List.set_cons_succ]
  refine wpAnyH_take (i := 18) (oi := { dst := some 29, op := Go.Op.nilCheck (Go.Operand.tmp 28), type := 0, pos := "l06_graph.go:150", after := #[{ on := 17, ground := Go.Ground.data }], guard := none }) (v := .pointer (some ⟨q, 0, none⟩)) rfl (by kernel_rfl) (by kernel_rfl) (by kernel_rfl) (fun _ _ _ h => h) (Or.inl ⟨by rfl, by intro w hSw; (try dsimp only at hSw); obtain ⟨s0, s1, s2⟩ := hSw; go_simp⟩) (by assumption) ?_
  simp only [Act.put, List.setIfInBounds_toArray, List.set_cons_zero, List.set_cons_succ]
  refine wpAnyH_take (i := 19) (oi := { dst := some 30, op := Go.Op.fieldAddr 96 (Go.Operand.tmp 29) 1, type := 0, pos := "l06_graph.go:150", after := #[{ on := 18, ground := Go.Ground.data }], guard := none }) (v := .pointer (some ⟨q, 5, none⟩)) rfl (by kernel_rfl) (by kernel_rfl) (by kernel_rfl) (fun _ _ _ h => h) (Or.inl ⟨by rfl, by intro w hSw; (try dsimp only at hSw); obtain ⟨s0, s1, s2⟩ := hSw; go_simp⟩) (by assumption) ?_
  simp only [Act.put, List.setIfInBounds_toArray, List.set_cons_zero, List.set_cons_succ]
  refine wpAnyH_take (i := 20) (oi := { dst := some 31, op := Go.Op.load 2 (Go.Operand.tmp 30), type := 2, pos := "l06_graph.go:150", after := #[{ on := 19, ground := Go.Ground.data }], guard := none }) (v := .int .i64 (o : Int)) rfl (by kernel_rfl) (by kernel_rfl) (by kernel_rfl) (fun _ _ _ h => h) (Or.inl ⟨by rfl, by intro w hSw; (try dsimp only at hSw); obtain ⟨s0, s1, s2⟩ := hSw; go_simp⟩) (by assumption) ?_
  simp only [Act.put, List.setIfInBounds_toArray, List.set_cons_zero, List.set_cons_succ]
  refine wpAnyH_take (i := 21) (oi := { dst := some 32, op := Go.Op.move (Go.Operand.tmp 8), type := 44, pos := "l06_graph.go:150", after := #[], guard := none }) (v := .slice a2 c.length c2) rfl (by kernel_rfl) (by kernel_rfl) (by kernel_rfl) (fun _ _ _ h => h) (Or.inl ⟨by rfl, by intro w hSw; (try dsimp only at hSw); obtain ⟨s0, s1, s2⟩ := hSw; go_simp⟩) (by assumption) ?_
  simp only [Act.put, List.setIfInBounds_toArray, List.set_cons_zero, List.set_cons_succ]
  refine wpAnyH_take (i := 22) (oi := { dst := some 33, op := Go.Op.build 101 #[(0, Go.Operand.tmp 27), (1, Go.Operand.tmp 31), (2, Go.Operand.tmp 32)], type := 101, pos := "l06_graph.go:150", after := #[{ on := 16, ground := Go.Ground.data }, { on := 20, ground := Go.Ground.data }, { on := 21, ground := Go.Ground.data }], guard := none }) (v := .agg #[.int .i64 (i : Int), .int .i64 (o : Int), .slice a2 c.length c2]) rfl (by kernel_rfl) (by kernel_rfl) (by kernel_rfl) (fun _ _ _ h => h) (Or.inl ⟨by rfl, by intro w hSw; (try dsimp only at hSw); obtain ⟨s0, s1, s2⟩ := hSw; go_simp⟩) (by assumption) ?_
  simp only [Act.put, List.setIfInBounds_toArray, List.set_cons_zero, List.set_cons_succ]
  refine wpAnyH_ready (rs := [23]) (by kernel_rfl) (by simp) ?_
  refine (AllReadyH.cons (o := { dst := none, op := Go.Op.mapUpdate 51 (Go.Operand.tmp 14) (Go.Operand.tmp 23) (Go.Operand.tmp 33), type := 0, pos := "l06_graph.go:150", after := #[{ on := 3, ground := Go.Ground.data }, { on := 12, ground := Go.Ground.data }, { on := 22, ground := Go.Ground.data }, { on := 0, ground := Go.Ground.phase }, { on := 1, ground := Go.Ground.phase }, { on := 2, ground := Go.Ground.phase }, { on := 3, ground := Go.Ground.phase }, { on := 4, ground := Go.Ground.phase }, { on := 5, ground := Go.Ground.phase }, { on := 6, ground := Go.Ground.phase }, { on := 7, ground := Go.Ground.phase }, { on := 8, ground := Go.Ground.phase }, { on := 9, ground := Go.Ground.phase }, { on := 10, ground := Go.Ground.phase }, { on := 11, ground := Go.Ground.phase }, { on := 12, ground := Go.Ground.phase }, { on := 13, ground := Go.Ground.phase }, { on := 14, ground := Go.Ground.phase }, { on := 15, ground := Go.Ground.phase }, { on := 16, ground := Go.Ground.phase }, { on := 17, ground := Go.Ground.phase }, { on := 18, ground := Go.Ground.phase }, { on := 19, ground := Go.Ground.phase }, { on := 20, ground := Go.Ground.phase }, { on := 21, ground := Go.Ground.phase }, { on := 22, ground := Go.Ground.phase }], guard := none }) rfl (fun K hK => ?_) AllReadyH.nil)
  refine step_put (by rfl) _ _ _ _ (by rfl) (by rfl) (by rfl) (by rfl) hrun ?_
  refine hK.out _ _ hfd3 (fun hHeld => ?_)
  clear hK K
  try simp only [Act.put]
  refine wpAnyH_done (by kernel_rfl) ?_ _
  have HR := hid (drawn_flow (x := ⟨(i : Int), (o : Int), c⟩) HX.out HB2.out HO2.out HMP.out HOT.out HSZ.out)
  generalize setBlock w2.drew M ob = w4 at *
  clear hfd hfd2 hfd3 hfd0 hrun hHeld
  go_end0
  exact ⟨⟨_, rfl⟩, _, HR.out⟩
end Gr
end Go.Proofs.YtfgckeoigkoflaaGreatDoor
