/- A step that comes to one node, as the specification draws it. -/
import Derived.Test.YtfgckeoigkoflaaGreatDoorJGraphOf13
import Derived.Test.YtfgckeoigkoflaaGreatDoorJGraphOf33
namespace Go.Proofs.YtfgckeoigkoflaaGreatDoor
open Go.RowKit
set_option linter.unusedVariables false
namespace Gr
open Ex (hid nvals nval nvals_len infoNode at_of_owns owns_keep)
open Nd (NodeD)
open Gn (GNodeD)
open Fl (FlowD)
open St (StepD)
open Nst (own flat)
open Pf (PJ PJ_eq kidsL)
open Rc
structure Stp (w : World) (b o : Nat) (s : StepD) (ve : Value) : Prop where
  k2 : w.cell? ⟨b, o + 2, none⟩ = some (.string s.name)
  k3 : w.cell? ⟨b, o + 3, none⟩ = some (.int .i64 s.arg)
  k5 : w.cell? ⟨b, o + 5, none⟩ = some ve
theorem cell_lt {w : World} {b o : Nat} {v : Value} (h : w.cell? ⟨b, o, none⟩ = some v) : b < w.heap.size := by
  rcases Nat.lt_or_ge b w.heap.size with h1 | h1
  · exact h1
  · simp [World.cell?, Array.getElem?_eq_none h1] at h
theorem Stp.below {w w' : World} {b o : Nat} {s : StepD} {ve : Value} (h : Stp w b o s ve) (hb : Below w.heap.size w w') : Stp w' b o s ve := ⟨old_cell hb (cell_lt h.k2) h.k2, old_cell hb (cell_lt h.k2) h.k3, old_cell hb (cell_lt h.k2) h.k5⟩
theorem Stp.fr {w w' : World} {b o P : Nat} {S S' : Nat → Prop} {s : StepD} {ve : Value} (h : Stp w b o s ve) (hf : Fr w w' P S S') (hP : b ≠ P) (hN : ¬ S b) : Stp w' b o s ve := by
  have e := hf.blk b (cell_lt h.k2) hP hN
  have f : ∀ q, w'.cell? ⟨b, q, none⟩ = w.cell? ⟨b, q, none⟩ := fun q => by simp only [World.cell?]; rw [e]
  exact ⟨(f _).trans h.k2, (f _).trans h.k3, (f _).trans h.k5⟩
set_option maxRecDepth 100000 in
set_option maxHeartbeats 16000000 in
theorem specLone (P B0 : Nat) (S : Nat → Prop) (g : GraphD) (ss : List StepD) (k : Nat) (v : Value) (wp w : World) (h : GB w P S g) (hs : St.At wp B0 v ss) (hwp : wp.heap.size ≤ P) (hb : Below wp.heap.size wp w) (hk : k < ss.length) (hl : ss.length ≤ 24) (he : ss[k].expr.length ≤ 100000) (hn : g.nodes.length ≤ 1000000000000)
    (hkd : ss[k].kind = 2 ∨ ss[k].kind = 5 ∨ ss[k].kind = 6 ∨ ss[k].kind = 7) :
    Calls Tryz.prog 33 #[.pointer (some ⟨P, 0, none⟩), v, .int .i64 (k : Int)] w fun e w' => e = .returned (.tuple #[.int .i64 (g.nodes.length : Int), .int .i64 (g.nodes.length : Int)]) ∧ ∃ S', GB w' P S' (loneG ss g k).1 ∧ Fr w w' P S S' := by
  obtain ⟨j0, hj, hy0, hy1, hy2⟩ := inf_parts2 infoNode
  have HLG : Hid ((loneG ss g k).1 = ⟨g.nodes ++ [⟨loneK ss[k].kind, (k : Int), ss[k].name, ss[k].arg, ss[k].expr⟩], g.flows⟩) := hid (by unfold loneG addN; rw [PJ_eq hk])
  obtain ⟨aq, cq, rfl⟩ := hs.slice
  obtain ⟨g1, o1, vc1, ve1, rfl, hg1, p0, p1, p2, p3, p4, p5, hc1, he1⟩ := hs.at hk
  obtain ⟨ae, ce, rfl⟩ := he1.slice
  have q1 : (k : Int) < (ss.length : Int) := by omega
  have b0 := old_cell hb hg1 p0
  have st0 : Stp w g1 (o1 + k * 6) ss[k] (.slice ae ss[k].expr.length ce) := ⟨old_cell hb hg1 p2, old_cell hb hg1 p3, old_cell hb hg1 p5⟩
  have hg1w := Nat.lt_of_lt_of_le hg1 hb.size
  have HER := hid (row_of_at (he1.below hb))
  have HG := hid h
  have hPs : g1 ≠ P := by omega
  have hNs : ¬ S g1 := fun e => by have := h.owns g1 e; omega
  clear h hs hb p0 p1 p2 p3 p4 p5 hc1 he1
  have hKL : loneK ss[k].kind = 3 ∨ loneK ss[k].kind = 4 ∨ loneK ss[k].kind = 5 ∨ loneK ss[k].kind = 6 := by
    unfold loneK
    rcases hkd with e | e | e | e <;> rw [e] <;> simp
  rcases hkd with hkd | hkd | hkd | hkd
  · have hlk : loneK ss[k].kind = 3 := by rw [hkd]; rfl
    rw [hlk] at HLG
    rw [hkd] at b0
    clear hKL hkd hlk
    have hB1 : Below w.heap.size w (w.alloc (.cells #[.int .i64 0, .int .i64 0, .int .i64 3, .int .i64 0, .int .i64 0, .int .i64 4, .int .i64 5, .int .i64 6] 2)) := (Below.refl _ w).alloc (Nat.le_refl _) _
    have HB1 := hid hB1
    have HG1 := hid (HG.out.below hB1)
    have hst1 := st0.below hB1
    have HER1 := hid (Row_kept HER.out hB1)
    clear hB1 st0 HG
    go_enter Tryz.func33, Tryz.ntmps33
    go_wp2
    generalize w.alloc (.cells #[.int .i64 0, .int .i64 0, .int .i64 3, .int .i64 0, .int .i64 0, .int .i64 4, .int .i64 5, .int .i64 6] 2) = w1 at *
    have hst : Stp w1.drew g1 (o1 + k * 6) ss[k] (.slice ae ss[k].expr.length ce) := ⟨hst1.k2, hst1.k3, hst1.k5⟩
    have hal : Below w1.heap.size w1 (w1.alloc (.cells #[] 115)).drew := ((Below.refl _ w1).alloc (Nat.le_refl _) _).drew
    have hst2 := hst1.below hal
    have hown0 : (w1.alloc (.cells #[] 115)).drew.ownsRow w1.heap.size 115 4 (.slice (some ⟨w1.heap.size, 0, none⟩) 0 0) 0 [] := (World.ownsRow_made w1 #[] 0 (Nat.le_refl _) (by unfold maxLen; omega) rfl).drew
    have hrow0 := Row_kept HER1.out hal
    refine wp_region_held_drew (S := fun wx => Stp wx g1 (o1 + k * 6) ss[k] (.slice ae ss[k].expr.length ce)) (by kernel_rfl) hst (fun hHeld => ?_)
    refine wpAnyH_take (i := 0) (oi := { dst := some 92, op := Go.Op.move (Go.Operand.tmp 0), type := 76, pos := "l06_graph.go:75", after := #[], guard := none }) (v := .pointer (some ⟨P, 0, none⟩)) rfl (by kernel_rfl) (by kernel_rfl) (by kernel_rfl) (fun _ _ _ h => h) (Or.inl ⟨by rfl, by intro w hSw; (try dsimp only at hSw); obtain ⟨s0, s1, s2⟩ := hSw; go_simp⟩) (by assumption) ?_
    simp only [Act.put, List.setIfInBounds_toArray, List.set_cons_zero, List.set_cons_succ]
    refine wpAnyH_take (i := 1) (oi := { dst := some 93, op := Go.Op.move (Go.Operand.tmp 15), type := 2, pos := "l06_graph.go:75", after := #[], guard := none }) (v := .int .i64 (3)) rfl (by kernel_rfl) (by kernel_rfl) (by kernel_rfl) (fun _ _ _ h => h) (Or.inl ⟨by rfl, by intro w hSw; (try dsimp only at hSw); obtain ⟨s0, s1, s2⟩ := hSw; go_simp⟩) (by assumption) ?_
    simp only [Act.put, List.setIfInBounds_toArray, List.set_cons_zero, List.set_cons_succ]
    refine wpAnyH_take (i := 2) (oi := { dst := some 94, op := Go.Op.move (Go.Operand.tmp 2), type := 2, pos := "l06_graph.go:75", after := #[], guard := none }) (v := .int .i64 (k : Int)) rfl (by kernel_rfl) (by kernel_rfl) (by kernel_rfl) (fun _ _ _ h => h) (Or.inl ⟨by rfl, by intro w hSw; (try dsimp only at hSw); obtain ⟨s0, s1, s2⟩ := hSw; go_simp⟩) (by assumption) ?_
    simp only [Act.put, List.setIfInBounds_toArray, List.set_cons_zero, List.set_cons_succ]
    refine wpAnyH_take (i := 3) (oi := { dst := some 95, op := Go.Op.move (Go.Operand.tmp 8), type := 118, pos := "l06_graph.go:75", after := #[], guard := none }) (v := .pointer (some ⟨g1, o1 + k * 6, none⟩)) rfl (by kernel_rfl) (by kernel_rfl) (by kernel_rfl) (fun _ _ _ h => h) (Or.inl ⟨by rfl, by intro w hSw; (try dsimp only at hSw); obtain ⟨s0, s1, s2⟩ := hSw; go_simp⟩) (by assumption) ?_
    simp only [Act.put, List.setIfInBounds_toArray, List.set_cons_zero, List.set_cons_succ]
    refine wpAnyH_take (i := 4) (oi := { dst := some 96, op := Go.Op.nilCheck (Go.Operand.tmp 95), type := 0, pos := "l06_graph.go:75", after := #[{ on := 3, ground := Go.Ground.data }], guard := none }) (v := .pointer (some ⟨g1, o1 + k * 6, none⟩)) rfl (by kernel_rfl) (by kernel_rfl) (by kernel_rfl) (fun _ _ _ h => h) (Or.inl ⟨by rfl, by intro w hSw; (try dsimp only at hSw); obtain ⟨s0, s1, s2⟩ := hSw; go_simp⟩) (by assumption) ?_
    simp only [Act.put, List.setIfInBounds_toArray, List.set_cons_zero, List.set_cons_succ]
    refine wpAnyH_take (i := 5) (oi := { dst := some 97, op := Go.Op.fieldAddr 46 (Go.Operand.tmp 96) 2, type := 0, pos := "l06_graph.go:75", after := #[{ on := 4, ground := Go.Ground.data }], guard := none }) (v := .pointer (some ⟨g1, o1 + k * 6 + 2, none⟩)) rfl (by kernel_rfl) (by kernel_rfl) (by kernel_rfl) (fun _ _ _ h => h) (Or.inl ⟨by rfl, by intro w hSw; (try dsimp only at hSw); obtain ⟨s0, s1, s2⟩ := hSw; go_simp⟩) (by assumption) ?_
    simp only [Act.put, List.setIfInBounds_toArray, List.set_cons_zero, List.set_cons_succ]
    refine wpAnyH_take (i := 6) (oi := { dst := some 98, op := Go.Op.load 9 (Go.Operand.tmp 97), type := 9, pos := "l06_graph.go:75", after := #[{ on := 5, ground := Go.Ground.data }], guard := none }) (v := .string ss[k].name) rfl (by kernel_rfl) (by kernel_rfl) (by kernel_rfl) (fun _ _ _ h => h) (Or.inl ⟨by rfl, by intro w hSw; (try dsimp only at hSw); obtain ⟨s0, s1, s2⟩ := hSw; go_simp⟩) (by assumption) ?_
    simp only [Act.put, List.setIfInBounds_toArray, List.set_cons_zero, List.set_cons_succ]
    refine wpAnyH_take (i := 7) (oi := { dst := some 99, op := Go.Op.move (Go.Operand.tmp 8), type := 118, pos := "l06_graph.go:75", after := #[], guard := none }) (v := .pointer (some ⟨g1, o1 + k * 6, none⟩)) rfl (by kernel_rfl) (by kernel_rfl) (by kernel_rfl) (fun _ _ _ h => h) (Or.inl ⟨by rfl, by intro w hSw; (try dsimp only at hSw); obtain ⟨s0, s1, s2⟩ := hSw; go_simp⟩) (by assumption) ?_
    simp only [Act.put, List.setIfInBounds_toArray, List.set_cons_zero, List.set_cons_succ]
    refine wpAnyH_take (i := 8) (oi := { dst := some 100, op := Go.Op.nilCheck (Go.Operand.tmp 99), type := 0, pos := "l06_graph.go:75", after := #[{ on := 7, ground := Go.Ground.data }], guard := none }) (v := .pointer (some ⟨g1, o1 + k * 6, none⟩)) rfl (by kernel_rfl) (by kernel_rfl) (by kernel_rfl) (fun _ _ _ h => h) (Or.inl ⟨by rfl, by intro w hSw; (try dsimp only at hSw); obtain ⟨s0, s1, s2⟩ := hSw; go_simp⟩) (by assumption) ?_
    simp only [Act.put, List.setIfInBounds_toArray, List.set_cons_zero, List.set_cons_succ]
    refine wpAnyH_take (i := 9) (oi := { dst := some 101, op := Go.Op.fieldAddr 46 (Go.Operand.tmp 100) 3, type := 0, pos := "l06_graph.go:75", after := #[{ on := 8, ground := Go.Ground.data }], guard := none }) (v := .pointer (some ⟨g1, o1 + k * 6 + 3, none⟩)) rfl (by kernel_rfl) (by kernel_rfl) (by kernel_rfl) (fun _ _ _ h => h) (Or.inl ⟨by rfl, by intro w hSw; (try dsimp only at hSw); obtain ⟨s0, s1, s2⟩ := hSw; go_simp⟩) (by assumption) ?_
    simp only [Act.put, List.setIfInBounds_toArray, List.set_cons_zero, List.set_cons_succ]
    refine wpAnyH_take (i := 10) (oi := { dst := some 102, op := Go.Op.load 2 (Go.Operand.tmp 101), type := 2, pos := "l06_graph.go:75", after := #[{ on := 9, ground := Go.Ground.data }], guard := none }) (v := .int .i64 ss[k].arg) rfl (by kernel_rfl) (by kernel_rfl) (by kernel_rfl) (fun _ _ _ h => h) (Or.inl ⟨by rfl, by intro w hSw; (try dsimp only at hSw); obtain ⟨s0, s1, s2⟩ := hSw; go_simp⟩) (by assumption) ?_
    simp only [Act.put, List.setIfInBounds_toArray, List.set_cons_zero, List.set_cons_succ]
    refine wpAnyH_take (i := 12) (oi := { dst := some 104, op := Go.Op.move (Go.Operand.tmp 8), type := 118, pos := "l06_graph.go:75", after := #[], guard := none }) (v := .pointer (some ⟨g1, o1 + k * 6, none⟩)) rfl (by kernel_rfl) (by kernel_rfl) (by kernel_rfl) (fun _ _ _ h => h) (Or.inl ⟨by rfl, by intro w hSw; (try dsimp only at hSw); obtain ⟨s0, s1, s2⟩ := hSw; go_simp⟩) (by assumption) ?_
    simp only [Act.put, List.setIfInBounds_toArray, List.set_cons_zero, List.set_cons_succ]
    refine wpAnyH_take (i := 13) (oi := { dst := some 105, op := Go.Op.nilCheck (Go.Operand.tmp 104), type := 0, pos := "l06_graph.go:75", after := #[{ on := 12, ground := Go.Ground.data }], guard := none }) (v := .pointer (some ⟨g1, o1 + k * 6, none⟩)) rfl (by kernel_rfl) (by kernel_rfl) (by kernel_rfl) (fun _ _ _ h => h) (Or.inl ⟨by rfl, by intro w hSw; (try dsimp only at hSw); obtain ⟨s0, s1, s2⟩ := hSw; go_simp⟩) (by assumption) ?_
    simp only [Act.put, List.setIfInBounds_toArray, List.set_cons_zero, List.set_cons_succ]
    refine wpAnyH_take (i := 14) (oi := { dst := some 106, op := Go.Op.fieldAddr 46 (Go.Operand.tmp 105) 5, type := 0, pos := "l06_graph.go:75", after := #[{ on := 13, ground := Go.Ground.data }], guard := none }) (v := .pointer (some ⟨g1, o1 + k * 6 + 5, none⟩)) rfl (by kernel_rfl) (by kernel_rfl) (by kernel_rfl) (fun _ _ _ h => h) (Or.inl ⟨by rfl, by intro w hSw; (try dsimp only at hSw); obtain ⟨s0, s1, s2⟩ := hSw; go_simp⟩) (by assumption) ?_
    simp only [Act.put, List.setIfInBounds_toArray, List.set_cons_zero, List.set_cons_succ]
    refine wpAnyH_take (i := 15) (oi := { dst := some 107, op := Go.Op.load 44 (Go.Operand.tmp 106), type := 44, pos := "l06_graph.go:75", after := #[{ on := 14, ground := Go.Ground.data }], guard := none }) (v := .slice ae ss[k].expr.length ce) rfl (by kernel_rfl) (by kernel_rfl) (by kernel_rfl) (fun _ _ _ h => h) (Or.inl ⟨by rfl, by intro w hSw; (try dsimp only at hSw); obtain ⟨s0, s1, s2⟩ := hSw; go_simp⟩) (by assumption) ?_
    simp only [Act.put, List.setIfInBounds_toArray, List.set_cons_zero, List.set_cons_succ]
    refine wpAnyH_ready (rs := [11]) (by kernel_rfl) (by simp) ?_
    refine (AllReadyH.cons (o := { dst := some 103, op := Go.Op.buildSlice 44 0 #[], type := 44, pos := "l06_graph.go:75", after := #[], guard := none }) rfl (fun K hK => ?_) AllReadyH.nil)
    go_simp
    refine hK.out _ _ hst2 (fun hHeld => ?_)
    clear hK K
    try simp only [Act.put, List.setIfInBounds_toArray, List.set_cons_zero, List.set_cons_succ]
    refine wpAnyH_ready (rs := [16]) (by kernel_rfl) (by simp) ?_
    refine (AllReadyH.cons (o := { dst := some 108, op := Go.Op.call { callee := Go.Callee.builtin Go.Builtin.append, args := #[Go.Operand.tmp 103, Go.Operand.tmp 107], argTypes := #[44, 44] }, type := 44, pos := "l06_graph.go:75", after := #[{ on := 11, ground := Go.Ground.data }, { on := 15, ground := Go.Ground.data }], guard := none }) rfl (fun K hK => ?_) AllReadyH.nil)
    refine Ap.step_any _ (by rfl) _ _ 44 (by rfl) w1.heap.size 115 j0 _ 4 32 Tryz.underlying44 hj hy0 hy1 hy2 rfl (by omega) (.slice (some ⟨w1.heap.size, 0, none⟩) 0 0) 0 [] (by rfl) hown0 (.slice ae ss[k].expr.length ce) ss[k].expr.length (nvals ss[k].expr) (by rfl) hrow0 (by unfold maxLen; omega) (by omega) (by simp) (w1.heap.size + 1) (by simp) ?_
    intro a2 c2 w2 hown2 hgrow2 hat2
    simp only [Nat.zero_add, List.nil_append] at hown2
    have hB2 : Below w1.heap.size w1 w2 := hal.grown hgrow2 (by simp) (fun b e => by cases e; exact Nat.le_refl _)
    have hst3 := hst1.below hB2
    have HG2 := hid (HG1.out.below hB2)
    have HO2 := hid hown2
    have HB2 := hid hB2
    clear hown2 hgrow2 hat2
    refine hK.out _ _ hst3 (fun hHeld => ?_)
    clear hK K
    try simp only [Act.put, List.setIfInBounds_toArray, List.set_cons_zero, List.set_cons_succ]
    refine wpAnyH_take (i := 17) (oi := { dst := some 109, op := Go.Op.build 78 #[(0, Go.Operand.tmp 93), (1, Go.Operand.tmp 94), (2, Go.Operand.tmp 98), (3, Go.Operand.tmp 102), (4, Go.Operand.tmp 108)], type := 78, pos := "l06_graph.go:75", after := #[{ on := 1, ground := Go.Ground.data }, { on := 2, ground := Go.Ground.data }, { on := 6, ground := Go.Ground.data }, { on := 10, ground := Go.Ground.data }, { on := 16, ground := Go.Ground.data }], guard := none }) (v := .agg #[.int .i64 (3), .int .i64 (k : Int), .string ss[k].name, .int .i64 ss[k].arg, .slice a2 ss[k].expr.length c2]) rfl (by kernel_rfl) (by kernel_rfl) (by kernel_rfl) (fun _ _ _ h => h) (Or.inl ⟨by rfl, by intro w hSw; (try dsimp only at hSw); obtain ⟨s0, s1, s2⟩ := hSw; go_simp⟩) (by assumption) ?_
    simp only [Act.put, List.setIfInBounds_toArray, List.set_cons_zero, List.set_cons_succ]
    refine wpAnyH_ready (rs := [18]) (by kernel_rfl) (by simp) ?_
    refine (AllReadyH.cons (o := { dst := some 110, op := Go.Op.call { callee := Go.Callee.value (Go.Operand.func 32), args := #[Go.Operand.tmp 92, Go.Operand.tmp 109], argTypes := #[76, 78] }, type := 2, pos := "l06_graph.go:75", after := #[{ on := 0, ground := Go.Ground.data }, { on := 17, ground := Go.Ground.data }, { on := 16, ground := Go.Ground.chain }], guard := none }) rfl (fun K hK => ?_) AllReadyH.nil)
    go_simp
    go_at_call 32
    refine (specNode P S g ⟨3, (k : Int), ss[k].name, ss[k].arg, ss[k].expr⟩ _ w1 w2 HG1.out HB2.out HO2.out hn).mono ?_
    rintro e w3 ⟨rfl, N3, hG3, hF3⟩
    have hst4 := hst1.fr hF3 hPs hNs
    have HG3 := hid hG3
    have HF3 := hid hF3
    clear hG3 hF3
    go_wp2_with fail
    refine hK.out _ _ hst4 (fun hHeld => ?_)
    clear hK K
    try simp only [Act.put, List.setIfInBounds_toArray, List.set_cons_zero, List.set_cons_succ]
    refine wpAnyH_take (i := 19) (oi := { dst := some 16, op := Go.Op.assign (Go.Operand.tmp 110), type := 2, pos := "l06_graph.go:75", after := #[{ on := 18, ground := Go.Ground.data }, { on := 18, ground := Go.Ground.chain }, { on := 0, ground := Go.Ground.phase }, { on := 1, ground := Go.Ground.phase }, { on := 2, ground := Go.Ground.phase }, { on := 3, ground := Go.Ground.phase }, { on := 4, ground := Go.Ground.phase }, { on := 5, ground := Go.Ground.phase }, { on := 6, ground := Go.Ground.phase }, { on := 7, ground := Go.Ground.phase }, { on := 8, ground := Go.Ground.phase }, { on := 9, ground := Go.Ground.phase }, { on := 10, ground := Go.Ground.phase }, { on := 11, ground := Go.Ground.phase }, { on := 12, ground := Go.Ground.phase }, { on := 13, ground := Go.Ground.phase }, { on := 14, ground := Go.Ground.phase }, { on := 15, ground := Go.Ground.phase }, { on := 16, ground := Go.Ground.phase }, { on := 17, ground := Go.Ground.phase }, { on := 18, ground := Go.Ground.phase }], guard := none }) (v := .int .i64 (g.nodes.length : Int)) rfl (by kernel_rfl) (by kernel_rfl) (by kernel_rfl) (fun _ _ _ h => h) (Or.inl ⟨by rfl, by intro w hSw; (try dsimp only at hSw); obtain ⟨s0, s1, s2⟩ := hSw; go_simp⟩) (by assumption) ?_
    simp only [Act.put, List.setIfInBounds_toArray, List.set_cons_zero, List.set_cons_succ]
    refine wpAnyH_done (by kernel_rfl) ?_ _
    clear hst hst1 hst2 hst3 hst4 hal hown0 hrow0 hHeld
    go_wp2
    go_ret2
    exact ⟨rfl, N3, by rw [HLG.out]; exact HG3.out, (Fr.of_below HB1.out).trans HF3.out⟩
  · have hlk : loneK ss[k].kind = 4 := by rw [hkd]; rfl
    rw [hlk] at HLG
    rw [hkd] at b0
    clear hKL hkd hlk
    have hB1 : Below w.heap.size w (w.alloc (.cells #[.int .i64 0, .int .i64 0, .int .i64 3, .int .i64 0, .int .i64 0, .int .i64 4, .int .i64 5, .int .i64 6] 2)) := (Below.refl _ w).alloc (Nat.le_refl _) _
    have HB1 := hid hB1
    have HG1 := hid (HG.out.below hB1)
    have hst1 := st0.below hB1
    have HER1 := hid (Row_kept HER.out hB1)
    clear hB1 st0 HG
    go_enter Tryz.func33, Tryz.ntmps33
    go_wp2
    generalize w.alloc (.cells #[.int .i64 0, .int .i64 0, .int .i64 3, .int .i64 0, .int .i64 0, .int .i64 4, .int .i64 5, .int .i64 6] 2) = w1 at *
    have hst : Stp w1.drew g1 (o1 + k * 6) ss[k] (.slice ae ss[k].expr.length ce) := ⟨hst1.k2, hst1.k3, hst1.k5⟩
    have hal : Below w1.heap.size w1 (w1.alloc (.cells #[] 115)).drew := ((Below.refl _ w1).alloc (Nat.le_refl _) _).drew
    have hst2 := hst1.below hal
    have hown0 : (w1.alloc (.cells #[] 115)).drew.ownsRow w1.heap.size 115 4 (.slice (some ⟨w1.heap.size, 0, none⟩) 0 0) 0 [] := (World.ownsRow_made w1 #[] 0 (Nat.le_refl _) (by unfold maxLen; omega) rfl).drew
    have hrow0 := Row_kept HER1.out hal
    refine wp_region_held_drew (S := fun wx => Stp wx g1 (o1 + k * 6) ss[k] (.slice ae ss[k].expr.length ce)) (by kernel_rfl) hst (fun hHeld => ?_)
    refine wpAnyH_take (i := 0) (oi := { dst := some 92, op := Go.Op.move (Go.Operand.tmp 0), type := 76, pos := "l06_graph.go:75", after := #[], guard := none }) (v := .pointer (some ⟨P, 0, none⟩)) rfl (by kernel_rfl) (by kernel_rfl) (by kernel_rfl) (fun _ _ _ h => h) (Or.inl ⟨by rfl, by intro w hSw; (try dsimp only at hSw); obtain ⟨s0, s1, s2⟩ := hSw; go_simp⟩) (by assumption) ?_
    simp only [Act.put, List.setIfInBounds_toArray, List.set_cons_zero, List.set_cons_succ]
    refine wpAnyH_take (i := 1) (oi := { dst := some 93, op := Go.Op.move (Go.Operand.tmp 15), type := 2, pos := "l06_graph.go:75", after := #[], guard := none }) (v := .int .i64 (4)) rfl (by kernel_rfl) (by kernel_rfl) (by kernel_rfl) (fun _ _ _ h => h) (Or.inl ⟨by rfl, by intro w hSw; (try dsimp only at hSw); obtain ⟨s0, s1, s2⟩ := hSw; go_simp⟩) (by assumption) ?_
    simp only [Act.put, List.setIfInBounds_toArray, List.set_cons_zero, List.set_cons_succ]
    refine wpAnyH_take (i := 2) (oi := { dst := some 94, op := Go.Op.move (Go.Operand.tmp 2), type := 2, pos := "l06_graph.go:75", after := #[], guard := none }) (v := .int .i64 (k : Int)) rfl (by kernel_rfl) (by kernel_rfl) (by kernel_rfl) (fun _ _ _ h => h) (Or.inl ⟨by rfl, by intro w hSw; (try dsimp only at hSw); obtain ⟨s0, s1, s2⟩ := hSw; go_simp⟩) (by assumption) ?_
    simp only [Act.put, List.setIfInBounds_toArray, List.set_cons_zero, List.set_cons_succ]
    refine wpAnyH_take (i := 3) (oi := { dst := some 95, op := Go.Op.move (Go.Operand.tmp 8), type := 118, pos := "l06_graph.go:75", after := #[], guard := none }) (v := .pointer (some ⟨g1, o1 + k * 6, none⟩)) rfl (by kernel_rfl) (by kernel_rfl) (by kernel_rfl) (fun _ _ _ h => h) (Or.inl ⟨by rfl, by intro w hSw; (try dsimp only at hSw); obtain ⟨s0, s1, s2⟩ := hSw; go_simp⟩) (by assumption) ?_
    simp only [Act.put, List.setIfInBounds_toArray, List.set_cons_zero, List.set_cons_succ]
    refine wpAnyH_take (i := 4) (oi := { dst := some 96, op := Go.Op.nilCheck (Go.Operand.tmp 95), type := 0, pos := "l06_graph.go:75", after := #[{ on := 3, ground := Go.Ground.data }], guard := none }) (v := .pointer (some ⟨g1, o1 + k * 6, none⟩)) rfl (by kernel_rfl) (by kernel_rfl) (by kernel_rfl) (fun _ _ _ h => h) (Or.inl ⟨by rfl, by intro w hSw; (try dsimp only at hSw); obtain ⟨s0, s1, s2⟩ := hSw; go_simp⟩) (by assumption) ?_
    simp only [Act.put, List.setIfInBounds_toArray, List.set_cons_zero, List.set_cons_succ]
    refine wpAnyH_take (i := 5) (oi := { dst := some 97, op := Go.Op.fieldAddr 46 (Go.Operand.tmp 96) 2, type := 0, pos := "l06_graph.go:75", after := #[{ on := 4, ground := Go.Ground.data }], guard := none }) (v := .pointer (some ⟨g1, o1 + k * 6 + 2, none⟩)) rfl (by kernel_rfl) (by kernel_rfl) (by kernel_rfl) (fun _ _ _ h => h) (Or.inl ⟨by rfl, by intro w hSw; (try dsimp only at hSw); obtain ⟨s0, s1, s2⟩ := hSw; go_simp⟩) (by assumption) ?_
    simp only [Act.put, List.setIfInBounds_toArray, List.set_cons_zero, List.set_cons_succ]
    refine wpAnyH_take (i := 6) (oi := { dst := some 98, op := Go.Op.load 9 (Go.Operand.tmp 97), type := 9, pos := "l06_graph.go:75", after := #[{ on := 5, ground := Go.Ground.data }], guard := none }) (v := .string ss[k].name) rfl (by kernel_rfl) (by kernel_rfl) (by kernel_rfl) (fun _ _ _ h => h) (Or.inl ⟨by rfl, by intro w hSw; (try dsimp only at hSw); obtain ⟨s0, s1, s2⟩ := hSw; go_simp⟩) (by assumption) ?_
    simp only [Act.put, List.setIfInBounds_toArray, List.set_cons_zero, List.set_cons_succ]
    refine wpAnyH_take (i := 7) (oi := { dst := some 99, op := Go.Op.move (Go.Operand.tmp 8), type := 118, pos := "l06_graph.go:75", after := #[], guard := none }) (v := .pointer (some ⟨g1, o1 + k * 6, none⟩)) rfl (by kernel_rfl) (by kernel_rfl) (by kernel_rfl) (fun _ _ _ h => h) (Or.inl ⟨by rfl, by intro w hSw; (try dsimp only at hSw); obtain ⟨s0, s1, s2⟩ := hSw; go_simp⟩) (by assumption) ?_
    simp only [Act.put, List.setIfInBounds_toArray, List.set_cons_zero, List.set_cons_succ]
    refine wpAnyH_take (i := 8) (oi := { dst := some 100, op := Go.Op.nilCheck (Go.Operand.tmp 99), type := 0, pos := "l06_graph.go:75", after := #[{ on := 7, ground := Go.Ground.data }], guard := none }) (v := .pointer (some ⟨g1, o1 + k * 6, none⟩)) rfl (by kernel_rfl) (by kernel_rfl) (by kernel_rfl) (fun _ _ _ h => h) (Or.inl ⟨by rfl, by intro w hSw; (try dsimp only at hSw); obtain ⟨s0, s1, s2⟩ := hSw; go_simp⟩) (by assumption) ?_
    simp only [Act.put, List.setIfInBounds_toArray, List.set_cons_zero, List.set_cons_succ]
    refine wpAnyH_take (i := 9) (oi := { dst := some 101, op := Go.Op.fieldAddr 46 (Go.Operand.tmp 100) 3, type := 0, pos := "l06_graph.go:75", after := #[{ on := 8, ground := Go.Ground.data }], guard := none }) (v := .pointer (some ⟨g1, o1 + k * 6 + 3, none⟩)) rfl (by kernel_rfl) (by kernel_rfl) (by kernel_rfl) (fun _ _ _ h => h) (Or.inl ⟨by rfl, by intro w hSw; (try dsimp only at hSw); obtain ⟨s0, s1, s2⟩ := hSw; go_simp⟩) (by assumption) ?_
    simp only [Act.put, List.setIfInBounds_toArray, List.set_cons_zero, List.set_cons_succ]
    refine wpAnyH_take (i := 10) (oi := { dst := some 102, op := Go.Op.load 2 (Go.Operand.tmp 101), type := 2, pos := "l06_graph.go:75", after := #[{ on := 9, ground := Go.Ground.data }], guard := none }) (v := .int .i64 ss[k].arg) rfl (by kernel_rfl) (by kernel_rfl) (by kernel_rfl) (fun _ _ _ h => h) (Or.inl ⟨by rfl, by intro w hSw; (try dsimp only at hSw); obtain ⟨s0, s1, s2⟩ := hSw; go_simp⟩) (by assumption) ?_
    simp only [Act.put, List.setIfInBounds_toArray, List.set_cons_zero, List.set_cons_succ]
    refine wpAnyH_take (i := 12) (oi := { dst := some 104, op := Go.Op.move (Go.Operand.tmp 8), type := 118, pos := "l06_graph.go:75", after := #[], guard := none }) (v := .pointer (some ⟨g1, o1 + k * 6, none⟩)) rfl (by kernel_rfl) (by kernel_rfl) (by kernel_rfl) (fun _ _ _ h => h) (Or.inl ⟨by rfl, by intro w hSw; (try dsimp only at hSw); obtain ⟨s0, s1, s2⟩ := hSw; go_simp⟩) (by assumption) ?_
    simp only [Act.put, List.setIfInBounds_toArray, List.set_cons_zero, List.set_cons_succ]
    refine wpAnyH_take (i := 13) (oi := { dst := some 105, op := Go.Op.nilCheck (Go.Operand.tmp 104), type := 0, pos := "l06_graph.go:75", after := #[{ on := 12, ground := Go.Ground.data }], guard := none }) (v := .pointer (some ⟨g1, o1 + k * 6, none⟩)) rfl (by kernel_rfl) (by kernel_rfl) (by kernel_rfl) (fun _ _ _ h => h) (Or.inl ⟨by rfl, by intro w hSw; (try dsimp only at hSw); obtain ⟨s0, s1, s2⟩ := hSw; go_simp⟩) (by assumption) ?_
    simp only [Act.put, List.setIfInBounds_toArray, List.set_cons_zero, List.set_cons_succ]
    refine wpAnyH_take (i := 14) (oi := { dst := some 106, op := Go.Op.fieldAddr 46 (Go.Operand.tmp 105) 5, type := 0, pos := "l06_graph.go:75", after := #[{ on := 13, ground := Go.Ground.data }], guard := none }) (v := .pointer (some ⟨g1, o1 + k * 6 + 5, none⟩)) rfl (by kernel_rfl) (by kernel_rfl) (by kernel_rfl) (fun _ _ _ h => h) (Or.inl ⟨by rfl, by intro w hSw; (try dsimp only at hSw); obtain ⟨s0, s1, s2⟩ := hSw; go_simp⟩) (by assumption) ?_
    simp only [Act.put, List.setIfInBounds_toArray, List.set_cons_zero, List.set_cons_succ]
    refine wpAnyH_take (i := 15) (oi := { dst := some 107, op := Go.Op.load 44 (Go.Operand.tmp 106), type := 44, pos := "l06_graph.go:75", after := #[{ on := 14, ground := Go.Ground.data }], guard := none }) (v := .slice ae ss[k].expr.length ce) rfl (by kernel_rfl) (by kernel_rfl) (by kernel_rfl) (fun _ _ _ h => h) (Or.inl ⟨by rfl, by intro w hSw; (try dsimp only at hSw); obtain ⟨s0, s1, s2⟩ := hSw; go_simp⟩) (by assumption) ?_
    simp only [Act.put, List.setIfInBounds_toArray, List.set_cons_zero, List.set_cons_succ]
    refine wpAnyH_ready (rs := [11]) (by kernel_rfl) (by simp) ?_
    refine (AllReadyH.cons (o := { dst := some 103, op := Go.Op.buildSlice 44 0 #[], type := 44, pos := "l06_graph.go:75", after := #[], guard := none }) rfl (fun K hK => ?_) AllReadyH.nil)
    go_simp
    refine hK.out _ _ hst2 (fun hHeld => ?_)
    clear hK K
    try simp only [Act.put, List.setIfInBounds_toArray, List.set_cons_zero, List.set_cons_succ]
    refine wpAnyH_ready (rs := [16]) (by kernel_rfl) (by simp) ?_
    refine (AllReadyH.cons (o := { dst := some 108, op := Go.Op.call { callee := Go.Callee.builtin Go.Builtin.append, args := #[Go.Operand.tmp 103, Go.Operand.tmp 107], argTypes := #[44, 44] }, type := 44, pos := "l06_graph.go:75", after := #[{ on := 11, ground := Go.Ground.data }, { on := 15, ground := Go.Ground.data }], guard := none }) rfl (fun K hK => ?_) AllReadyH.nil)
    refine Ap.step_any _ (by rfl) _ _ 44 (by rfl) w1.heap.size 115 j0 _ 4 32 Tryz.underlying44 hj hy0 hy1 hy2 rfl (by omega) (.slice (some ⟨w1.heap.size, 0, none⟩) 0 0) 0 [] (by rfl) hown0 (.slice ae ss[k].expr.length ce) ss[k].expr.length (nvals ss[k].expr) (by rfl) hrow0 (by unfold maxLen; omega) (by omega) (by simp) (w1.heap.size + 1) (by simp) ?_
    intro a2 c2 w2 hown2 hgrow2 hat2
    simp only [Nat.zero_add, List.nil_append] at hown2
    have hB2 : Below w1.heap.size w1 w2 := hal.grown hgrow2 (by simp) (fun b e => by cases e; exact Nat.le_refl _)
    have hst3 := hst1.below hB2
    have HG2 := hid (HG1.out.below hB2)
    have HO2 := hid hown2
    have HB2 := hid hB2
    clear hown2 hgrow2 hat2
    refine hK.out _ _ hst3 (fun hHeld => ?_)
    clear hK K
    try simp only [Act.put, List.setIfInBounds_toArray, List.set_cons_zero, List.set_cons_succ]
    refine wpAnyH_take (i := 17) (oi := { dst := some 109, op := Go.Op.build 78 #[(0, Go.Operand.tmp 93), (1, Go.Operand.tmp 94), (2, Go.Operand.tmp 98), (3, Go.Operand.tmp 102), (4, Go.Operand.tmp 108)], type := 78, pos := "l06_graph.go:75", after := #[{ on := 1, ground := Go.Ground.data }, { on := 2, ground := Go.Ground.data }, { on := 6, ground := Go.Ground.data }, { on := 10, ground := Go.Ground.data }, { on := 16, ground := Go.Ground.data }], guard := none }) (v := .agg #[.int .i64 (4), .int .i64 (k : Int), .string ss[k].name, .int .i64 ss[k].arg, .slice a2 ss[k].expr.length c2]) rfl (by kernel_rfl) (by kernel_rfl) (by kernel_rfl) (fun _ _ _ h => h) (Or.inl ⟨by rfl, by intro w hSw; (try dsimp only at hSw); obtain ⟨s0, s1, s2⟩ := hSw; go_simp⟩) (by assumption) ?_
    simp only [Act.put, List.setIfInBounds_toArray, List.set_cons_zero, List.set_cons_succ]
    refine wpAnyH_ready (rs := [18]) (by kernel_rfl) (by simp) ?_
    refine (AllReadyH.cons (o := { dst := some 110, op := Go.Op.call { callee := Go.Callee.value (Go.Operand.func 32), args := #[Go.Operand.tmp 92, Go.Operand.tmp 109], argTypes := #[76, 78] }, type := 2, pos := "l06_graph.go:75", after := #[{ on := 0, ground := Go.Ground.data }, { on := 17, ground := Go.Ground.data }, { on := 16, ground := Go.Ground.chain }], guard := none }) rfl (fun K hK => ?_) AllReadyH.nil)
    go_simp
    go_at_call 32
    refine (specNode P S g ⟨4, (k : Int), ss[k].name, ss[k].arg, ss[k].expr⟩ _ w1 w2 HG1.out HB2.out HO2.out hn).mono ?_
    rintro e w3 ⟨rfl, N3, hG3, hF3⟩
    have hst4 := hst1.fr hF3 hPs hNs
    have HG3 := hid hG3
    have HF3 := hid hF3
    clear hG3 hF3
    go_wp2_with fail
    refine hK.out _ _ hst4 (fun hHeld => ?_)
    clear hK K
    try simp only [Act.put, List.setIfInBounds_toArray, List.set_cons_zero, List.set_cons_succ]
    refine wpAnyH_take (i := 19) (oi := { dst := some 16, op := Go.Op.assign (Go.Operand.tmp 110), type := 2, pos := "l06_graph.go:75", after := #[{ on := 18, ground := Go.Ground.data }, { on := 18, ground := Go.Ground.chain }, { on := 0, ground := Go.Ground.phase }, { on := 1, ground := Go.Ground.phase }, { on := 2, ground := Go.Ground.phase }, { on := 3, ground := Go.Ground.phase }, { on := 4, ground := Go.Ground.phase }, { on := 5, ground := Go.Ground.phase }, { on := 6, ground := Go.Ground.phase }, { on := 7, ground := Go.Ground.phase }, { on := 8, ground := Go.Ground.phase }, { on := 9, ground := Go.Ground.phase }, { on := 10, ground := Go.Ground.phase }, { on := 11, ground := Go.Ground.phase }, { on := 12, ground := Go.Ground.phase }, { on := 13, ground := Go.Ground.phase }, { on := 14, ground := Go.Ground.phase }, { on := 15, ground := Go.Ground.phase }, { on := 16, ground := Go.Ground.phase }, { on := 17, ground := Go.Ground.phase }, { on := 18, ground := Go.Ground.phase }], guard := none }) (v := .int .i64 (g.nodes.length : Int)) rfl (by kernel_rfl) (by kernel_rfl) (by kernel_rfl) (fun _ _ _ h => h) (Or.inl ⟨by rfl, by intro w hSw; (try dsimp only at hSw); obtain ⟨s0, s1, s2⟩ := hSw; go_simp⟩) (by assumption) ?_
    simp only [Act.put, List.setIfInBounds_toArray, List.set_cons_zero, List.set_cons_succ]
    refine wpAnyH_done (by kernel_rfl) ?_ _
    clear hst hst1 hst2 hst3 hst4 hal hown0 hrow0 hHeld
    go_wp2
    go_ret2
    exact ⟨rfl, N3, by rw [HLG.out]; exact HG3.out, (Fr.of_below HB1.out).trans HF3.out⟩
  · have hlk : loneK ss[k].kind = 5 := by rw [hkd]; rfl
    rw [hlk] at HLG
    rw [hkd] at b0
    clear hKL hkd hlk
    have hB1 : Below w.heap.size w (w.alloc (.cells #[.int .i64 0, .int .i64 0, .int .i64 3, .int .i64 0, .int .i64 0, .int .i64 4, .int .i64 5, .int .i64 6] 2)) := (Below.refl _ w).alloc (Nat.le_refl _) _
    have HB1 := hid hB1
    have HG1 := hid (HG.out.below hB1)
    have hst1 := st0.below hB1
    have HER1 := hid (Row_kept HER.out hB1)
    clear hB1 st0 HG
    go_enter Tryz.func33, Tryz.ntmps33
    go_wp2
    generalize w.alloc (.cells #[.int .i64 0, .int .i64 0, .int .i64 3, .int .i64 0, .int .i64 0, .int .i64 4, .int .i64 5, .int .i64 6] 2) = w1 at *
    have hst : Stp w1.drew g1 (o1 + k * 6) ss[k] (.slice ae ss[k].expr.length ce) := ⟨hst1.k2, hst1.k3, hst1.k5⟩
    have hal : Below w1.heap.size w1 (w1.alloc (.cells #[] 115)).drew := ((Below.refl _ w1).alloc (Nat.le_refl _) _).drew
    have hst2 := hst1.below hal
    have hown0 : (w1.alloc (.cells #[] 115)).drew.ownsRow w1.heap.size 115 4 (.slice (some ⟨w1.heap.size, 0, none⟩) 0 0) 0 [] := (World.ownsRow_made w1 #[] 0 (Nat.le_refl _) (by unfold maxLen; omega) rfl).drew
    have hrow0 := Row_kept HER1.out hal
    refine wp_region_held_drew (S := fun wx => Stp wx g1 (o1 + k * 6) ss[k] (.slice ae ss[k].expr.length ce)) (by kernel_rfl) hst (fun hHeld => ?_)
    refine wpAnyH_take (i := 0) (oi := { dst := some 92, op := Go.Op.move (Go.Operand.tmp 0), type := 76, pos := "l06_graph.go:75", after := #[], guard := none }) (v := .pointer (some ⟨P, 0, none⟩)) rfl (by kernel_rfl) (by kernel_rfl) (by kernel_rfl) (fun _ _ _ h => h) (Or.inl ⟨by rfl, by intro w hSw; (try dsimp only at hSw); obtain ⟨s0, s1, s2⟩ := hSw; go_simp⟩) (by assumption) ?_
    simp only [Act.put, List.setIfInBounds_toArray, List.set_cons_zero, List.set_cons_succ]
    refine wpAnyH_take (i := 1) (oi := { dst := some 93, op := Go.Op.move (Go.Operand.tmp 15), type := 2, pos := "l06_graph.go:75", after := #[], guard := none }) (v := .int .i64 (5)) rfl (by kernel_rfl) (by kernel_rfl) (by kernel_rfl) (fun _ _ _ h => h) (Or.inl ⟨by rfl, by intro w hSw; (try dsimp only at hSw); obtain ⟨s0, s1, s2⟩ := hSw; go_simp⟩) (by assumption) ?_
    simp only [Act.put, List.setIfInBounds_toArray, List.set_cons_zero, List.set_cons_succ]
    refine wpAnyH_take (i := 2) (oi := { dst := some 94, op := Go.Op.move (Go.Operand.tmp 2), type := 2, pos := "l06_graph.go:75", after := #[], guard := none }) (v := .int .i64 (k : Int)) rfl (by kernel_rfl) (by kernel_rfl) (by kernel_rfl) (fun _ _ _ h => h) (Or.inl ⟨by rfl, by intro w hSw; (try dsimp only at hSw); obtain ⟨s0, s1, s2⟩ := hSw; go_simp⟩) (by assumption) ?_
    simp only [Act.put, List.setIfInBounds_toArray, List.set_cons_zero, List.set_cons_succ]
    refine wpAnyH_take (i := 3) (oi := { dst := some 95, op := Go.Op.move (Go.Operand.tmp 8), type := 118, pos := "l06_graph.go:75", after := #[], guard := none }) (v := .pointer (some ⟨g1, o1 + k * 6, none⟩)) rfl (by kernel_rfl) (by kernel_rfl) (by kernel_rfl) (fun _ _ _ h => h) (Or.inl ⟨by rfl, by intro w hSw; (try dsimp only at hSw); obtain ⟨s0, s1, s2⟩ := hSw; go_simp⟩) (by assumption) ?_
    simp only [Act.put, List.setIfInBounds_toArray, List.set_cons_zero, List.set_cons_succ]
    refine wpAnyH_take (i := 4) (oi := { dst := some 96, op := Go.Op.nilCheck (Go.Operand.tmp 95), type := 0, pos := "l06_graph.go:75", after := #[{ on := 3, ground := Go.Ground.data }], guard := none }) (v := .pointer (some ⟨g1, o1 + k * 6, none⟩)) rfl (by kernel_rfl) (by kernel_rfl) (by kernel_rfl) (fun _ _ _ h => h) (Or.inl ⟨by rfl, by intro w hSw; (try dsimp only at hSw); obtain ⟨s0, s1, s2⟩ := hSw; go_simp⟩) (by assumption) ?_
    simp only [Act.put, List.setIfInBounds_toArray, List.set_cons_zero, List.set_cons_succ]
    refine wpAnyH_take (i := 5) (oi := { dst := some 97, op := Go.Op.fieldAddr 46 (Go.Operand.tmp 96) 2, type := 0, pos := "l06_graph.go:75", after := #[{ on := 4, ground := Go.Ground.data }], guard := none }) (v := .pointer (some ⟨g1, o1 + k * 6 + 2, none⟩)) rfl (by kernel_rfl) (by kernel_rfl) (by kernel_rfl) (fun _ _ _ h => h) (Or.inl ⟨by rfl, by intro w hSw; (try dsimp only at hSw); obtain ⟨s0, s1, s2⟩ := hSw; go_simp⟩) (by assumption) ?_
    simp only [Act.put, List.setIfInBounds_toArray, List.set_cons_zero, List.set_cons_succ]
    refine wpAnyH_take (i := 6) (oi := { dst := some 98, op := Go.Op.load 9 (Go.Operand.tmp 97), type := 9, pos := "l06_graph.go:75", after := #[{ on := 5, ground := Go.Ground.data }], guard := none }) (v := .string ss[k].name) rfl (by kernel_rfl) (by kernel_rfl) (by kernel_rfl) (fun _ _ _ h => h) (Or.inl ⟨by rfl, by intro w hSw; (try dsimp only at hSw); obtain ⟨s0, s1, s2⟩ := hSw; go_simp⟩) (by assumption) ?_
    simp only [Act.put, List.setIfInBounds_toArray, List.set_cons_zero, List.set_cons_succ]
    refine wpAnyH_take (i := 7) (oi := { dst := some 99, op := Go.Op.move (Go.Operand.tmp 8), type := 118, pos := "l06_graph.go:75", after := #[], guard := none }) (v := .pointer (some ⟨g1, o1 + k * 6, none⟩)) rfl (by kernel_rfl) (by kernel_rfl) (by kernel_rfl) (fun _ _ _ h => h) (Or.inl ⟨by rfl, by intro w hSw; (try dsimp only at hSw); obtain ⟨s0, s1, s2⟩ := hSw; go_simp⟩) (by assumption) ?_
    simp only [Act.put, List.setIfInBounds_toArray, List.set_cons_zero, List.set_cons_succ]
    refine wpAnyH_take (i := 8) (oi := { dst := some 100, op := Go.Op.nilCheck (Go.Operand.tmp 99), type := 0, pos := "l06_graph.go:75", after := #[{ on := 7, ground := Go.Ground.data }], guard := none }) (v := .pointer (some ⟨g1, o1 + k * 6, none⟩)) rfl (by kernel_rfl) (by kernel_rfl) (by kernel_rfl) (fun _ _ _ h => h) (Or.inl ⟨by rfl, by intro w hSw; (try dsimp only at hSw); obtain ⟨s0, s1, s2⟩ := hSw; go_simp⟩) (by assumption) ?_
    simp only [Act.put, List.setIfInBounds_toArray, List.set_cons_zero, List.set_cons_succ]
    refine wpAnyH_take (i := 9) (oi := { dst := some 101, op := Go.Op.fieldAddr 46 (Go.Operand.tmp 100) 3, type := 0, pos := "l06_graph.go:75", after := #[{ on := 8, ground := Go.Ground.data }], guard := none }) (v := .pointer (some ⟨g1, o1 + k * 6 + 3, none⟩)) rfl (by kernel_rfl) (by kernel_rfl) (by kernel_rfl) (fun _ _ _ h => h) (Or.inl ⟨by rfl, by intro w hSw; (try dsimp only at hSw); obtain ⟨s0, s1, s2⟩ := hSw; go_simp⟩) (by assumption) ?_
    simp only [Act.put, List.setIfInBounds_toArray, List.set_cons_zero, List.set_cons_succ]
    refine wpAnyH_take (i := 10) (oi := { dst := some 102, op := Go.Op.load 2 (Go.Operand.tmp 101), type := 2, pos := "l06_graph.go:75", after := #[{ on := 9, ground := Go.Ground.data }], guard := none }) (v := .int .i64 ss[k].arg) rfl (by kernel_rfl) (by kernel_rfl) (by kernel_rfl) (fun _ _ _ h => h) (Or.inl ⟨by rfl, by intro w hSw; (try dsimp only at hSw); obtain ⟨s0, s1, s2⟩ := hSw; go_simp⟩) (by assumption) ?_
    simp only [Act.put, List.setIfInBounds_toArray, List.set_cons_zero, List.set_cons_succ]
    refine wpAnyH_take (i := 12) (oi := { dst := some 104, op := Go.Op.move (Go.Operand.tmp 8), type := 118, pos := "l06_graph.go:75", after := #[], guard := none }) (v := .pointer (some ⟨g1, o1 + k * 6, none⟩)) rfl (by kernel_rfl) (by kernel_rfl) (by kernel_rfl) (fun _ _ _ h => h) (Or.inl ⟨by rfl, by intro w hSw; (try dsimp only at hSw); obtain ⟨s0, s1, s2⟩ := hSw; go_simp⟩) (by assumption) ?_
    simp only [Act.put, List.setIfInBounds_toArray, List.set_cons_zero, List.set_cons_succ]
    refine wpAnyH_take (i := 13) (oi := { dst := some 105, op := Go.Op.nilCheck (Go.Operand.tmp 104), type := 0, pos := "l06_graph.go:75", after := #[{ on := 12, ground := Go.Ground.data }], guard := none }) (v := .pointer (some ⟨g1, o1 + k * 6, none⟩)) rfl (by kernel_rfl) (by kernel_rfl) (by kernel_rfl) (fun _ _ _ h => h) (Or.inl ⟨by rfl, by intro w hSw; (try dsimp only at hSw); obtain ⟨s0, s1, s2⟩ := hSw; go_simp⟩) (by assumption) ?_
    simp only [Act.put, List.setIfInBounds_toArray, List.set_cons_zero, List.set_cons_succ]
    refine wpAnyH_take (i := 14) (oi := { dst := some 106, op := Go.Op.fieldAddr 46 (Go.Operand.tmp 105) 5, type := 0, pos := "l06_graph.go:75", after := #[{ on := 13, ground := Go.Ground.data }], guard := none }) (v := .pointer (some ⟨g1, o1 + k * 6 + 5, none⟩)) rfl (by kernel_rfl) (by kernel_rfl) (by kernel_rfl) (fun _ _ _ h => h) (Or.inl ⟨by rfl, by intro w hSw; (try dsimp only at hSw); obtain ⟨s0, s1, s2⟩ := hSw; go_simp⟩) (by assumption) ?_
    simp only [Act.put, List.setIfInBounds_toArray, List.set_cons_zero, List.set_cons_succ]
    refine wpAnyH_take (i := 15) (oi := { dst := some 107, op := Go.Op.load 44 (Go.Operand.tmp 106), type := 44, pos := "l06_graph.go:75", after := #[{ on := 14, ground := Go.Ground.data }], guard := none }) (v := .slice ae ss[k].expr.length ce) rfl (by kernel_rfl) (by kernel_rfl) (by kernel_rfl) (fun _ _ _ h => h) (Or.inl ⟨by rfl, by intro w hSw; (try dsimp only at hSw); obtain ⟨s0, s1, s2⟩ := hSw; go_simp⟩) (by assumption) ?_
    simp only [Act.put, List.setIfInBounds_toArray, List.set_cons_zero, List.set_cons_succ]
    refine wpAnyH_ready (rs := [11]) (by kernel_rfl) (by simp) ?_
    refine (AllReadyH.cons (o := { dst := some 103, op := Go.Op.buildSlice 44 0 #[], type := 44, pos := "l06_graph.go:75", after := #[], guard := none }) rfl (fun K hK => ?_) AllReadyH.nil)
    go_simp
    refine hK.out _ _ hst2 (fun hHeld => ?_)
    clear hK K
    try simp only [Act.put, List.setIfInBounds_toArray, List.set_cons_zero, List.set_cons_succ]
    refine wpAnyH_ready (rs := [16]) (by kernel_rfl) (by simp) ?_
    refine (AllReadyH.cons (o := { dst := some 108, op := Go.Op.call { callee := Go.Callee.builtin Go.Builtin.append, args := #[Go.Operand.tmp 103, Go.Operand.tmp 107], argTypes := #[44, 44] }, type := 44, pos := "l06_graph.go:75", after := #[{ on := 11, ground := Go.Ground.data }, { on := 15, ground := Go.Ground.data }], guard := none }) rfl (fun K hK => ?_) AllReadyH.nil)
    refine Ap.step_any _ (by rfl) _ _ 44 (by rfl) w1.heap.size 115 j0 _ 4 32 Tryz.underlying44 hj hy0 hy1 hy2 rfl (by omega) (.slice (some ⟨w1.heap.size, 0, none⟩) 0 0) 0 [] (by rfl) hown0 (.slice ae ss[k].expr.length ce) ss[k].expr.length (nvals ss[k].expr) (by rfl) hrow0 (by unfold maxLen; omega) (by omega) (by simp) (w1.heap.size + 1) (by simp) ?_
    intro a2 c2 w2 hown2 hgrow2 hat2
    simp only [Nat.zero_add, List.nil_append] at hown2
    have hB2 : Below w1.heap.size w1 w2 := hal.grown hgrow2 (by simp) (fun b e => by cases e; exact Nat.le_refl _)
    have hst3 := hst1.below hB2
    have HG2 := hid (HG1.out.below hB2)
    have HO2 := hid hown2
    have HB2 := hid hB2
    clear hown2 hgrow2 hat2
    refine hK.out _ _ hst3 (fun hHeld => ?_)
    clear hK K
    try simp only [Act.put, List.setIfInBounds_toArray, List.set_cons_zero, List.set_cons_succ]
    refine wpAnyH_take (i := 17) (oi := { dst := some 109, op := Go.Op.build 78 #[(0, Go.Operand.tmp 93), (1, Go.Operand.tmp 94), (2, Go.Operand.tmp 98), (3, Go.Operand.tmp 102), (4, Go.Operand.tmp 108)], type := 78, pos := "l06_graph.go:75", after := #[{ on := 1, ground := Go.Ground.data }, { on := 2, ground := Go.Ground.data }, { on := 6, ground := Go.Ground.data }, { on := 10, ground := Go.Ground.data }, { on := 16, ground := Go.Ground.data }], guard := none }) (v := .agg #[.int .i64 (5), .int .i64 (k : Int), .string ss[k].name, .int .i64 ss[k].arg, .slice a2 ss[k].expr.length c2]) rfl (by kernel_rfl) (by kernel_rfl) (by kernel_rfl) (fun _ _ _ h => h) (Or.inl ⟨by rfl, by intro w hSw; (try dsimp only at hSw); obtain ⟨s0, s1, s2⟩ := hSw; go_simp⟩) (by assumption) ?_
    simp only [Act.put, List.setIfInBounds_toArray, List.set_cons_zero, List.set_cons_succ]
    refine wpAnyH_ready (rs := [18]) (by kernel_rfl) (by simp) ?_
    refine (AllReadyH.cons (o := { dst := some 110, op := Go.Op.call { callee := Go.Callee.value (Go.Operand.func 32), args := #[Go.Operand.tmp 92, Go.Operand.tmp 109], argTypes := #[76, 78] }, type := 2, pos := "l06_graph.go:75", after := #[{ on := 0, ground := Go.Ground.data }, { on := 17, ground := Go.Ground.data }, { on := 16, ground := Go.Ground.chain }], guard := none }) rfl (fun K hK => ?_) AllReadyH.nil)
    go_simp
    go_at_call 32
    refine (specNode P S g ⟨5, (k : Int), ss[k].name, ss[k].arg, ss[k].expr⟩ _ w1 w2 HG1.out HB2.out HO2.out hn).mono ?_
    rintro e w3 ⟨rfl, N3, hG3, hF3⟩
    have hst4 := hst1.fr hF3 hPs hNs
    have HG3 := hid hG3
    have HF3 := hid hF3
    clear hG3 hF3
    go_wp2_with fail
    refine hK.out _ _ hst4 (fun hHeld => ?_)
    clear hK K
    try simp only [Act.put, List.setIfInBounds_toArray, List.set_cons_zero, List.set_cons_succ]
    refine wpAnyH_take (i := 19) (oi := { dst := some 16, op := Go.Op.assign (Go.Operand.tmp 110), type := 2, pos := "l06_graph.go:75", after := #[{ on := 18, ground := Go.Ground.data }, { on := 18, ground := Go.Ground.chain }, { on := 0, ground := Go.Ground.phase }, { on := 1, ground := Go.Ground.phase }, { on := 2, ground := Go.Ground.phase }, { on := 3, ground := Go.Ground.phase }, { on := 4, ground := Go.Ground.phase }, { on := 5, ground := Go.Ground.phase }, { on := 6, ground := Go.Ground.phase }, { on := 7, ground := Go.Ground.phase }, { on := 8, ground := Go.Ground.phase }, { on := 9, ground := Go.Ground.phase }, { on := 10, ground := Go.Ground.phase }, { on := 11, ground := Go.Ground.phase }, { on := 12, ground := Go.Ground.phase }, { on := 13, ground := Go.Ground.phase }, { on := 14, ground := Go.Ground.phase }, { on := 15, ground := Go.Ground.phase }, { on := 16, ground := Go.Ground.phase }, { on := 17, ground := Go.Ground.phase }, { on := 18, ground := Go.Ground.phase }], guard := none }) (v := .int .i64 (g.nodes.length : Int)) rfl (by kernel_rfl) (by kernel_rfl) (by kernel_rfl) (fun _ _ _ h => h) (Or.inl ⟨by rfl, by intro w hSw; (try dsimp only at hSw); obtain ⟨s0, s1, s2⟩ := hSw; go_simp⟩) (by assumption) ?_
    simp only [Act.put, List.setIfInBounds_toArray, List.set_cons_zero, List.set_cons_succ]
    refine wpAnyH_done (by kernel_rfl) ?_ _
    clear hst hst1 hst2 hst3 hst4 hal hown0 hrow0 hHeld
    go_wp2
    go_ret2
    exact ⟨rfl, N3, by rw [HLG.out]; exact HG3.out, (Fr.of_below HB1.out).trans HF3.out⟩
  · have hlk : loneK ss[k].kind = 6 := by rw [hkd]; rfl
    rw [hlk] at HLG
    rw [hkd] at b0
    clear hKL hkd hlk
    have hB1 : Below w.heap.size w (w.alloc (.cells #[.int .i64 0, .int .i64 0, .int .i64 3, .int .i64 0, .int .i64 0, .int .i64 4, .int .i64 5, .int .i64 6] 2)) := (Below.refl _ w).alloc (Nat.le_refl _) _
    have HB1 := hid hB1
    have HG1 := hid (HG.out.below hB1)
    have hst1 := st0.below hB1
    have HER1 := hid (Row_kept HER.out hB1)
    clear hB1 st0 HG
    go_enter Tryz.func33, Tryz.ntmps33
    go_wp2
    generalize w.alloc (.cells #[.int .i64 0, .int .i64 0, .int .i64 3, .int .i64 0, .int .i64 0, .int .i64 4, .int .i64 5, .int .i64 6] 2) = w1 at *
    have hst : Stp w1.drew g1 (o1 + k * 6) ss[k] (.slice ae ss[k].expr.length ce) := ⟨hst1.k2, hst1.k3, hst1.k5⟩
    have hal : Below w1.heap.size w1 (w1.alloc (.cells #[] 115)).drew := ((Below.refl _ w1).alloc (Nat.le_refl _) _).drew
    have hst2 := hst1.below hal
    have hown0 : (w1.alloc (.cells #[] 115)).drew.ownsRow w1.heap.size 115 4 (.slice (some ⟨w1.heap.size, 0, none⟩) 0 0) 0 [] := (World.ownsRow_made w1 #[] 0 (Nat.le_refl _) (by unfold maxLen; omega) rfl).drew
    have hrow0 := Row_kept HER1.out hal
    refine wp_region_held_drew (S := fun wx => Stp wx g1 (o1 + k * 6) ss[k] (.slice ae ss[k].expr.length ce)) (by kernel_rfl) hst (fun hHeld => ?_)
    refine wpAnyH_take (i := 0) (oi := { dst := some 92, op := Go.Op.move (Go.Operand.tmp 0), type := 76, pos := "l06_graph.go:75", after := #[], guard := none }) (v := .pointer (some ⟨P, 0, none⟩)) rfl (by kernel_rfl) (by kernel_rfl) (by kernel_rfl) (fun _ _ _ h => h) (Or.inl ⟨by rfl, by intro w hSw; (try dsimp only at hSw); obtain ⟨s0, s1, s2⟩ := hSw; go_simp⟩) (by assumption) ?_
    simp only [Act.put, List.setIfInBounds_toArray, List.set_cons_zero, List.set_cons_succ]
    refine wpAnyH_take (i := 1) (oi := { dst := some 93, op := Go.Op.move (Go.Operand.tmp 15), type := 2, pos := "l06_graph.go:75", after := #[], guard := none }) (v := .int .i64 (6)) rfl (by kernel_rfl) (by kernel_rfl) (by kernel_rfl) (fun _ _ _ h => h) (Or.inl ⟨by rfl, by intro w hSw; (try dsimp only at hSw); obtain ⟨s0, s1, s2⟩ := hSw; go_simp⟩) (by assumption) ?_
    simp only [Act.put, List.setIfInBounds_toArray, List.set_cons_zero, List.set_cons_succ]
    refine wpAnyH_take (i := 2) (oi := { dst := some 94, op := Go.Op.move (Go.Operand.tmp 2), type := 2, pos := "l06_graph.go:75", after := #[], guard := none }) (v := .int .i64 (k : Int)) rfl (by kernel_rfl) (by kernel_rfl) (by kernel_rfl) (fun _ _ _ h => h) (Or.inl ⟨by rfl, by intro w hSw; (try dsimp only at hSw); obtain ⟨s0, s1, s2⟩ := hSw; go_simp⟩) (by assumption) ?_
    simp only [Act.put, List.setIfInBounds_toArray, List.set_cons_zero, List.set_cons_succ]
    refine wpAnyH_take (i := 3) (oi := { dst := some 95, op := Go.Op.move (Go.Operand.tmp 8), type := 118, pos := "l06_graph.go:75", after := #[], guard := none }) (v := .pointer (some ⟨g1, o1 + k * 6, none⟩)) rfl (by kernel_rfl) (by kernel_rfl) (by kernel_rfl) (fun _ _ _ h => h) (Or.inl ⟨by rfl, by intro w hSw; (try dsimp only at hSw); obtain ⟨s0, s1, s2⟩ := hSw; go_simp⟩) (by assumption) ?_
    simp only [Act.put, List.setIfInBounds_toArray, List.set_cons_zero, List.set_cons_succ]
    refine wpAnyH_take (i := 4) (oi := { dst := some 96, op := Go.Op.nilCheck (Go.Operand.tmp 95), type := 0, pos := "l06_graph.go:75", after := #[{ on := 3, ground := Go.Ground.data }], guard := none }) (v := .pointer (some ⟨g1, o1 + k * 6, none⟩)) rfl (by kernel_rfl) (by kernel_rfl) (by kernel_rfl) (fun _ _ _ h => h) (Or.inl ⟨by rfl, by intro w hSw; (try dsimp only at hSw); obtain ⟨s0, s1, s2⟩ := hSw; go_simp⟩) (by assumption) ?_
    simp only [Act.put, List.setIfInBounds_toArray, List.set_cons_zero, List.set_cons_succ]
    refine wpAnyH_take (i := 5) (oi := { dst := some 97, op := Go.Op.fieldAddr 46 (Go.Operand.tmp 96) 2, type := 0, pos := "l06_graph.go:75", after := #[{ on := 4, ground := Go.Ground.data }], guard := none }) (v := .pointer (some ⟨g1, o1 + k * 6 + 2, none⟩)) rfl (by kernel_rfl) (by kernel_rfl) (by kernel_rfl) (fun _ _ _ h => h) (Or.inl ⟨by rfl, by intro w hSw; (try dsimp only at hSw); obtain ⟨s0, s1, s2⟩ := hSw; go_simp⟩) (by assumption) ?_
    simp only [Act.put, List.setIfInBounds_toArray, List.set_cons_zero, List.set_cons_succ]
    refine wpAnyH_take (i := 6) (oi := { dst := some 98, op := Go.Op.load 9 (Go.Operand.tmp 97), type := 9, pos := "l06_graph.go:75", after := #[{ on := 5, ground := Go.Ground.data }], guard := none }) (v := .string ss[k].name) rfl (by kernel_rfl) (by kernel_rfl) (by kernel_rfl) (fun _ _ _ h => h) (Or.inl ⟨by rfl, by intro w hSw; (try dsimp only at hSw); obtain ⟨s0, s1, s2⟩ := hSw; go_simp⟩) (by assumption) ?_
    simp only [Act.put, List.setIfInBounds_toArray, List.set_cons_zero, List.set_cons_succ]
    refine wpAnyH_take (i := 7) (oi := { dst := some 99, op := Go.Op.move (Go.Operand.tmp 8), type := 118, pos := "l06_graph.go:75", after := #[], guard := none }) (v := .pointer (some ⟨g1, o1 + k * 6, none⟩)) rfl (by kernel_rfl) (by kernel_rfl) (by kernel_rfl) (fun _ _ _ h => h) (Or.inl ⟨by rfl, by intro w hSw; (try dsimp only at hSw); obtain ⟨s0, s1, s2⟩ := hSw; go_simp⟩) (by assumption) ?_
    simp only [Act.put, List.setIfInBounds_toArray, List.set_cons_zero, List.set_cons_succ]
    refine wpAnyH_take (i := 8) (oi := { dst := some 100, op := Go.Op.nilCheck (Go.Operand.tmp 99), type := 0, pos := "l06_graph.go:75", after := #[{ on := 7, ground := Go.Ground.data }], guard := none }) (v := .pointer (some ⟨g1, o1 + k * 6, none⟩)) rfl (by kernel_rfl) (by kernel_rfl) (by kernel_rfl) (fun _ _ _ h => h) (Or.inl ⟨by rfl, by intro w hSw; (try dsimp only at hSw); obtain ⟨s0, s1, s2⟩ := hSw; go_simp⟩) (by assumption) ?_
    simp only [Act.put, List.setIfInBounds_toArray, List.set_cons_zero, List.set_cons_succ]
    refine wpAnyH_take (i := 9) (oi := { dst := some 101, op := Go.Op.fieldAddr 46 (Go.Operand.tmp 100) 3, type := 0, pos := "l06_graph.go:75", after := #[{ on := 8, ground := Go.Ground.data }], guard := none }) (v := .pointer (some ⟨g1, o1 + k * 6 + 3, none⟩)) rfl (by kernel_rfl) (by kernel_rfl) (by kernel_rfl) (fun _ _ _ h => h) (Or.inl ⟨by rfl, by intro w hSw; (try dsimp only at hSw); obtain ⟨s0, s1, s2⟩ := hSw; go_simp⟩) (by assumption) ?_
    simp only [Act.put, List.setIfInBounds_toArray, List.set_cons_zero, List.set_cons_succ]
    refine wpAnyH_take (i := 10) (oi := { dst := some 102, op := Go.Op.load 2 (Go.Operand.tmp 101), type := 2, pos := "l06_graph.go:75", after := #[{ on := 9, ground := Go.Ground.data }], guard := none }) (v := .int .i64 ss[k].arg) rfl (by kernel_rfl) (by kernel_rfl) (by kernel_rfl) (fun _ _ _ h => h) (Or.inl ⟨by rfl, by intro w hSw; (try dsimp only at hSw); obtain ⟨s0, s1, s2⟩ := hSw; go_simp⟩) (by assumption) ?_
    simp only [Act.put, List.setIfInBounds_toArray, List.set_cons_zero, List.set_cons_succ]
    refine wpAnyH_take (i := 12) (oi := { dst := some 104, op := Go.Op.move (Go.Operand.tmp 8), type := 118, pos := "l06_graph.go:75", after := #[], guard := none }) (v := .pointer (some ⟨g1, o1 + k * 6, none⟩)) rfl (by kernel_rfl) (by kernel_rfl) (by kernel_rfl) (fun _ _ _ h => h) (Or.inl ⟨by rfl, by intro w hSw; (try dsimp only at hSw); obtain ⟨s0, s1, s2⟩ := hSw; go_simp⟩) (by assumption) ?_
    simp only [Act.put, List.setIfInBounds_toArray, List.set_cons_zero, List.set_cons_succ]
    refine wpAnyH_take (i := 13) (oi := { dst := some 105, op := Go.Op.nilCheck (Go.Operand.tmp 104), type := 0, pos := "l06_graph.go:75", after := #[{ on := 12, ground := Go.Ground.data }], guard := none }) (v := .pointer (some ⟨g1, o1 + k * 6, none⟩)) rfl (by kernel_rfl) (by kernel_rfl) (by kernel_rfl) (fun _ _ _ h => h) (Or.inl ⟨by rfl, by intro w hSw; (try dsimp only at hSw); obtain ⟨s0, s1, s2⟩ := hSw; go_simp⟩) (by assumption) ?_
    simp only [Act.put, List.setIfInBounds_toArray, List.set_cons_zero, List.set_cons_succ]
    refine wpAnyH_take (i := 14) (oi := { dst := some 106, op := Go.Op.fieldAddr 46 (Go.Operand.tmp 105) 5, type := 0, pos := "l06_graph.go:75", after := #[{ on := 13, ground := Go.Ground.data }], guard := none }) (v := .pointer (some ⟨g1, o1 + k * 6 + 5, none⟩)) rfl (by kernel_rfl) (by kernel_rfl) (by kernel_rfl) (fun _ _ _ h => h) (Or.inl ⟨by rfl, by intro w hSw; (try dsimp only at hSw); obtain ⟨s0, s1, s2⟩ := hSw; go_simp⟩) (by assumption) ?_
    simp only [Act.put, List.setIfInBounds_toArray, List.set_cons_zero, List.set_cons_succ]
    refine wpAnyH_take (i := 15) (oi := { dst := some 107, op := Go.Op.load 44 (Go.Operand.tmp 106), type := 44, pos := "l06_graph.go:75", after := #[{ on := 14, ground := Go.Ground.data }], guard := none }) (v := .slice ae ss[k].expr.length ce) rfl (by kernel_rfl) (by kernel_rfl) (by kernel_rfl) (fun _ _ _ h => h) (Or.inl ⟨by rfl, by intro w hSw; (try dsimp only at hSw); obtain ⟨s0, s1, s2⟩ := hSw; go_simp⟩) (by assumption) ?_
    simp only [Act.put, List.setIfInBounds_toArray, List.set_cons_zero, List.set_cons_succ]
    refine wpAnyH_ready (rs := [11]) (by kernel_rfl) (by simp) ?_
    refine (AllReadyH.cons (o := { dst := some 103, op := Go.Op.buildSlice 44 0 #[], type := 44, pos := "l06_graph.go:75", after := #[], guard := none }) rfl (fun K hK => ?_) AllReadyH.nil)
    go_simp
    refine hK.out _ _ hst2 (fun hHeld => ?_)
    clear hK K
    try simp only [Act.put, List.setIfInBounds_toArray, List.set_cons_zero, List.set_cons_succ]
    refine wpAnyH_ready (rs := [16]) (by kernel_rfl) (by simp) ?_
    refine (AllReadyH.cons (o := { dst := some 108, op := Go.Op.call { callee := Go.Callee.builtin Go.Builtin.append, args := #[Go.Operand.tmp 103, Go.Operand.tmp 107], argTypes := #[44, 44] }, type := 44, pos := "l06_graph.go:75", after := #[{ on := 11, ground := Go.Ground.data }, { on := 15, ground := Go.Ground.data }], guard := none }) rfl (fun K hK => ?_) AllReadyH.nil)
    refine Ap.step_any _ (by rfl) _ _ 44 (by rfl) w1.heap.size 115 j0 _ 4 32 Tryz.underlying44 hj hy0 hy1 hy2 rfl (by omega) (.slice (some ⟨w1.heap.size, 0, none⟩) 0 0) 0 [] (by rfl) hown0 (.slice ae ss[k].expr.length ce) ss[k].expr.length (nvals ss[k].expr) (by rfl) hrow0 (by unfold maxLen; omega) (by omega) (by simp) (w1.heap.size + 1) (by simp) ?_
    intro a2 c2 w2 hown2 hgrow2 hat2
    simp only [Nat.zero_add, List.nil_append] at hown2
    have hB2 : Below w1.heap.size w1 w2 := hal.grown hgrow2 (by simp) (fun b e => by cases e; exact Nat.le_refl _)
    have hst3 := hst1.below hB2
    have HG2 := hid (HG1.out.below hB2)
    have HO2 := hid hown2
    have HB2 := hid hB2
    clear hown2 hgrow2 hat2
    refine hK.out _ _ hst3 (fun hHeld => ?_)
    clear hK K
    try simp only [Act.put, List.setIfInBounds_toArray, List.set_cons_zero, List.set_cons_succ]
    refine wpAnyH_take (i := 17) (oi := { dst := some 109, op := Go.Op.build 78 #[(0, Go.Operand.tmp 93), (1, Go.Operand.tmp 94), (2, Go.Operand.tmp 98), (3, Go.Operand.tmp 102), (4, Go.Operand.tmp 108)], type := 78, pos := "l06_graph.go:75", after := #[{ on := 1, ground := Go.Ground.data }, { on := 2, ground := Go.Ground.data }, { on := 6, ground := Go.Ground.data }, { on := 10, ground := Go.Ground.data }, { on := 16, ground := Go.Ground.data }], guard := none }) (v := .agg #[.int .i64 (6), .int .i64 (k : Int), .string ss[k].name, .int .i64 ss[k].arg, .slice a2 ss[k].expr.length c2]) rfl (by kernel_rfl) (by kernel_rfl) (by kernel_rfl) (fun _ _ _ h => h) (Or.inl ⟨by rfl, by intro w hSw; (try dsimp only at hSw); obtain ⟨s0, s1, s2⟩ := hSw; go_simp⟩) (by assumption) ?_
    simp only [Act.put, List.setIfInBounds_toArray, List.set_cons_zero, List.set_cons_succ]
    refine wpAnyH_ready (rs := [18]) (by kernel_rfl) (by simp) ?_
    refine (AllReadyH.cons (o := { dst := some 110, op := Go.Op.call { callee := Go.Callee.value (Go.Operand.func 32), args := #[Go.Operand.tmp 92, Go.Operand.tmp 109], argTypes := #[76, 78] }, type := 2, pos := "l06_graph.go:75", after := #[{ on := 0, ground := Go.Ground.data }, { on := 17, ground := Go.Ground.data }, { on := 16, ground := Go.Ground.chain }], guard := none }) rfl (fun K hK => ?_) AllReadyH.nil)
    go_simp
    go_at_call 32
    refine (specNode P S g ⟨6, (k : Int), ss[k].name, ss[k].arg, ss[k].expr⟩ _ w1 w2 HG1.out HB2.out HO2.out hn).mono ?_
    rintro e w3 ⟨rfl, N3, hG3, hF3⟩
    have hst4 := hst1.fr hF3 hPs hNs
    have HG3 := hid hG3
    have HF3 := hid hF3
    clear hG3 hF3
    go_wp2_with fail
    refine hK.out _ _ hst4 (fun hHeld => ?_)
    clear hK K
    try simp only [Act.put, List.setIfInBounds_toArray, List.set_cons_zero, List.set_cons_succ]
    refine wpAnyH_take (i := 19) (oi := { dst := some 16, op := Go.Op.assign (Go.Operand.tmp 110), type := 2, pos := "l06_graph.go:75", after := #[{ on := 18, ground := Go.Ground.data }, { on := 18, ground := Go.Ground.chain }, { on := 0, ground := Go.Ground.phase }, { on := 1, ground := Go.Ground.phase }, { on := 2, ground := Go.Ground.phase }, { on := 3, ground := Go.Ground.phase }, { on := 4, ground := Go.Ground.phase }, { on := 5, ground := Go.Ground.phase }, { on := 6, ground := Go.Ground.phase }, { on := 7, ground := Go.Ground.phase }, { on := 8, ground := Go.Ground.phase }, { on := 9, ground := Go.Ground.phase }, { on := 10, ground := Go.Ground.phase }, { on := 11, ground := Go.Ground.phase }, { on := 12, ground := Go.Ground.phase }, { on := 13, ground := Go.Ground.phase }, { on := 14, ground := Go.Ground.phase }, { on := 15, ground := Go.Ground.phase }, { on := 16, ground := Go.Ground.phase }, { on := 17, ground := Go.Ground.phase }, { on := 18, ground := Go.Ground.phase }], guard := none }) (v := .int .i64 (g.nodes.length : Int)) rfl (by kernel_rfl) (by kernel_rfl) (by kernel_rfl) (fun _ _ _ h => h) (Or.inl ⟨by rfl, by intro w hSw; (try dsimp only at hSw); obtain ⟨s0, s1, s2⟩ := hSw; go_simp⟩) (by assumption) ?_
    simp only [Act.put, List.setIfInBounds_toArray, List.set_cons_zero, List.set_cons_succ]
    refine wpAnyH_done (by kernel_rfl) ?_ _
    clear hst hst1 hst2 hst3 hst4 hal hown0 hrow0 hHeld
    go_wp2
    go_ret2
    exact ⟨rfl, N3, by rw [HLG.out]; exact HG3.out, (Fr.of_below HB1.out).trans HF3.out⟩
end Gr
end Go.Proofs.YtfgckeoigkoflaaGreatDoor
