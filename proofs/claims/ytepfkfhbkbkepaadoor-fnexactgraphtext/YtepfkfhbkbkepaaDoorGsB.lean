/- The specification's GraphFault. -/
import Derived.Test.YtepfkfhbkbkepaaDoorGsA
import Derived.Deep.RegionHeld3
import Derived.Deep.CutRange
import Derived.BigRegion
namespace Go.Proofs.YtepfkfhbkbkepaaDoor
open Go.RowKit
set_option linter.unusedVariables false
namespace Gr
open Ex (hid inR specIn)
open Nd (NodeD)
open Gn (GNodeD)
open Fl (FlowD)
open Tr (nf)
theorem not_eq_true {b : Bool} : (!b) = true ↔ b = false := by cases b <;> simp
set_option maxRecDepth 100000 in
set_option maxHeartbeats 16000000 in
theorem specFault1 (B b : Nat) (g : GraphD) (vn vf : Value) (w : World) (hsm : Small 1048576 g) (hb : b < w.heap.size) (hb0 : w.cell? ⟨b, 0, none⟩ = some vn) (hb1 : w.cell? ⟨b, 1, none⟩ = some vf) (ha : At w B vn vf g) :
    Calls Tryd.prog 12 #[.pointer (some ⟨b, 0, none⟩)] w fun e w' => e = .returned (.int .i64 (gFault g)) ∧ Below w.heap.size w w' := by
  obtain ⟨an, cn, rfl⟩ := ha.nodes.slice
  obtain ⟨af, cf, rfl⟩ := ha.flows.slice
  have HA := hid ha
  have HS := hid hsm
  have hn20 := hsm.nodes.1
  have hf20 := hsm.flows.1
  have HM := hid (fun (h : g.nodes.length < 2 ∨ 60 < g.nodes.length ∨ 80 < g.flows.length) => g_many h)
  clear ha hsm
  by_cases z1 : g.nodes.length < 2
  · have HX := hid (HM.out (.inl z1))
    have q1 : (g.nodes.length : Int) < 2 := by omega
    have p1 : decide ((g.nodes.length : Int) < 2) = true := decide_eq_true q1
    clear z1
    go_enter Tryd.func12, Tryd.ntmps12
    go_wp2
    go_ret
    exact ⟨by rw [HX.out]; rfl, Below.refl _ _⟩
  have p1 : decide ((g.nodes.length : Int) < 2) = false := decide_eq_false (by omega)
  by_cases z2 : 60 < g.nodes.length
  · have HX := hid (HM.out (.inr (.inl z2)))
    have q1 : (60 : Int) < (g.nodes.length : Int) := by omega
    clear z1 z2
    go_enter Tryd.func12, Tryd.ntmps12
    go_wp2
    go_ret
    exact ⟨by rw [HX.out]; rfl, Below.refl _ _⟩
  have p2 : decide ((60 : Int) < (g.nodes.length : Int)) = false := decide_eq_false (by omega)
  by_cases z3 : 80 < g.flows.length
  · have HX := hid (HM.out (.inr (.inr z3)))
    have q1 : (80 : Int) < (g.flows.length : Int) := by omega
    clear z1 z2 z3
    go_enter Tryd.func12, Tryd.ntmps12
    go_wp2
    go_ret
    exact ⟨by rw [HX.out]; rfl, Below.refl _ _⟩
  have p3 : decide ((80 : Int) < (g.flows.length : Int)) = false := decide_eq_false (by omega)
  have HNO : Hid (¬ (g.nodes.length < 2 ∨ 60 < g.nodes.length ∨ 80 < g.flows.length)) := hid (by omega)
  have hn60 : g.nodes.length ≤ 60 := by omega
  have hf80 : g.flows.length ≤ 80 := by omega
  clear z1 z2 z3 HM
  go_enter Tryd.func12, Tryd.ntmps12
  go_wp2_with fail
  go_loopw [3, 4, 5] (fun i s4 s5 wr => ∃ j : Nat, i = .int .i64 j ∧ (∃ x4 x5, s4 = x4 ∧ s5 = x5) ∧ j ≤ g.nodes.length ∧ Hid (firstC (fun i => nodeC (NJ g.nodes i)) j = 0) ∧ Hid (wr = w)) (fun i _ _ _ => g.nodes.length - (intOf i).toNat)
  case atStart => exact ⟨0, rfl, ⟨_, _, rfl, rfl⟩, Nat.zero_le _, hid rfl, hid rfl⟩
  case round =>
    obtain ⟨j, rfl, ⟨x4, x5, rfl, rfl⟩, hj, H0, hwr⟩ := hrel
    replace hwr := hwr.out.symm
    subst hwr
    by_cases hlt : j < g.nodes.length
    · have q1 : (j : Int) < (g.nodes.length : Int) := by omega
      obtain ⟨gg, o, vx, rfl, hg, d0, d1, d2, d3, d4, hvx⟩ := HA.out.nodes.at hlt
      obtain ⟨ax, cx, rfl⟩ := hvx.slice
      have hse := HS.out.nodes.at hlt
      have hse1 := hse.1
      have hse2 := hse.2
      have HBR := hid (specBare g.nodes[j] gg (o + j * 5) ax cx w (by omega) d0 d1 d2 d3 d4)
      have HI1 := hid (specIn g.nodes[j].kind 1 13 w)
      have HI2 := hid (specIn g.nodes[j].step 0 23 w)
      have HI3 := hid (specIn g.nodes[j].arg 0 99 w)
      have HNM := hid (Tr.spec_nf1 g.nodes[j].name w (by unfold maxLen; omega))
      have HE := hid (NJ_eq hlt)
      have HB := hid (fun (h : nodeC g.nodes[j] ≠ 0) => g_node HNO.out hlt H0.out (by rw [HE.out]; exact h))
      rw [HE.out] at HB
      have HN2 : Hid (nodeC g.nodes[j] = 0 → firstC (fun i => nodeC (NJ g.nodes i)) (j + 1) = 0) := hid (fun h => first_next H0.out (by show nodeC (NJ g.nodes j) = 0; rw [HE.out]; exact h))
      generalize g.nodes[j] = nd at *
      clear hvx hse HE H0
      cases h1 : inR nd.kind 1 13
      · rw [h1] at HI1
        have HX := hid (n_form (.inl h1))
        have HXE := hid (HB.out (by rw [HX.out]; decide))
        go_wp2_with fail
        refine HI1.out.mono ?_
        rintro e w1 ⟨rfl, hw1⟩
        replace hw1 := hw1.symm
        subst hw1
        go_wp2
        go_ret
        exact ⟨by rw [HXE.out, HX.out]; rfl, Below.refl _ _⟩
      rw [h1] at HI1
      cases h2 : bare nd
      · rw [h2] at HBR
        have HX := hid (n_form (n := nd) (.inr h2))
        have HXE := hid (HB.out (by rw [HX.out]; decide))
        go_wp2_with fail
        refine HI1.out.mono ?_
        rintro e w1 ⟨rfl, hw1⟩
        replace hw1 := hw1.symm
        subst hw1
        go_wp2_with fail
        refine HBR.out.mono ?_
        rintro e w1 ⟨rfl, hw1⟩
        replace hw1 := hw1.symm
        subst hw1
        go_wp2
        go_ret
        exact ⟨by rw [HXE.out, HX.out]; rfl, Below.refl _ _⟩
      rw [h2] at HBR
      cases h3 : inR nd.step 0 23
      · rw [h3] at HI2
        have HX := hid (n_range h1 h2 (.inl h3))
        have HXE := hid (HB.out (by rw [HX.out]; decide))
        go_wp2_with fail
        refine HI1.out.mono ?_
        rintro e w1 ⟨rfl, hw1⟩
        replace hw1 := hw1.symm
        subst hw1
        go_wp2_with fail
        refine HBR.out.mono ?_
        rintro e w1 ⟨rfl, hw1⟩
        replace hw1 := hw1.symm
        subst hw1
        go_wp2_with fail
        refine HI2.out.mono ?_
        rintro e w1 ⟨rfl, hw1⟩
        replace hw1 := hw1.symm
        subst hw1
        go_wp2
        go_ret
        exact ⟨by rw [HXE.out, HX.out]; rfl, Below.refl _ _⟩
      rw [h3] at HI2
      cases h4 : inR nd.arg 0 99
      · rw [h4] at HI3
        have HX := hid (n_range h1 h2 (.inr h4))
        have HXE := hid (HB.out (by rw [HX.out]; decide))
        go_wp2_with fail
        refine HI1.out.mono ?_
        rintro e w1 ⟨rfl, hw1⟩
        replace hw1 := hw1.symm
        subst hw1
        go_wp2_with fail
        refine HBR.out.mono ?_
        rintro e w1 ⟨rfl, hw1⟩
        replace hw1 := hw1.symm
        subst hw1
        go_wp2_with fail
        refine HI2.out.mono ?_
        rintro e w1 ⟨rfl, hw1⟩
        replace hw1 := hw1.symm
        subst hw1
        go_wp2_with fail
        refine HI3.out.mono ?_
        rintro e w1 ⟨rfl, hw1⟩
        replace hw1 := hw1.symm
        subst hw1
        go_wp2
        go_ret
        exact ⟨by rw [HXE.out, HX.out]; rfl, Below.refl _ _⟩
      rw [h4] at HI3
      go_wp2_with fail
      refine HI1.out.mono ?_
      rintro e w1 ⟨rfl, hw1⟩
      replace hw1 := hw1.symm
      subst hw1
      go_wp2_with fail
      refine HBR.out.mono ?_
      rintro e w1 ⟨rfl, hw1⟩
      replace hw1 := hw1.symm
      subst hw1
      go_wp2_with fail
      refine HI2.out.mono ?_
      rintro e w1 ⟨rfl, hw1⟩
      replace hw1 := hw1.symm
      subst hw1
      go_wp2_with fail
      refine HI3.out.mono ?_
      rintro e w1 ⟨rfl, hw1⟩
      replace hw1 := hw1.symm
      subst hw1
      by_cases h5 : (16 : Int) < (nd.expr.length : Int)
      · have HX := hid (n_many h1 h2 h3 h4 h5)
        have HXE := hid (HB.out (by rw [HX.out]; decide))
        go_wp2
        go_ret
        exact ⟨by rw [HXE.out, HX.out]; rfl, Below.refl _ _⟩
      have p5 : decide ((16 : Int) < (nd.expr.length : Int)) = false := decide_eq_false h5
      by_cases h6 : nd.kind = 3
      · have HX := hid (n_name h1 h2 h3 h4 h5 h6)
        have b6 : (nd.kind == 3) = true := by simp [h6]
        clear h5
        go_wp2_with fail
        refine HNM.out.mono ?_
        rintro e w1 ⟨rfl, hw1⟩
        replace hw1 := hw1.symm
        subst hw1
        by_cases h7 : nf nd.name.data.toList = 0
        · have HZ := hid (HN2.out (by rw [HX.out]; exact h7))
          rw [h7]
          clear h7
          go_wp2
          exact ⟨⟨j + 1, by simp, ⟨_, _, rfl, rfl⟩, by omega, HZ, hid trivial⟩, by simp [intOf]; omega⟩
        · have HXE := hid (HB.out (by rw [HX.out]; exact h7))
          have b7 : (nf nd.name.data.toList != 0) = true := bne_iff_ne.2 h7
          generalize hnf : nf nd.name.data.toList = nn at *
          clear h7 hnf
          go_wp2
          go_ret
          exact ⟨by rw [HXE.out, HX.out]; rfl, Below.refl _ _⟩
      · have HX := hid (n_ok h1 h2 h3 h4 h5 h6)
        have HZ := hid (HN2.out HX.out)
        have b6 : (nd.kind == 3) = false := by simpa using h6
        clear h5 h6
        go_wp2
        exact ⟨⟨j + 1, by simp, ⟨_, _, rfl, rfl⟩, by omega, HZ, hid trivial⟩, by simp [intOf]; omega⟩
    · have q1 : ¬ (j : Int) < (g.nodes.length : Int) := by omega
      obtain rfl : j = g.nodes.length := by omega
      clear hlt
      go_wp2_with fail
      go_loopw [6, 7] (fun i s7 wr => ∃ x : Nat, i = .int .i64 x ∧ (∃ x7, s7 = x7) ∧ x ≤ g.flows.length ∧ Hid (firstC (flowC g) x = 0) ∧ Hid (Below w.heap.size w wr)) (fun i _ _ => g.flows.length - (intOf i).toNat)
      case atStart => exact ⟨0, rfl, ⟨_, rfl⟩, Nat.zero_le _, hid rfl, hid (Below.refl _ _)⟩
      case round =>
        obtain ⟨x, rfl, ⟨x7, rfl⟩, hx, HF0, HBR⟩ := hrel
        have hbr := Nat.lt_of_lt_of_le hb HBR.out.size
        have k0 := Rc.old_cell HBR.out hb hb0
        have k1 := Rc.old_cell HBR.out hb hb1
        by_cases hlt : x < g.flows.length
        · have q2 : (x : Int) < (g.flows.length : Int) := by omega
          have HFA := hid (HA.out.flows.below HBR.out)
          obtain ⟨gf, o, vx, rfl, hgf, d0, d1, d2, hvx⟩ := HFA.out.at hlt
          obtain ⟨ax, cx, rfl⟩ := hvx.slice
          have hse : ((g.flows[x]'hlt).cond.length : Int) ≤ 1048576 := HS.out.flows.at hlt
          have HE := hid (FJ_eq hlt)
          have HB := hid (fun (h : flowC g x ≠ 0) => g_flow HNO.out H0.out hlt HF0.out h)
          have HN2 : Hid (flowC g x = 0 → firstC (flowC g) (x + 1) = 0) := hid (fun h => first_next HF0.out h)
          have HC1 := hid (f_range (g := g) (i := x))
          have HC2 := hid (f_many (g := g) (i := x))
          have HC3 := hid (f_form (g := g) (i := x))
          have HC4 := hid (f_ok (g := g) (i := x))
          rw [HE.out] at HC1 HC2 HC3 HC4
          have HPR : Hid (∀ m, x = m + 1 → wr.cell? ⟨gf, o + m * 3, none⟩ = some (.int .i64 (FJ g.flows m).src)) := hid (fun m hm => by
            obtain ⟨g', o', v', e', hg', q0, _⟩ := HFA.out.at (i := m) (by omega)
            cases e'
            rw [FJ_eq (by omega)]
            exact q0)
          generalize g.flows[x] = fd at *
          clear hvx HE HF0 HFA
          have HI1 := hid (fun wx => specIn fd.src 0 ((g.nodes.length : Int) - 1) wx)
          have HI2 := hid (fun wx => specIn fd.dst 0 ((g.nodes.length : Int) - 1) wx)
          have t0 : wr.drew.cell? ⟨b, 0, none⟩ = some (.slice an g.nodes.length cn) := k0
          have t1 : wr.drew.cell? ⟨b, 1, none⟩ = some (.slice (some ⟨gf, o, none⟩) g.flows.length cf) := k1
          have t2 : wr.drew.cell? ⟨gf, o + x * 3, none⟩ = some (.int .i64 fd.src) := d0
          have t3 : wr.drew.cell? ⟨gf, o + x * 3 + 1, none⟩ = some (.int .i64 fd.dst) := d1
          have t4 : wr.drew.cell? ⟨gf, o + x * 3 + 2, none⟩ = some (.slice ax fd.cond.length cx) := d2
          have hbd : b < wr.drew.heap.size := hbr
          have hgd : gf < wr.drew.heap.size := hgf
          have HBD : Hid (Below w.heap.size w wr.drew) := hid HBR.out.drew
          have HPD : Hid (∀ m, x = m + 1 → wr.drew.cell? ⟨gf, o + m * 3, none⟩ = some (.int .i64 (FJ g.flows m).src)) := HPR
          have hwn : IntKind.i64.wrap ((g.nodes.length : Int) - 1) = (g.nodes.length : Int) - 1 := IntWalk.i64_in _ (by omega)
          go_upto_region 21 with fail
          go_cut [129] from 89 to 153 (fun s129 wx => s129 = .bool (!(inR fd.src 0 ((g.nodes.length : Int) - 1)) || !(inR fd.dst 0 ((g.nodes.length : Int) - 1))) ∧ wx = wr.drew)
          case first =>
            cases h1 : inR fd.src 0 ((g.nodes.length : Int) - 1)
            · rw [h1] at HI1
              refine wp_region_held_drew (S := fun wx => wx.cell? ⟨b, 0, none⟩ = some (.slice an g.nodes.length cn) ∧ wx.cell? ⟨gf, o + x * 3, none⟩ = some (.int .i64 fd.src) ∧ wx.cell? ⟨gf, o + x * 3 + 1, none⟩ = some (.int .i64 fd.dst) ∧ b < wx.heap.size ∧ gf < wx.heap.size ∧ wx = wr.drew) (by kernel_rfl) ⟨t0, t2, t3, hbd, hgd, rfl⟩ (fun hHeld => ?_)
              refine wpAnyH_take (i := 0) (oi := { dst := some 104, op := Go.Op.move (Go.Operand.tmp 7), type := 79, pos := "l06_graph.go:126", after := #[], guard := none }) (v := .pointer (some ⟨gf, o + x * 3, none⟩)) rfl (by kernel_rfl) (by kernel_rfl) (by kernel_rfl) (fun _ _ _ h => h) (Or.inl ⟨by rfl, by intro w hSw; (try dsimp only at hSw); go_simp⟩) (by assumption) ?_
              simp only [Act.put, List.setIfInBounds_toArray, List.set_cons_zero, List.set_cons_succ]
              refine wpAnyH_take (i := 1) (oi := { dst := some 105, op := Go.Op.nilCheck (Go.Operand.tmp 104), type := 0, pos := "l06_graph.go:126", after := #[{ on := 0, ground := Go.Ground.data }], guard := none }) (v := .pointer (some ⟨gf, o + x * 3, none⟩)) rfl (by kernel_rfl) (by kernel_rfl) (by kernel_rfl) (fun _ _ _ h => h) (Or.inl ⟨by rfl, by intro w hSw; (try dsimp only at hSw); go_simp⟩) (by assumption) ?_
              simp only [Act.put, List.setIfInBounds_toArray, List.set_cons_zero, List.set_cons_succ]
              refine wpAnyH_take (i := 2) (oi := { dst := some 106, op := Go.Op.fieldAddr 50 (Go.Operand.tmp 105) 0, type := 0, pos := "l06_graph.go:126", after := #[{ on := 1, ground := Go.Ground.data }], guard := none }) (v := .pointer (some ⟨gf, o + x * 3, none⟩)) rfl (by kernel_rfl) (by kernel_rfl) (by kernel_rfl) (fun _ _ _ h => h) (Or.inl ⟨by rfl, by intro w hSw; (try dsimp only at hSw); go_simp⟩) (by assumption) ?_
              simp only [Act.put, List.setIfInBounds_toArray, List.set_cons_zero, List.set_cons_succ]
              refine wpAnyH_take (i := 3) (oi := { dst := some 107, op := Go.Op.load 2 (Go.Operand.tmp 106), type := 2, pos := "l06_graph.go:126", after := #[{ on := 2, ground := Go.Ground.data }], guard := none }) (v := .int .i64 fd.src) rfl (by kernel_rfl) (by kernel_rfl) (by kernel_rfl) (fun _ _ _ h => h) (Or.inl ⟨by rfl, by intro w hSw; (try dsimp only at hSw); go_simp⟩) (by assumption) ?_
              simp only [Act.put, List.setIfInBounds_toArray, List.set_cons_zero, List.set_cons_succ]
              refine wpAnyH_take (i := 4) (oi := { dst := some 108, op := Go.Op.move (Go.Operand.tmp 0), type := 41, pos := "l06_graph.go:126", after := #[], guard := none }) (v := .pointer (some ⟨b, 0, none⟩)) rfl (by kernel_rfl) (by kernel_rfl) (by kernel_rfl) (fun _ _ _ h => h) (Or.inl ⟨by rfl, by intro w hSw; (try dsimp only at hSw); go_simp⟩) (by assumption) ?_
              simp only [Act.put, List.setIfInBounds_toArray, List.set_cons_zero, List.set_cons_succ]
              refine wpAnyH_take (i := 5) (oi := { dst := some 109, op := Go.Op.nilCheck (Go.Operand.tmp 108), type := 0, pos := "l06_graph.go:126", after := #[{ on := 4, ground := Go.Ground.data }], guard := none }) (v := .pointer (some ⟨b, 0, none⟩)) rfl (by kernel_rfl) (by kernel_rfl) (by kernel_rfl) (fun _ _ _ h => h) (Or.inl ⟨by rfl, by intro w hSw; (try dsimp only at hSw); go_simp⟩) (by assumption) ?_
              simp only [Act.put, List.setIfInBounds_toArray, List.set_cons_zero, List.set_cons_succ]
              refine wpAnyH_take (i := 6) (oi := { dst := some 110, op := Go.Op.fieldAddr 33 (Go.Operand.tmp 109) 0, type := 0, pos := "l06_graph.go:126", after := #[{ on := 5, ground := Go.Ground.data }], guard := none }) (v := .pointer (some ⟨b, 0, none⟩)) rfl (by kernel_rfl) (by kernel_rfl) (by kernel_rfl) (fun _ _ _ h => h) (Or.inl ⟨by rfl, by intro w hSw; (try dsimp only at hSw); go_simp⟩) (by assumption) ?_
              simp only [Act.put, List.setIfInBounds_toArray, List.set_cons_zero, List.set_cons_succ]
              refine wpAnyH_take (i := 7) (oi := { dst := some 111, op := Go.Op.load 30 (Go.Operand.tmp 110), type := 30, pos := "l06_graph.go:126", after := #[{ on := 6, ground := Go.Ground.data }], guard := none }) (v := .slice an g.nodes.length cn) rfl (by kernel_rfl) (by kernel_rfl) (by kernel_rfl) (fun _ _ _ h => h) (Or.inl ⟨by rfl, by intro w hSw; (try dsimp only at hSw); go_simp⟩) (by assumption) ?_
              simp only [Act.put, List.setIfInBounds_toArray, List.set_cons_zero, List.set_cons_succ]
              refine wpAnyH_take (i := 8) (oi := { dst := some 112, op := Go.Op.call { callee := Go.Callee.builtin Go.Builtin.len, args := #[Go.Operand.tmp 111], argTypes := #[30] }, type := 3, pos := "l06_graph.go:126", after := #[{ on := 7, ground := Go.Ground.data }], guard := none }) (v := .int .i64 (g.nodes.length : Int)) rfl (by kernel_rfl) (by kernel_rfl) (by kernel_rfl) (fun _ _ _ h => h) (Or.inl ⟨by rfl, by intro w hSw; (try dsimp only at hSw); go_simp⟩) (by assumption) ?_
              simp only [Act.put, List.setIfInBounds_toArray, List.set_cons_zero, List.set_cons_succ]
              refine wpAnyH_take (i := 9) (oi := { dst := some 113, op := Go.Op.binOp Go.BinOp.sub 2 (Go.Operand.tmp 112) (Go.Operand.const (Go.Value.int Go.IntKind.i64 1)) 2, type := 2, pos := "l06_graph.go:126", after := #[{ on := 8, ground := Go.Ground.data }], guard := none }) (v := .int .i64 ((g.nodes.length : Int) - 1)) rfl (by kernel_rfl) (by kernel_rfl) (by kernel_rfl) (fun _ _ _ h => h) (Or.inl ⟨by rfl, by intro w hSw; (try dsimp only at hSw); go_simp⟩) (by assumption) ?_
              simp only [Act.put, List.setIfInBounds_toArray, List.set_cons_zero, List.set_cons_succ]
              refine wpAnyH_ready (rs := [10]) (by kernel_rfl) (by simp) ?_
              refine AllReadyH.cons (o := { dst := some 114, op := Go.Op.call { callee := Go.Callee.value (Go.Operand.func 27), args := #[Go.Operand.tmp 107, Go.Operand.const (Go.Value.int Go.IntKind.i64 0), Go.Operand.tmp 113], argTypes := #[2, 2, 2] }, type := 4, pos := "l06_graph.go:126", after := #[{ on := 3, ground := Go.Ground.data }, { on := 9, ground := Go.Ground.data }], guard := none }) rfl (fun K hK => ?_) AllReadyH.nil
              go_simp
              go_at_call 27
              refine (HI1.out _).mono ?_
              rintro e w1 ⟨rfl, hw1⟩
              replace hw1 := hw1.symm
              subst hw1
              go_wp2_with fail
              refine hK.out _ _ ⟨t0, t2, t3, hbd, hgd, rfl⟩ (fun hHeld => ?_)
              clear hK K
              try simp only [Act.put, List.setIfInBounds_toArray, List.set_cons_zero, List.set_cons_succ]
              refine wpAnyH_take (i := 11) (oi := { dst := some 115, op := Go.Op.unOp Go.UnOp.not 4 (Go.Operand.tmp 114), type := 4, pos := "l06_graph.go:126", after := #[{ on := 10, ground := Go.Ground.data }], guard := none }) (v := .bool true) rfl (by kernel_rfl) (by kernel_rfl) (by kernel_rfl) (fun _ _ _ h => h) (Or.inl ⟨by rfl, by intro w hSw; (try dsimp only at hSw); go_simp⟩) (by assumption) ?_
              simp only [Act.put, List.setIfInBounds_toArray, List.set_cons_zero, List.set_cons_succ]
              refine wpAnyH_take (i := 12) (oi := { dst := some 116, op := Go.Op.move (Go.Operand.tmp 115), type := 4, pos := "l06_graph.go:126", after := #[{ on := 11, ground := Go.Ground.data }, { on := 10, ground := Go.Ground.chain }], guard := none }) (v := .bool true) rfl (by kernel_rfl) (by kernel_rfl) (by kernel_rfl) (fun _ _ _ h => h) (Or.inl ⟨by rfl, by intro w hSw; (try dsimp only at hSw); go_simp⟩) (by assumption) ?_
              simp only [Act.put, List.setIfInBounds_toArray, List.set_cons_zero, List.set_cons_succ]
              refine wpAnyH_take (i := 13) (oi := { dst := some 117, op := Go.Op.move (Go.Operand.tmp 7), type := 79, pos := "l06_graph.go:126", after := #[{ on := 12, ground := Go.Ground.guard }], guard := some (12, false) }) (v := undef) rfl (by kernel_rfl) (by kernel_rfl) (by kernel_rfl) (fun _ _ _ h => h) (Or.inr ⟨by rfl, rfl⟩) (by assumption) ?_
              simp only [Act.put, List.setIfInBounds_toArray, List.set_cons_zero, List.set_cons_succ]
              refine wpAnyH_take (i := 14) (oi := { dst := some 118, op := Go.Op.nilCheck (Go.Operand.tmp 117), type := 0, pos := "l06_graph.go:126", after := #[{ on := 13, ground := Go.Ground.data }, { on := 12, ground := Go.Ground.guard }], guard := some (12, false) }) (v := undef) rfl (by kernel_rfl) (by kernel_rfl) (by kernel_rfl) (fun _ _ _ h => h) (Or.inr ⟨by rfl, rfl⟩) (by assumption) ?_
              simp only [Act.put, List.setIfInBounds_toArray, List.set_cons_zero, List.set_cons_succ]
              refine wpAnyH_take (i := 15) (oi := { dst := some 119, op := Go.Op.fieldAddr 50 (Go.Operand.tmp 118) 1, type := 0, pos := "l06_graph.go:126", after := #[{ on := 14, ground := Go.Ground.data }, { on := 12, ground := Go.Ground.guard }], guard := some (12, false) }) (v := undef) rfl (by kernel_rfl) (by kernel_rfl) (by kernel_rfl) (fun _ _ _ h => h) (Or.inr ⟨by rfl, rfl⟩) (by assumption) ?_
              simp only [Act.put, List.setIfInBounds_toArray, List.set_cons_zero, List.set_cons_succ]
              refine wpAnyH_take (i := 16) (oi := { dst := some 120, op := Go.Op.load 2 (Go.Operand.tmp 119), type := 2, pos := "l06_graph.go:126", after := #[{ on := 15, ground := Go.Ground.data }, { on := 12, ground := Go.Ground.guard }], guard := some (12, false) }) (v := undef) rfl (by kernel_rfl) (by kernel_rfl) (by kernel_rfl) (fun _ _ _ h => h) (Or.inr ⟨by rfl, rfl⟩) (by assumption) ?_
              simp only [Act.put, List.setIfInBounds_toArray, List.set_cons_zero, List.set_cons_succ]
              refine wpAnyH_take (i := 17) (oi := { dst := some 121, op := Go.Op.move (Go.Operand.tmp 0), type := 41, pos := "l06_graph.go:126", after := #[{ on := 12, ground := Go.Ground.guard }], guard := some (12, false) }) (v := undef) rfl (by kernel_rfl) (by kernel_rfl) (by kernel_rfl) (fun _ _ _ h => h) (Or.inr ⟨by rfl, rfl⟩) (by assumption) ?_
              simp only [Act.put, List.setIfInBounds_toArray, List.set_cons_zero, List.set_cons_succ]
              refine wpAnyH_take (i := 18) (oi := { dst := some 122, op := Go.Op.nilCheck (Go.Operand.tmp 121), type := 0, pos := "l06_graph.go:126", after := #[{ on := 17, ground := Go.Ground.data }, { on := 12, ground := Go.Ground.guard }], guard := some (12, false) }) (v := undef) rfl (by kernel_rfl) (by kernel_rfl) (by kernel_rfl) (fun _ _ _ h => h) (Or.inr ⟨by rfl, rfl⟩) (by assumption) ?_
              simp only [Act.put, List.setIfInBounds_toArray, List.set_cons_zero, List.set_cons_succ]
              refine wpAnyH_take (i := 19) (oi := { dst := some 123, op := Go.Op.fieldAddr 33 (Go.Operand.tmp 122) 0, type := 0, pos := "l06_graph.go:126", after := #[{ on := 18, ground := Go.Ground.data }, { on := 12, ground := Go.Ground.guard }], guard := some (12, false) }) (v := undef) rfl (by kernel_rfl) (by kernel_rfl) (by kernel_rfl) (fun _ _ _ h => h) (Or.inr ⟨by rfl, rfl⟩) (by assumption) ?_
              simp only [Act.put, List.setIfInBounds_toArray, List.set_cons_zero, List.set_cons_succ]
              refine wpAnyH_take (i := 20) (oi := { dst := some 124, op := Go.Op.load 30 (Go.Operand.tmp 123), type := 30, pos := "l06_graph.go:126", after := #[{ on := 19, ground := Go.Ground.data }, { on := 12, ground := Go.Ground.guard }], guard := some (12, false) }) (v := undef) rfl (by kernel_rfl) (by kernel_rfl) (by kernel_rfl) (fun _ _ _ h => h) (Or.inr ⟨by rfl, rfl⟩) (by assumption) ?_
              simp only [Act.put, List.setIfInBounds_toArray, List.set_cons_zero, List.set_cons_succ]
              refine wpAnyH_take (i := 21) (oi := { dst := some 125, op := Go.Op.call { callee := Go.Callee.builtin Go.Builtin.len, args := #[Go.Operand.tmp 124], argTypes := #[30] }, type := 3, pos := "l06_graph.go:126", after := #[{ on := 20, ground := Go.Ground.data }, { on := 12, ground := Go.Ground.guard }], guard := some (12, false) }) (v := undef) rfl (by kernel_rfl) (by kernel_rfl) (by kernel_rfl) (fun _ _ _ h => h) (Or.inr ⟨by rfl, rfl⟩) (by assumption) ?_
              simp only [Act.put, List.setIfInBounds_toArray, List.set_cons_zero, List.set_cons_succ]
              refine wpAnyH_take (i := 22) (oi := { dst := some 126, op := Go.Op.binOp Go.BinOp.sub 2 (Go.Operand.tmp 125) (Go.Operand.const (Go.Value.int Go.IntKind.i64 1)) 2, type := 2, pos := "l06_graph.go:126", after := #[{ on := 21, ground := Go.Ground.data }, { on := 12, ground := Go.Ground.guard }], guard := some (12, false) }) (v := undef) rfl (by kernel_rfl) (by kernel_rfl) (by kernel_rfl) (fun _ _ _ h => h) (Or.inr ⟨by rfl, rfl⟩) (by assumption) ?_
              simp only [Act.put, List.setIfInBounds_toArray, List.set_cons_zero, List.set_cons_succ]
              refine wpAnyH_take (i := 23) (oi := { dst := some 127, op := Go.Op.call { callee := Go.Callee.value (Go.Operand.func 27), args := #[Go.Operand.tmp 120, Go.Operand.const (Go.Value.int Go.IntKind.i64 0), Go.Operand.tmp 126], argTypes := #[2, 2, 2] }, type := 4, pos := "l06_graph.go:126", after := #[{ on := 16, ground := Go.Ground.data }, { on := 22, ground := Go.Ground.data }, { on := 12, ground := Go.Ground.chain }, { on := 12, ground := Go.Ground.guard }], guard := some (12, false) }) (v := undef) rfl (by kernel_rfl) (by kernel_rfl) (by kernel_rfl) (fun _ _ _ h => h) (Or.inr ⟨by rfl, rfl⟩) (by assumption) ?_
              simp only [Act.put, List.setIfInBounds_toArray, List.set_cons_zero, List.set_cons_succ]
              refine wpAnyH_take (i := 24) (oi := { dst := some 128, op := Go.Op.unOp Go.UnOp.not 4 (Go.Operand.tmp 127), type := 4, pos := "l06_graph.go:126", after := #[{ on := 23, ground := Go.Ground.data }, { on := 12, ground := Go.Ground.guard }], guard := some (12, false) }) (v := undef) rfl (by kernel_rfl) (by kernel_rfl) (by kernel_rfl) (fun _ _ _ h => h) (Or.inr ⟨by rfl, rfl⟩) (by assumption) ?_
              simp only [Act.put, List.setIfInBounds_toArray, List.set_cons_zero, List.set_cons_succ]
              refine wpAnyH_take (i := 25) (oi := { dst := some 129, op := Go.Op.pick (Go.Operand.tmp 116) (Go.Operand.const (Go.Value.bool true)) (Go.Operand.tmp 128), type := 4, pos := "l06_graph.go:126", after := #[{ on := 12, ground := Go.Ground.data }, { on := 24, ground := Go.Ground.data }], guard := none }) (v := .bool true) rfl (by kernel_rfl) (by kernel_rfl) (by kernel_rfl) (fun _ _ _ h => h) (Or.inl ⟨by rfl, by intro w hSw; (try dsimp only at hSw); go_simp⟩) (by assumption) ?_
              simp only [Act.put, List.setIfInBounds_toArray, List.set_cons_zero, List.set_cons_succ]
              refine wpAnyH_done (by kernel_rfl) ?_ _
              go_wp2_with fail
              go_meet
              exact ⟨by rw [h1]; rfl, rfl⟩
            · rw [h1] at HI1
              cases h2 : inR fd.dst 0 ((g.nodes.length : Int) - 1)
              · rw [h2] at HI2
                refine wp_region_held_drew (S := fun wx => wx.cell? ⟨b, 0, none⟩ = some (.slice an g.nodes.length cn) ∧ wx.cell? ⟨gf, o + x * 3, none⟩ = some (.int .i64 fd.src) ∧ wx.cell? ⟨gf, o + x * 3 + 1, none⟩ = some (.int .i64 fd.dst) ∧ b < wx.heap.size ∧ gf < wx.heap.size ∧ wx = wr.drew) (by kernel_rfl) ⟨t0, t2, t3, hbd, hgd, rfl⟩ (fun hHeld => ?_)
                refine wpAnyH_take (i := 0) (oi := { dst := some 104, op := Go.Op.move (Go.Operand.tmp 7), type := 79, pos := "l06_graph.go:126", after := #[], guard := none }) (v := .pointer (some ⟨gf, o + x * 3, none⟩)) rfl (by kernel_rfl) (by kernel_rfl) (by kernel_rfl) (fun _ _ _ h => h) (Or.inl ⟨by rfl, by intro w hSw; (try dsimp only at hSw); go_simp⟩) (by assumption) ?_
                simp only [Act.put, List.setIfInBounds_toArray, List.set_cons_zero, List.set_cons_succ]
                refine wpAnyH_take (i := 1) (oi := { dst := some 105, op := Go.Op.nilCheck (Go.Operand.tmp 104), type := 0, pos := "l06_graph.go:126", after := #[{ on := 0, ground := Go.Ground.data }], guard := none }) (v := .pointer (some ⟨gf, o + x * 3, none⟩)) rfl (by kernel_rfl) (by kernel_rfl) (by kernel_rfl) (fun _ _ _ h => h) (Or.inl ⟨by rfl, by intro w hSw; (try dsimp only at hSw); go_simp⟩) (by assumption) ?_
                simp only [Act.put, List.setIfInBounds_toArray, List.set_cons_zero, List.set_cons_succ]
                refine wpAnyH_take (i := 2) (oi := { dst := some 106, op := Go.Op.fieldAddr 50 (Go.Operand.tmp 105) 0, type := 0, pos := "l06_graph.go:126", after := #[{ on := 1, ground := Go.Ground.data }], guard := none }) (v := .pointer (some ⟨gf, o + x * 3, none⟩)) rfl (by kernel_rfl) (by kernel_rfl) (by kernel_rfl) (fun _ _ _ h => h) (Or.inl ⟨by rfl, by intro w hSw; (try dsimp only at hSw); go_simp⟩) (by assumption) ?_
                simp only [Act.put, List.setIfInBounds_toArray, List.set_cons_zero, List.set_cons_succ]
                refine wpAnyH_take (i := 3) (oi := { dst := some 107, op := Go.Op.load 2 (Go.Operand.tmp 106), type := 2, pos := "l06_graph.go:126", after := #[{ on := 2, ground := Go.Ground.data }], guard := none }) (v := .int .i64 fd.src) rfl (by kernel_rfl) (by kernel_rfl) (by kernel_rfl) (fun _ _ _ h => h) (Or.inl ⟨by rfl, by intro w hSw; (try dsimp only at hSw); go_simp⟩) (by assumption) ?_
                simp only [Act.put, List.setIfInBounds_toArray, List.set_cons_zero, List.set_cons_succ]
                refine wpAnyH_take (i := 4) (oi := { dst := some 108, op := Go.Op.move (Go.Operand.tmp 0), type := 41, pos := "l06_graph.go:126", after := #[], guard := none }) (v := .pointer (some ⟨b, 0, none⟩)) rfl (by kernel_rfl) (by kernel_rfl) (by kernel_rfl) (fun _ _ _ h => h) (Or.inl ⟨by rfl, by intro w hSw; (try dsimp only at hSw); go_simp⟩) (by assumption) ?_
                simp only [Act.put, List.setIfInBounds_toArray, List.set_cons_zero, List.set_cons_succ]
                refine wpAnyH_take (i := 5) (oi := { dst := some 109, op := Go.Op.nilCheck (Go.Operand.tmp 108), type := 0, pos := "l06_graph.go:126", after := #[{ on := 4, ground := Go.Ground.data }], guard := none }) (v := .pointer (some ⟨b, 0, none⟩)) rfl (by kernel_rfl) (by kernel_rfl) (by kernel_rfl) (fun _ _ _ h => h) (Or.inl ⟨by rfl, by intro w hSw; (try dsimp only at hSw); go_simp⟩) (by assumption) ?_
                simp only [Act.put, List.setIfInBounds_toArray, List.set_cons_zero, List.set_cons_succ]
                refine wpAnyH_take (i := 6) (oi := { dst := some 110, op := Go.Op.fieldAddr 33 (Go.Operand.tmp 109) 0, type := 0, pos := "l06_graph.go:126", after := #[{ on := 5, ground := Go.Ground.data }], guard := none }) (v := .pointer (some ⟨b, 0, none⟩)) rfl (by kernel_rfl) (by kernel_rfl) (by kernel_rfl) (fun _ _ _ h => h) (Or.inl ⟨by rfl, by intro w hSw; (try dsimp only at hSw); go_simp⟩) (by assumption) ?_
                simp only [Act.put, List.setIfInBounds_toArray, List.set_cons_zero, List.set_cons_succ]
                refine wpAnyH_take (i := 7) (oi := { dst := some 111, op := Go.Op.load 30 (Go.Operand.tmp 110), type := 30, pos := "l06_graph.go:126", after := #[{ on := 6, ground := Go.Ground.data }], guard := none }) (v := .slice an g.nodes.length cn) rfl (by kernel_rfl) (by kernel_rfl) (by kernel_rfl) (fun _ _ _ h => h) (Or.inl ⟨by rfl, by intro w hSw; (try dsimp only at hSw); go_simp⟩) (by assumption) ?_
                simp only [Act.put, List.setIfInBounds_toArray, List.set_cons_zero, List.set_cons_succ]
                refine wpAnyH_take (i := 8) (oi := { dst := some 112, op := Go.Op.call { callee := Go.Callee.builtin Go.Builtin.len, args := #[Go.Operand.tmp 111], argTypes := #[30] }, type := 3, pos := "l06_graph.go:126", after := #[{ on := 7, ground := Go.Ground.data }], guard := none }) (v := .int .i64 (g.nodes.length : Int)) rfl (by kernel_rfl) (by kernel_rfl) (by kernel_rfl) (fun _ _ _ h => h) (Or.inl ⟨by rfl, by intro w hSw; (try dsimp only at hSw); go_simp⟩) (by assumption) ?_
                simp only [Act.put, List.setIfInBounds_toArray, List.set_cons_zero, List.set_cons_succ]
                refine wpAnyH_take (i := 9) (oi := { dst := some 113, op := Go.Op.binOp Go.BinOp.sub 2 (Go.Operand.tmp 112) (Go.Operand.const (Go.Value.int Go.IntKind.i64 1)) 2, type := 2, pos := "l06_graph.go:126", after := #[{ on := 8, ground := Go.Ground.data }], guard := none }) (v := .int .i64 ((g.nodes.length : Int) - 1)) rfl (by kernel_rfl) (by kernel_rfl) (by kernel_rfl) (fun _ _ _ h => h) (Or.inl ⟨by rfl, by intro w hSw; (try dsimp only at hSw); go_simp⟩) (by assumption) ?_
                simp only [Act.put, List.setIfInBounds_toArray, List.set_cons_zero, List.set_cons_succ]
                refine wpAnyH_ready (rs := [10]) (by kernel_rfl) (by simp) ?_
                refine AllReadyH.cons (o := { dst := some 114, op := Go.Op.call { callee := Go.Callee.value (Go.Operand.func 27), args := #[Go.Operand.tmp 107, Go.Operand.const (Go.Value.int Go.IntKind.i64 0), Go.Operand.tmp 113], argTypes := #[2, 2, 2] }, type := 4, pos := "l06_graph.go:126", after := #[{ on := 3, ground := Go.Ground.data }, { on := 9, ground := Go.Ground.data }], guard := none }) rfl (fun K hK => ?_) AllReadyH.nil
                go_simp
                go_at_call 27
                refine (HI1.out _).mono ?_
                rintro e w1 ⟨rfl, hw1⟩
                replace hw1 := hw1.symm
                subst hw1
                go_wp2_with fail
                refine hK.out _ _ ⟨t0, t2, t3, hbd, hgd, rfl⟩ (fun hHeld => ?_)
                clear hK K
                try simp only [Act.put, List.setIfInBounds_toArray, List.set_cons_zero, List.set_cons_succ]
                refine wpAnyH_take (i := 11) (oi := { dst := some 115, op := Go.Op.unOp Go.UnOp.not 4 (Go.Operand.tmp 114), type := 4, pos := "l06_graph.go:126", after := #[{ on := 10, ground := Go.Ground.data }], guard := none }) (v := .bool false) rfl (by kernel_rfl) (by kernel_rfl) (by kernel_rfl) (fun _ _ _ h => h) (Or.inl ⟨by rfl, by intro w hSw; (try dsimp only at hSw); go_simp⟩) (by assumption) ?_
                simp only [Act.put, List.setIfInBounds_toArray, List.set_cons_zero, List.set_cons_succ]
                refine wpAnyH_take (i := 12) (oi := { dst := some 116, op := Go.Op.move (Go.Operand.tmp 115), type := 4, pos := "l06_graph.go:126", after := #[{ on := 11, ground := Go.Ground.data }, { on := 10, ground := Go.Ground.chain }], guard := none }) (v := .bool false) rfl (by kernel_rfl) (by kernel_rfl) (by kernel_rfl) (fun _ _ _ h => h) (Or.inl ⟨by rfl, by intro w hSw; (try dsimp only at hSw); go_simp⟩) (by assumption) ?_
                simp only [Act.put, List.setIfInBounds_toArray, List.set_cons_zero, List.set_cons_succ]
                refine wpAnyH_take (i := 13) (oi := { dst := some 117, op := Go.Op.move (Go.Operand.tmp 7), type := 79, pos := "l06_graph.go:126", after := #[{ on := 12, ground := Go.Ground.guard }], guard := some (12, false) }) (v := .pointer (some ⟨gf, o + x * 3, none⟩)) rfl (by kernel_rfl) (by kernel_rfl) (by kernel_rfl) (fun _ _ _ h => h) (Or.inl ⟨by rfl, by intro w hSw; (try dsimp only at hSw); go_simp⟩) (by assumption) ?_
                simp only [Act.put, List.setIfInBounds_toArray, List.set_cons_zero, List.set_cons_succ]
                refine wpAnyH_take (i := 14) (oi := { dst := some 118, op := Go.Op.nilCheck (Go.Operand.tmp 117), type := 0, pos := "l06_graph.go:126", after := #[{ on := 13, ground := Go.Ground.data }, { on := 12, ground := Go.Ground.guard }], guard := some (12, false) }) (v := .pointer (some ⟨gf, o + x * 3, none⟩)) rfl (by kernel_rfl) (by kernel_rfl) (by kernel_rfl) (fun _ _ _ h => h) (Or.inl ⟨by rfl, by intro w hSw; (try dsimp only at hSw); go_simp⟩) (by assumption) ?_
                simp only [Act.put, List.setIfInBounds_toArray, List.set_cons_zero, List.set_cons_succ]
                refine wpAnyH_take (i := 15) (oi := { dst := some 119, op := Go.Op.fieldAddr 50 (Go.Operand.tmp 118) 1, type := 0, pos := "l06_graph.go:126", after := #[{ on := 14, ground := Go.Ground.data }, { on := 12, ground := Go.Ground.guard }], guard := some (12, false) }) (v := .pointer (some ⟨gf, o + x * 3 + 1, none⟩)) rfl (by kernel_rfl) (by kernel_rfl) (by kernel_rfl) (fun _ _ _ h => h) (Or.inl ⟨by rfl, by intro w hSw; (try dsimp only at hSw); go_simp⟩) (by assumption) ?_
                simp only [Act.put, List.setIfInBounds_toArray, List.set_cons_zero, List.set_cons_succ]
                refine wpAnyH_take (i := 16) (oi := { dst := some 120, op := Go.Op.load 2 (Go.Operand.tmp 119), type := 2, pos := "l06_graph.go:126", after := #[{ on := 15, ground := Go.Ground.data }, { on := 12, ground := Go.Ground.guard }], guard := some (12, false) }) (v := .int .i64 fd.dst) rfl (by kernel_rfl) (by kernel_rfl) (by kernel_rfl) (fun _ _ _ h => h) (Or.inl ⟨by rfl, by intro w hSw; (try dsimp only at hSw); go_simp⟩) (by assumption) ?_
                simp only [Act.put, List.setIfInBounds_toArray, List.set_cons_zero, List.set_cons_succ]
                refine wpAnyH_take (i := 17) (oi := { dst := some 121, op := Go.Op.move (Go.Operand.tmp 0), type := 41, pos := "l06_graph.go:126", after := #[{ on := 12, ground := Go.Ground.guard }], guard := some (12, false) }) (v := .pointer (some ⟨b, 0, none⟩)) rfl (by kernel_rfl) (by kernel_rfl) (by kernel_rfl) (fun _ _ _ h => h) (Or.inl ⟨by rfl, by intro w hSw; (try dsimp only at hSw); go_simp⟩) (by assumption) ?_
                simp only [Act.put, List.setIfInBounds_toArray, List.set_cons_zero, List.set_cons_succ]
                refine wpAnyH_take (i := 18) (oi := { dst := some 122, op := Go.Op.nilCheck (Go.Operand.tmp 121), type := 0, pos := "l06_graph.go:126", after := #[{ on := 17, ground := Go.Ground.data }, { on := 12, ground := Go.Ground.guard }], guard := some (12, false) }) (v := .pointer (some ⟨b, 0, none⟩)) rfl (by kernel_rfl) (by kernel_rfl) (by kernel_rfl) (fun _ _ _ h => h) (Or.inl ⟨by rfl, by intro w hSw; (try dsimp only at hSw); go_simp⟩) (by assumption) ?_
                simp only [Act.put, List.setIfInBounds_toArray, List.set_cons_zero, List.set_cons_succ]
                refine wpAnyH_take (i := 19) (oi := { dst := some 123, op := Go.Op.fieldAddr 33 (Go.Operand.tmp 122) 0, type := 0, pos := "l06_graph.go:126", after := #[{ on := 18, ground := Go.Ground.data }, { on := 12, ground := Go.Ground.guard }], guard := some (12, false) }) (v := .pointer (some ⟨b, 0, none⟩)) rfl (by kernel_rfl) (by kernel_rfl) (by kernel_rfl) (fun _ _ _ h => h) (Or.inl ⟨by rfl, by intro w hSw; (try dsimp only at hSw); go_simp⟩) (by assumption) ?_
                simp only [Act.put, List.setIfInBounds_toArray, List.set_cons_zero, List.set_cons_succ]
                refine wpAnyH_take (i := 20) (oi := { dst := some 124, op := Go.Op.load 30 (Go.Operand.tmp 123), type := 30, pos := "l06_graph.go:126", after := #[{ on := 19, ground := Go.Ground.data }, { on := 12, ground := Go.Ground.guard }], guard := some (12, false) }) (v := .slice an g.nodes.length cn) rfl (by kernel_rfl) (by kernel_rfl) (by kernel_rfl) (fun _ _ _ h => h) (Or.inl ⟨by rfl, by intro w hSw; (try dsimp only at hSw); go_simp⟩) (by assumption) ?_
                simp only [Act.put, List.setIfInBounds_toArray, List.set_cons_zero, List.set_cons_succ]
                refine wpAnyH_take (i := 21) (oi := { dst := some 125, op := Go.Op.call { callee := Go.Callee.builtin Go.Builtin.len, args := #[Go.Operand.tmp 124], argTypes := #[30] }, type := 3, pos := "l06_graph.go:126", after := #[{ on := 20, ground := Go.Ground.data }, { on := 12, ground := Go.Ground.guard }], guard := some (12, false) }) (v := .int .i64 (g.nodes.length : Int)) rfl (by kernel_rfl) (by kernel_rfl) (by kernel_rfl) (fun _ _ _ h => h) (Or.inl ⟨by rfl, by intro w hSw; (try dsimp only at hSw); go_simp⟩) (by assumption) ?_
                simp only [Act.put, List.setIfInBounds_toArray, List.set_cons_zero, List.set_cons_succ]
                refine wpAnyH_take (i := 22) (oi := { dst := some 126, op := Go.Op.binOp Go.BinOp.sub 2 (Go.Operand.tmp 125) (Go.Operand.const (Go.Value.int Go.IntKind.i64 1)) 2, type := 2, pos := "l06_graph.go:126", after := #[{ on := 21, ground := Go.Ground.data }, { on := 12, ground := Go.Ground.guard }], guard := some (12, false) }) (v := .int .i64 ((g.nodes.length : Int) - 1)) rfl (by kernel_rfl) (by kernel_rfl) (by kernel_rfl) (fun _ _ _ h => h) (Or.inl ⟨by rfl, by intro w hSw; (try dsimp only at hSw); go_simp⟩) (by assumption) ?_
                simp only [Act.put, List.setIfInBounds_toArray, List.set_cons_zero, List.set_cons_succ]
                refine wpAnyH_ready (rs := [23]) (by kernel_rfl) (by simp) ?_
                refine AllReadyH.cons (o := { dst := some 127, op := Go.Op.call { callee := Go.Callee.value (Go.Operand.func 27), args := #[Go.Operand.tmp 120, Go.Operand.const (Go.Value.int Go.IntKind.i64 0), Go.Operand.tmp 126], argTypes := #[2, 2, 2] }, type := 4, pos := "l06_graph.go:126", after := #[{ on := 16, ground := Go.Ground.data }, { on := 22, ground := Go.Ground.data }, { on := 12, ground := Go.Ground.chain }, { on := 12, ground := Go.Ground.guard }], guard := some (12, false) }) rfl (fun K hK => ?_) AllReadyH.nil
                go_simp
                go_at_call 27
                refine (HI2.out _).mono ?_
                rintro e w1 ⟨rfl, hw1⟩
                replace hw1 := hw1.symm
                subst hw1
                go_wp2_with fail
                refine hK.out _ _ ⟨t0, t2, t3, hbd, hgd, rfl⟩ (fun hHeld => ?_)
                clear hK K
                try simp only [Act.put, List.setIfInBounds_toArray, List.set_cons_zero, List.set_cons_succ]
                refine wpAnyH_take (i := 24) (oi := { dst := some 128, op := Go.Op.unOp Go.UnOp.not 4 (Go.Operand.tmp 127), type := 4, pos := "l06_graph.go:126", after := #[{ on := 23, ground := Go.Ground.data }, { on := 12, ground := Go.Ground.guard }], guard := some (12, false) }) (v := .bool true) rfl (by kernel_rfl) (by kernel_rfl) (by kernel_rfl) (fun _ _ _ h => h) (Or.inl ⟨by rfl, by intro w hSw; (try dsimp only at hSw); go_simp⟩) (by assumption) ?_
                simp only [Act.put, List.setIfInBounds_toArray, List.set_cons_zero, List.set_cons_succ]
                refine wpAnyH_take (i := 25) (oi := { dst := some 129, op := Go.Op.pick (Go.Operand.tmp 116) (Go.Operand.const (Go.Value.bool true)) (Go.Operand.tmp 128), type := 4, pos := "l06_graph.go:126", after := #[{ on := 12, ground := Go.Ground.data }, { on := 24, ground := Go.Ground.data }], guard := none }) (v := .bool true) rfl (by kernel_rfl) (by kernel_rfl) (by kernel_rfl) (fun _ _ _ h => h) (Or.inl ⟨by rfl, by intro w hSw; (try dsimp only at hSw); go_simp⟩) (by assumption) ?_
                simp only [Act.put, List.setIfInBounds_toArray, List.set_cons_zero, List.set_cons_succ]
                refine wpAnyH_done (by kernel_rfl) ?_ _
                go_wp2_with fail
                go_meet
                exact ⟨by rw [h1, h2]; rfl, rfl⟩
              · rw [h2] at HI2
                refine wp_region_held_drew (S := fun wx => wx.cell? ⟨b, 0, none⟩ = some (.slice an g.nodes.length cn) ∧ wx.cell? ⟨gf, o + x * 3, none⟩ = some (.int .i64 fd.src) ∧ wx.cell? ⟨gf, o + x * 3 + 1, none⟩ = some (.int .i64 fd.dst) ∧ b < wx.heap.size ∧ gf < wx.heap.size ∧ wx = wr.drew) (by kernel_rfl) ⟨t0, t2, t3, hbd, hgd, rfl⟩ (fun hHeld => ?_)
                refine wpAnyH_take (i := 0) (oi := { dst := some 104, op := Go.Op.move (Go.Operand.tmp 7), type := 79, pos := "l06_graph.go:126", after := #[], guard := none }) (v := .pointer (some ⟨gf, o + x * 3, none⟩)) rfl (by kernel_rfl) (by kernel_rfl) (by kernel_rfl) (fun _ _ _ h => h) (Or.inl ⟨by rfl, by intro w hSw; (try dsimp only at hSw); go_simp⟩) (by assumption) ?_
                simp only [Act.put, List.setIfInBounds_toArray, List.set_cons_zero, List.set_cons_succ]
                refine wpAnyH_take (i := 1) (oi := { dst := some 105, op := Go.Op.nilCheck (Go.Operand.tmp 104), type := 0, pos := "l06_graph.go:126", after := #[{ on := 0, ground := Go.Ground.data }], guard := none }) (v := .pointer (some ⟨gf, o + x * 3, none⟩)) rfl (by kernel_rfl) (by kernel_rfl) (by kernel_rfl) (fun _ _ _ h => h) (Or.inl ⟨by rfl, by intro w hSw; (try dsimp only at hSw); go_simp⟩) (by assumption) ?_
                simp only [Act.put, List.setIfInBounds_toArray, List.set_cons_zero, List.set_cons_succ]
                refine wpAnyH_take (i := 2) (oi := { dst := some 106, op := Go.Op.fieldAddr 50 (Go.Operand.tmp 105) 0, type := 0, pos := "l06_graph.go:126", after := #[{ on := 1, ground := Go.Ground.data }], guard := none }) (v := .pointer (some ⟨gf, o + x * 3, none⟩)) rfl (by kernel_rfl) (by kernel_rfl) (by kernel_rfl) (fun _ _ _ h => h) (Or.inl ⟨by rfl, by intro w hSw; (try dsimp only at hSw); go_simp⟩) (by assumption) ?_
                simp only [Act.put, List.setIfInBounds_toArray, List.set_cons_zero, List.set_cons_succ]
                refine wpAnyH_take (i := 3) (oi := { dst := some 107, op := Go.Op.load 2 (Go.Operand.tmp 106), type := 2, pos := "l06_graph.go:126", after := #[{ on := 2, ground := Go.Ground.data }], guard := none }) (v := .int .i64 fd.src) rfl (by kernel_rfl) (by kernel_rfl) (by kernel_rfl) (fun _ _ _ h => h) (Or.inl ⟨by rfl, by intro w hSw; (try dsimp only at hSw); go_simp⟩) (by assumption) ?_
                simp only [Act.put, List.setIfInBounds_toArray, List.set_cons_zero, List.set_cons_succ]
                refine wpAnyH_take (i := 4) (oi := { dst := some 108, op := Go.Op.move (Go.Operand.tmp 0), type := 41, pos := "l06_graph.go:126", after := #[], guard := none }) (v := .pointer (some ⟨b, 0, none⟩)) rfl (by kernel_rfl) (by kernel_rfl) (by kernel_rfl) (fun _ _ _ h => h) (Or.inl ⟨by rfl, by intro w hSw; (try dsimp only at hSw); go_simp⟩) (by assumption) ?_
                simp only [Act.put, List.setIfInBounds_toArray, List.set_cons_zero, List.set_cons_succ]
                refine wpAnyH_take (i := 5) (oi := { dst := some 109, op := Go.Op.nilCheck (Go.Operand.tmp 108), type := 0, pos := "l06_graph.go:126", after := #[{ on := 4, ground := Go.Ground.data }], guard := none }) (v := .pointer (some ⟨b, 0, none⟩)) rfl (by kernel_rfl) (by kernel_rfl) (by kernel_rfl) (fun _ _ _ h => h) (Or.inl ⟨by rfl, by intro w hSw; (try dsimp only at hSw); go_simp⟩) (by assumption) ?_
                simp only [Act.put, List.setIfInBounds_toArray, List.set_cons_zero, List.set_cons_succ]
                refine wpAnyH_take (i := 6) (oi := { dst := some 110, op := Go.Op.fieldAddr 33 (Go.Operand.tmp 109) 0, type := 0, pos := "l06_graph.go:126", after := #[{ on := 5, ground := Go.Ground.data }], guard := none }) (v := .pointer (some ⟨b, 0, none⟩)) rfl (by kernel_rfl) (by kernel_rfl) (by kernel_rfl) (fun _ _ _ h => h) (Or.inl ⟨by rfl, by intro w hSw; (try dsimp only at hSw); go_simp⟩) (by assumption) ?_
                simp only [Act.put, List.setIfInBounds_toArray, List.set_cons_zero, List.set_cons_succ]
                refine wpAnyH_take (i := 7) (oi := { dst := some 111, op := Go.Op.load 30 (Go.Operand.tmp 110), type := 30, pos := "l06_graph.go:126", after := #[{ on := 6, ground := Go.Ground.data }], guard := none }) (v := .slice an g.nodes.length cn) rfl (by kernel_rfl) (by kernel_rfl) (by kernel_rfl) (fun _ _ _ h => h) (Or.inl ⟨by rfl, by intro w hSw; (try dsimp only at hSw); go_simp⟩) (by assumption) ?_
                simp only [Act.put, List.setIfInBounds_toArray, List.set_cons_zero, List.set_cons_succ]
                refine wpAnyH_take (i := 8) (oi := { dst := some 112, op := Go.Op.call { callee := Go.Callee.builtin Go.Builtin.len, args := #[Go.Operand.tmp 111], argTypes := #[30] }, type := 3, pos := "l06_graph.go:126", after := #[{ on := 7, ground := Go.Ground.data }], guard := none }) (v := .int .i64 (g.nodes.length : Int)) rfl (by kernel_rfl) (by kernel_rfl) (by kernel_rfl) (fun _ _ _ h => h) (Or.inl ⟨by rfl, by intro w hSw; (try dsimp only at hSw); go_simp⟩) (by assumption) ?_
                simp only [Act.put, List.setIfInBounds_toArray, List.set_cons_zero, List.set_cons_succ]
                refine wpAnyH_take (i := 9) (oi := { dst := some 113, op := Go.Op.binOp Go.BinOp.sub 2 (Go.Operand.tmp 112) (Go.Operand.const (Go.Value.int Go.IntKind.i64 1)) 2, type := 2, pos := "l06_graph.go:126", after := #[{ on := 8, ground := Go.Ground.data }], guard := none }) (v := .int .i64 ((g.nodes.length : Int) - 1)) rfl (by kernel_rfl) (by kernel_rfl) (by kernel_rfl) (fun _ _ _ h => h) (Or.inl ⟨by rfl, by intro w hSw; (try dsimp only at hSw); go_simp⟩) (by assumption) ?_
                simp only [Act.put, List.setIfInBounds_toArray, List.set_cons_zero, List.set_cons_succ]
                refine wpAnyH_ready (rs := [10]) (by kernel_rfl) (by simp) ?_
                refine AllReadyH.cons (o := { dst := some 114, op := Go.Op.call { callee := Go.Callee.value (Go.Operand.func 27), args := #[Go.Operand.tmp 107, Go.Operand.const (Go.Value.int Go.IntKind.i64 0), Go.Operand.tmp 113], argTypes := #[2, 2, 2] }, type := 4, pos := "l06_graph.go:126", after := #[{ on := 3, ground := Go.Ground.data }, { on := 9, ground := Go.Ground.data }], guard := none }) rfl (fun K hK => ?_) AllReadyH.nil
                go_simp
                go_at_call 27
                refine (HI1.out _).mono ?_
                rintro e w1 ⟨rfl, hw1⟩
                replace hw1 := hw1.symm
                subst hw1
                go_wp2_with fail
                refine hK.out _ _ ⟨t0, t2, t3, hbd, hgd, rfl⟩ (fun hHeld => ?_)
                clear hK K
                try simp only [Act.put, List.setIfInBounds_toArray, List.set_cons_zero, List.set_cons_succ]
                refine wpAnyH_take (i := 11) (oi := { dst := some 115, op := Go.Op.unOp Go.UnOp.not 4 (Go.Operand.tmp 114), type := 4, pos := "l06_graph.go:126", after := #[{ on := 10, ground := Go.Ground.data }], guard := none }) (v := .bool false) rfl (by kernel_rfl) (by kernel_rfl) (by kernel_rfl) (fun _ _ _ h => h) (Or.inl ⟨by rfl, by intro w hSw; (try dsimp only at hSw); go_simp⟩) (by assumption) ?_
                simp only [Act.put, List.setIfInBounds_toArray, List.set_cons_zero, List.set_cons_succ]
                refine wpAnyH_take (i := 12) (oi := { dst := some 116, op := Go.Op.move (Go.Operand.tmp 115), type := 4, pos := "l06_graph.go:126", after := #[{ on := 11, ground := Go.Ground.data }, { on := 10, ground := Go.Ground.chain }], guard := none }) (v := .bool false) rfl (by kernel_rfl) (by kernel_rfl) (by kernel_rfl) (fun _ _ _ h => h) (Or.inl ⟨by rfl, by intro w hSw; (try dsimp only at hSw); go_simp⟩) (by assumption) ?_
                simp only [Act.put, List.setIfInBounds_toArray, List.set_cons_zero, List.set_cons_succ]
                refine wpAnyH_take (i := 13) (oi := { dst := some 117, op := Go.Op.move (Go.Operand.tmp 7), type := 79, pos := "l06_graph.go:126", after := #[{ on := 12, ground := Go.Ground.guard }], guard := some (12, false) }) (v := .pointer (some ⟨gf, o + x * 3, none⟩)) rfl (by kernel_rfl) (by kernel_rfl) (by kernel_rfl) (fun _ _ _ h => h) (Or.inl ⟨by rfl, by intro w hSw; (try dsimp only at hSw); go_simp⟩) (by assumption) ?_
                simp only [Act.put, List.setIfInBounds_toArray, List.set_cons_zero, List.set_cons_succ]
                refine wpAnyH_take (i := 14) (oi := { dst := some 118, op := Go.Op.nilCheck (Go.Operand.tmp 117), type := 0, pos := "l06_graph.go:126", after := #[{ on := 13, ground := Go.Ground.data }, { on := 12, ground := Go.Ground.guard }], guard := some (12, false) }) (v := .pointer (some ⟨gf, o + x * 3, none⟩)) rfl (by kernel_rfl) (by kernel_rfl) (by kernel_rfl) (fun _ _ _ h => h) (Or.inl ⟨by rfl, by intro w hSw; (try dsimp only at hSw); go_simp⟩) (by assumption) ?_
                simp only [Act.put, List.setIfInBounds_toArray, List.set_cons_zero, List.set_cons_succ]
                refine wpAnyH_take (i := 15) (oi := { dst := some 119, op := Go.Op.fieldAddr 50 (Go.Operand.tmp 118) 1, type := 0, pos := "l06_graph.go:126", after := #[{ on := 14, ground := Go.Ground.data }, { on := 12, ground := Go.Ground.guard }], guard := some (12, false) }) (v := .pointer (some ⟨gf, o + x * 3 + 1, none⟩)) rfl (by kernel_rfl) (by kernel_rfl) (by kernel_rfl) (fun _ _ _ h => h) (Or.inl ⟨by rfl, by intro w hSw; (try dsimp only at hSw); go_simp⟩) (by assumption) ?_
                simp only [Act.put, List.setIfInBounds_toArray, List.set_cons_zero, List.set_cons_succ]
                refine wpAnyH_take (i := 16) (oi := { dst := some 120, op := Go.Op.load 2 (Go.Operand.tmp 119), type := 2, pos := "l06_graph.go:126", after := #[{ on := 15, ground := Go.Ground.data }, { on := 12, ground := Go.Ground.guard }], guard := some (12, false) }) (v := .int .i64 fd.dst) rfl (by kernel_rfl) (by kernel_rfl) (by kernel_rfl) (fun _ _ _ h => h) (Or.inl ⟨by rfl, by intro w hSw; (try dsimp only at hSw); go_simp⟩) (by assumption) ?_
                simp only [Act.put, List.setIfInBounds_toArray, List.set_cons_zero, List.set_cons_succ]
                refine wpAnyH_take (i := 17) (oi := { dst := some 121, op := Go.Op.move (Go.Operand.tmp 0), type := 41, pos := "l06_graph.go:126", after := #[{ on := 12, ground := Go.Ground.guard }], guard := some (12, false) }) (v := .pointer (some ⟨b, 0, none⟩)) rfl (by kernel_rfl) (by kernel_rfl) (by kernel_rfl) (fun _ _ _ h => h) (Or.inl ⟨by rfl, by intro w hSw; (try dsimp only at hSw); go_simp⟩) (by assumption) ?_
                simp only [Act.put, List.setIfInBounds_toArray, List.set_cons_zero, List.set_cons_succ]
                refine wpAnyH_take (i := 18) (oi := { dst := some 122, op := Go.Op.nilCheck (Go.Operand.tmp 121), type := 0, pos := "l06_graph.go:126", after := #[{ on := 17, ground := Go.Ground.data }, { on := 12, ground := Go.Ground.guard }], guard := some (12, false) }) (v := .pointer (some ⟨b, 0, none⟩)) rfl (by kernel_rfl) (by kernel_rfl) (by kernel_rfl) (fun _ _ _ h => h) (Or.inl ⟨by rfl, by intro w hSw; (try dsimp only at hSw); go_simp⟩) (by assumption) ?_
                simp only [Act.put, List.setIfInBounds_toArray, List.set_cons_zero, List.set_cons_succ]
                refine wpAnyH_take (i := 19) (oi := { dst := some 123, op := Go.Op.fieldAddr 33 (Go.Operand.tmp 122) 0, type := 0, pos := "l06_graph.go:126", after := #[{ on := 18, ground := Go.Ground.data }, { on := 12, ground := Go.Ground.guard }], guard := some (12, false) }) (v := .pointer (some ⟨b, 0, none⟩)) rfl (by kernel_rfl) (by kernel_rfl) (by kernel_rfl) (fun _ _ _ h => h) (Or.inl ⟨by rfl, by intro w hSw; (try dsimp only at hSw); go_simp⟩) (by assumption) ?_
                simp only [Act.put, List.setIfInBounds_toArray, List.set_cons_zero, List.set_cons_succ]
                refine wpAnyH_take (i := 20) (oi := { dst := some 124, op := Go.Op.load 30 (Go.Operand.tmp 123), type := 30, pos := "l06_graph.go:126", after := #[{ on := 19, ground := Go.Ground.data }, { on := 12, ground := Go.Ground.guard }], guard := some (12, false) }) (v := .slice an g.nodes.length cn) rfl (by kernel_rfl) (by kernel_rfl) (by kernel_rfl) (fun _ _ _ h => h) (Or.inl ⟨by rfl, by intro w hSw; (try dsimp only at hSw); go_simp⟩) (by assumption) ?_
                simp only [Act.put, List.setIfInBounds_toArray, List.set_cons_zero, List.set_cons_succ]
                refine wpAnyH_take (i := 21) (oi := { dst := some 125, op := Go.Op.call { callee := Go.Callee.builtin Go.Builtin.len, args := #[Go.Operand.tmp 124], argTypes := #[30] }, type := 3, pos := "l06_graph.go:126", after := #[{ on := 20, ground := Go.Ground.data }, { on := 12, ground := Go.Ground.guard }], guard := some (12, false) }) (v := .int .i64 (g.nodes.length : Int)) rfl (by kernel_rfl) (by kernel_rfl) (by kernel_rfl) (fun _ _ _ h => h) (Or.inl ⟨by rfl, by intro w hSw; (try dsimp only at hSw); go_simp⟩) (by assumption) ?_
                simp only [Act.put, List.setIfInBounds_toArray, List.set_cons_zero, List.set_cons_succ]
                refine wpAnyH_take (i := 22) (oi := { dst := some 126, op := Go.Op.binOp Go.BinOp.sub 2 (Go.Operand.tmp 125) (Go.Operand.const (Go.Value.int Go.IntKind.i64 1)) 2, type := 2, pos := "l06_graph.go:126", after := #[{ on := 21, ground := Go.Ground.data }, { on := 12, ground := Go.Ground.guard }], guard := some (12, false) }) (v := .int .i64 ((g.nodes.length : Int) - 1)) rfl (by kernel_rfl) (by kernel_rfl) (by kernel_rfl) (fun _ _ _ h => h) (Or.inl ⟨by rfl, by intro w hSw; (try dsimp only at hSw); go_simp⟩) (by assumption) ?_
                simp only [Act.put, List.setIfInBounds_toArray, List.set_cons_zero, List.set_cons_succ]
                refine wpAnyH_ready (rs := [23]) (by kernel_rfl) (by simp) ?_
                refine AllReadyH.cons (o := { dst := some 127, op := Go.Op.call { callee := Go.Callee.value (Go.Operand.func 27), args := #[Go.Operand.tmp 120, Go.Operand.const (Go.Value.int Go.IntKind.i64 0), Go.Operand.tmp 126], argTypes := #[2, 2, 2] }, type := 4, pos := "l06_graph.go:126", after := #[{ on := 16, ground := Go.Ground.data }, { on := 22, ground := Go.Ground.data }, { on := 12, ground := Go.Ground.chain }, { on := 12, ground := Go.Ground.guard }], guard := some (12, false) }) rfl (fun K hK => ?_) AllReadyH.nil
                go_simp
                go_at_call 27
                refine (HI2.out _).mono ?_
                rintro e w1 ⟨rfl, hw1⟩
                replace hw1 := hw1.symm
                subst hw1
                go_wp2_with fail
                refine hK.out _ _ ⟨t0, t2, t3, hbd, hgd, rfl⟩ (fun hHeld => ?_)
                clear hK K
                try simp only [Act.put, List.setIfInBounds_toArray, List.set_cons_zero, List.set_cons_succ]
                refine wpAnyH_take (i := 24) (oi := { dst := some 128, op := Go.Op.unOp Go.UnOp.not 4 (Go.Operand.tmp 127), type := 4, pos := "l06_graph.go:126", after := #[{ on := 23, ground := Go.Ground.data }, { on := 12, ground := Go.Ground.guard }], guard := some (12, false) }) (v := .bool false) rfl (by kernel_rfl) (by kernel_rfl) (by kernel_rfl) (fun _ _ _ h => h) (Or.inl ⟨by rfl, by intro w hSw; (try dsimp only at hSw); go_simp⟩) (by assumption) ?_
                simp only [Act.put, List.setIfInBounds_toArray, List.set_cons_zero, List.set_cons_succ]
                refine wpAnyH_take (i := 25) (oi := { dst := some 129, op := Go.Op.pick (Go.Operand.tmp 116) (Go.Operand.const (Go.Value.bool true)) (Go.Operand.tmp 128), type := 4, pos := "l06_graph.go:126", after := #[{ on := 12, ground := Go.Ground.data }, { on := 24, ground := Go.Ground.data }], guard := none }) (v := .bool false) rfl (by kernel_rfl) (by kernel_rfl) (by kernel_rfl) (fun _ _ _ h => h) (Or.inl ⟨by rfl, by intro w hSw; (try dsimp only at hSw); go_simp⟩) (by assumption) ?_
                simp only [Act.put, List.setIfInBounds_toArray, List.set_cons_zero, List.set_cons_succ]
                refine wpAnyH_done (by kernel_rfl) ?_ _
                go_wp2_with fail
                go_meet
                exact ⟨by rw [h1, h2]; rfl, rfl⟩
          case rest =>
            obtain ⟨rfl, hwc⟩ := hcut
            replace hwc := hwc.symm
            subst hwc
            clear HI1 HI2 d0 d1 d2 k0 k1 HPR HBR hbr hgf hwn
            generalize wr.drew = wd at *
            generalize hbad : (!(inR fd.src 0 ((g.nodes.length : Int) - 1)) || !(inR fd.dst 0 ((g.nodes.length : Int) - 1))) = bad at *
            cases bad with
            | true =>
              have HX := hid (HC1.out (by
                cases h1 : inR fd.src 0 ((g.nodes.length : Int) - 1)
                · exact .inl rfl
                · rw [h1] at hbad; simp at hbad; exact .inr hbad))
              have HXE := hid (HB.out (by rw [HX.out]; decide))
              clear hbad
              go_wp2
              go_ret
              exact ⟨by rw [HXE.out, HX.out]; rfl, HBD.out⟩
            | false =>
            obtain ⟨h1, h2⟩ : inR fd.src 0 ((g.nodes.length : Int) - 1) = true ∧ inR fd.dst 0 ((g.nodes.length : Int) - 1) = true := by simpa using hbad
            clear hbad
            by_cases h3 : (16 : Int) < (fd.cond.length : Int)
            · have HX := hid (HC2.out h1 h2 h3)
              have HXE := hid (HB.out (by rw [HX.out]; decide))
              go_wp2
              go_ret
              exact ⟨by rw [HXE.out, HX.out]; rfl, HBD.out⟩
            have p5 : decide ((16 : Int) < (fd.cond.length : Int)) = false := decide_eq_false h3
            have HC3' := hid (HC3.out h1 h2 h3)
            have HC4' := hid (HC4.out h1 h2 h3)
            clear h1 h2 h3 HC1 HC2 HC3 HC4
            cases x with
            | zero =>
              have HX := hid (HC4'.out (by omega))
              have HZ := hid (HN2.out HX.out)
              go_wp2
              go_region
              all_goals go_wp2
              all_goals exact ⟨⟨1, by simp, ⟨_, rfl⟩, by omega, HZ, hid HBD.out.drew⟩, by simp [intOf]; omega⟩
            | succ m =>
              have cp := HPD.out m rfl
              have q3 : (0 : Int) < (m : Int) + 1 := by omega
              have q4 : (m : Int) < (g.flows.length : Int) := by omega
              generalize hps : (FJ g.flows m).src = ps at *
              by_cases h4 : fd.src < ps
              · have HX := hid (HC3'.out ⟨Nat.succ_pos m, by rw [show m + 1 - 1 = m from rfl, hps]; exact h4⟩)
                have HXE := hid (HB.out (by rw [HX.out]; decide))
                clear hps
                go_wp2
                go_region
                all_goals go_wp2
                all_goals go_ret
                all_goals exact ⟨by rw [HXE.out, HX.out]; rfl, HBD.out.drew⟩
              · have HX := hid (HC4'.out (fun h => h4 (by have := h.2; rw [show m + 1 - 1 = m from rfl, hps] at this; exact this)))
                have HZ := hid (HN2.out HX.out)
                have p6 : decide (fd.src < ps) = false := decide_eq_false h4
                clear hps h4
                go_wp2
                go_region
                all_goals go_wp2
                all_goals exact ⟨⟨m + 1 + 1, by simp, ⟨_, rfl⟩, by omega, HZ, hid HBD.out.drew⟩, by simp [intOf]; omega⟩
        · have q2 : ¬ (x : Int) < (g.flows.length : Int) := by omega
          obtain rfl : x = g.flows.length := by omega
          have HX := hid (g_ok HNO.out H0.out HF0.out)
          go_wp2
          go_ret
          exact ⟨by rw [HX.out]; rfl, HBR.out⟩
end Gr
end Go.Proofs.YtepfkfhbkbkepaaDoor
