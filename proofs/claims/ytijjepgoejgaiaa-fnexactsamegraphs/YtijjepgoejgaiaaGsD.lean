/- Whether two graphs are the same, as the specification tells it. -/
import Derived.Test.YtijjepgoejgaiaaSmA
import Derived.Test.YtijjepgoejgaiaaGrA
namespace Go.Proofs.Ytijjepgoejgaiaa
open Go.RowKit
set_option linter.unusedVariables false
namespace Gr
open Ex (hid)
open Nd (NodeD nodeEq below_drewN)
open Sm
open Rc
open Gn (GNodeD)
open Fl (FlowD)
def gnodeEq (a b : GNodeD) : Bool := a.kind == b.kind && a.step == b.step && a.name.toList == b.name.toList && a.arg == b.arg && listEq nodeEq a.expr b.expr
def flowEq (a b : FlowD) : Bool := a.src == b.src && a.dst == b.dst && listEq nodeEq a.cond b.cond
def graphEq (g h : GraphD) : Bool := listEq gnodeEq g.nodes h.nodes && listEq flowEq g.flows h.flows
theorem gEq_n {g h : GraphD} (e : listEq gnodeEq g.nodes h.nodes = false) : graphEq g h = false := by unfold graphEq; rw [e, Bool.false_and]
theorem gEq_f {g h : GraphD} (e : listEq flowEq g.flows h.flows = false) : graphEq g h = false := by unfold graphEq; rw [e, Bool.and_false]
set_option maxRecDepth 100000 in
set_option maxHeartbeats 8000000 in
theorem specSame1 (B1 B2 P1 P2 : Nat) (g h : GraphD) (vn vf un uf : Value) (w : World) (hl : Small 1048576 g) (hm : Small 1048576 h) (h1 : At w B1 vn vf g) (h2 : At w B2 un uf h) (hP1 : P1 < w.heap.size) (hP2 : P2 < w.heap.size) (u0 : w.cell? ⟨P1, 0, none⟩ = some vn) (u1 : w.cell? ⟨P1, 1, none⟩ = some vf) (u2 : w.cell? ⟨P2, 0, none⟩ = some un) (u3 : w.cell? ⟨P2, 1, none⟩ = some uf) :
    Calls Try.prog 11 #[.pointer (some ⟨P1, 0, none⟩), .pointer (some ⟨P2, 0, none⟩)] w fun e w' => e = .returned (.bool (graphEq g h)) ∧ Below w.heap.size w w' := by
  obtain ⟨a1, c1, rfl⟩ := h1.nodes.slice
  obtain ⟨a2, c2, rfl⟩ := h1.flows.slice
  obtain ⟨a3, c3, rfl⟩ := h2.nodes.slice
  obtain ⟨a5, c5, rfl⟩ := h2.flows.slice
  have H1 := hid h1
  have H2 := hid h2
  have HL := hid hl
  have HM := hid hm
  have hl1 := hl.nodes.1
  have hl2 := hl.flows.1
  have hm1 := hm.nodes.1
  have hm2 := hm.flows.1
  have HNO0 := hid (fun e => gEq_n (g := g) (h := h) e)
  have HNO1 := hid (fun e => gEq_f (g := g) (h := h) e)
  clear h1 h2 hl hm
  by_cases he : g.nodes.length = h.nodes.length
  · have hb : ((g.nodes.length : Int) != (h.nodes.length : Int)) = false := by simp [he]
    by_cases hf : g.flows.length = h.flows.length
    · have hb2 : ((g.flows.length : Int) != (h.flows.length : Int)) = false := by simp [hf]
      have HE0 := hid he
      have HE1 := hid hf
      clear he hf
      go_enter Try.func11, Try.ntmps11
      go_wp2
      try simp only [List.append_eq, List.cons_append, List.nil_append]
      go_quiet (fail)
      have HB0 : Hid (Below w.heap.size w (w.drewN nq)) := hid (below_drewN (Below.refl _ _) nq)
      replace H1 := hid (H1.out.below HB0.out)
      replace H2 := hid (H2.out.below HB0.out)
      replace hP1 : P1 < (w.drewN nq).heap.size := hP1
      replace hP2 : P2 < (w.drewN nq).heap.size := hP2
      replace u0 := old_cell HB0.out hP1 u0
      replace u1 := old_cell HB0.out hP1 u1
      replace u2 := old_cell HB0.out hP2 u2
      replace u3 := old_cell HB0.out hP2 u3
      generalize w.drewN nq = wd at *
      go_wp2
      go_loopw [5, 6, 7] (fun i _ _ wr => ∃ k : Nat, i = .int .i64 k ∧ k ≤ g.nodes.length ∧ Hid (listEq gnodeEq g.nodes h.nodes = listEq gnodeEq (g.nodes.drop k) (h.nodes.drop k)) ∧ Hid (Below wd.heap.size wd wr)) (fun i _ _ _ => g.nodes.length - (intOf i).toNat)
      case atStart => exact ⟨0, rfl, Nat.zero_le _, hid rfl, hid (Below.refl _ _)⟩
      case round =>
        obtain ⟨k, rfl, hk, HS, hbelH⟩ := hrel
        have c0 := old_cell hbelH.out hP1 u0
        have c1 := old_cell hbelH.out hP1 u1
        have d0 := old_cell hbelH.out hP2 u2
        have d1 := old_cell hbelH.out hP2 u3
        by_cases hlt : k < g.nodes.length
        · have hlt2 : k < h.nodes.length := by rw [← HE0.out]; exact hlt
          obtain ⟨g1, o1, ve1, rfl, hg1, p0, p1, p2, p3, p4, he1⟩ := (H1.out.nodes.below hbelH.out).at hlt
          obtain ⟨g2, o2, ve2, rfl, hg2, q0, q1, q2, q3, q4, he2⟩ := (H2.out.nodes.below hbelH.out).at hlt2
          have t1 : (k : Int) < (g.nodes.length : Int) := by omega
          have t2 : (k : Int) < (h.nodes.length : Int) := by omega
          have hsl : (g.nodes[k].expr.length : Int) ≤ 1048576 := (HL.out.nodes.at hlt).2
          have hsm : (h.nodes[k].expr.length : Int) ≤ 1048576 := (HM.out.nodes.at hlt2).2
          have HST := hid (listEq_step (f := gnodeEq) hlt hlt2)
          have HVE1 := hid he1
          have HVE2 := hid he2
          obtain ⟨a4, c4, rfl⟩ := he1.slice
          obtain ⟨a6, c6, rfl⟩ := he2.slice
          clear he1 he2
          cases h1 : (g.nodes[k].kind == h.nodes[k].kind)
          · have HF : Hid (listEq gnodeEq g.nodes h.nodes = false) := hid (by rw [HS.out, HST.out]; simp [gnodeEq, h1])
            have b1 := bne_int h1
            simp only [Bool.not_false] at b1
            go_wp2
            try simp only [List.append_eq, List.cons_append, List.nil_append]
            go_quiet (fail)
            go_wp2
            go_ret
            exact ⟨by rw [HNO0.out HF.out]; rfl, below_drewN (HB0.out.trans (hbelH.out.mono HB0.out.size)) nq⟩
          have b1 := bne_int h1
          simp only [Bool.not_true] at b1
          cases h2 : (g.nodes[k].step == h.nodes[k].step)
          · have HF : Hid (listEq gnodeEq g.nodes h.nodes = false) := hid (by rw [HS.out, HST.out]; simp [gnodeEq, h2])
            have b2 := bne_int h2
            simp only [Bool.not_false] at b2
            go_wp2
            try simp only [List.append_eq, List.cons_append, List.nil_append]
            go_quiet (fail)
            go_wp2
            go_ret
            exact ⟨by rw [HNO0.out HF.out]; rfl, below_drewN (HB0.out.trans (hbelH.out.mono HB0.out.size)) nq⟩
          have b2 := bne_int h2
          simp only [Bool.not_true] at b2
          cases h3 : (g.nodes[k].name.toList == h.nodes[k].name.toList)
          · have HF : Hid (listEq gnodeEq g.nodes h.nodes = false) := hid (by rw [HS.out, HST.out]; simp [gnodeEq, h3])
            have b3 := bne_str h3
            simp only [Bool.not_false] at b3
            go_wp2
            try simp only [List.append_eq, List.cons_append, List.nil_append]
            go_quiet (fail)
            go_wp2
            go_ret
            exact ⟨by rw [HNO0.out HF.out]; rfl, below_drewN (HB0.out.trans (hbelH.out.mono HB0.out.size)) nq⟩
          have b3 := bne_str h3
          simp only [Bool.not_true] at b3
          cases h4 : (g.nodes[k].arg == h.nodes[k].arg)
          · have HF : Hid (listEq gnodeEq g.nodes h.nodes = false) := hid (by rw [HS.out, HST.out]; simp [gnodeEq, h4])
            have b4 := bne_int h4
            simp only [Bool.not_false] at b4
            go_wp2
            try simp only [List.append_eq, List.cons_append, List.nil_append]
            go_quiet (fail)
            go_wp2
            go_ret
            exact ⟨by rw [HNO0.out HF.out]; rfl, below_drewN (HB0.out.trans (hbelH.out.mono HB0.out.size)) nq⟩
          have b4 := bne_int h4
          simp only [Bool.not_true] at b4
          have HG : Hid (listEq gnodeEq g.nodes h.nodes = (listEq nodeEq g.nodes[k].expr h.nodes[k].expr && listEq gnodeEq (g.nodes.drop (k + 1)) (h.nodes.drop (k + 1)))) := hid (by rw [HS.out, HST.out]; simp [gnodeEq, h1, h2, h3, h4])
          have HN : Hid (∀ (q : Nat) (r : Bool), r = listEq nodeEq g.nodes[k].expr h.nodes[k].expr → Calls Try.prog 22 #[.slice a4 g.nodes[k].expr.length c4, .slice a6 h.nodes[k].expr.length c6] (wr.drewN q) fun e w' => e = .returned (.bool r) ∧ ∃ n, w' = (wr.drewN q).drewN n) := hid (fun q r h => by
            subst h
            exact specNodes B1 B2 g.nodes[k].expr h.nodes[k].expr _ _ _ (by omega) (by omega) (HVE1.out.kept (Nat.le_refl _) (fun _ _ _ => rfl)) (HVE2.out.kept (Nat.le_refl _) (fun _ _ _ => rfl)))
          clear HVE1 HVE2
          generalize listEq nodeEq g.nodes[k].expr h.nodes[k].expr = be at *
          cases be
          · have HF : Hid (listEq gnodeEq g.nodes h.nodes = false) := hid (by rw [HG.out, Bool.false_and])
            clear HG
            go_wp2
            try simp only [List.append_eq, List.cons_append, List.nil_append]
            go_quiet ((go_at_call 22; exact Calls.quiet_of (HN.out _ _ rfl)))
            go_wp2
            go_ret
            exact ⟨by rw [HNO0.out HF.out]; rfl, below_drewN (HB0.out.trans (hbelH.out.mono HB0.out.size)) nq⟩
          · have HF : Hid (listEq gnodeEq g.nodes h.nodes = listEq gnodeEq (g.nodes.drop (k + 1)) (h.nodes.drop (k + 1))) := hid (by rw [HG.out, Bool.true_and])
            clear HG
            go_wp2
            try simp only [List.append_eq, List.cons_append, List.nil_append]
            go_quiet ((go_at_call 22; exact Calls.quiet_of (HN.out _ _ rfl)))
            go_wp2
            exact ⟨⟨k + 1, by simp, by omega, HF, hid (below_drewN hbelH.out nq)⟩, by simp [intOf]; omega⟩
        · have HT0 : Hid (listEq gnodeEq g.nodes h.nodes = true) := hid (by rw [HS.out]; exact listEq_end (by omega) (by have := HE0.out; omega))
          have HB1 := hid (HB0.out.trans (hbelH.out.mono HB0.out.size))
          clear HS u0 u1 u2 u3
          replace hP1 := Nat.lt_of_lt_of_le hP1 hbelH.out.size
          replace hP2 := Nat.lt_of_lt_of_le hP2 hbelH.out.size
          replace H1 := hid (H1.out.below hbelH.out)
          replace H2 := hid (H2.out.below hbelH.out)
          clear hbelH
          have u0 := c0
          have u1 := c1
          have u2 := d0
          have u3 := d1
          clear c0 c1 d0 d1
          go_wp2_with fail
          clear hlt hk
          obtain ⟨wo, hwo⟩ : ∃ wo, wo = wr := ⟨_, rfl⟩
          subst hwo
          go_loopw [8, 9, 10] (fun i _ _ wr => ∃ k : Nat, i = .int .i64 k ∧ k ≤ g.flows.length ∧ Hid (listEq flowEq g.flows h.flows = listEq flowEq (g.flows.drop k) (h.flows.drop k)) ∧ Hid (Below wo.heap.size wo wr)) (fun i _ _ _ => g.flows.length - (intOf i).toNat)
          case atStart => exact ⟨0, rfl, Nat.zero_le _, hid rfl, hid (Below.refl _ _)⟩
          case round =>
            obtain ⟨k, rfl, hk, HS, hbelH⟩ := hrel
            have c0 := old_cell hbelH.out hP1 u0
            have c1 := old_cell hbelH.out hP1 u1
            have d0 := old_cell hbelH.out hP2 u2
            have d1 := old_cell hbelH.out hP2 u3
            by_cases hlt : k < g.flows.length
            · have hlt2 : k < h.flows.length := by rw [← HE1.out]; exact hlt
              obtain ⟨g1, o1, ve1, rfl, hg1, p0, p1, p2, he1⟩ := (H1.out.flows.below hbelH.out).at hlt
              obtain ⟨g2, o2, ve2, rfl, hg2, q0, q1, q2, he2⟩ := (H2.out.flows.below hbelH.out).at hlt2
              have t1 : (k : Int) < (g.flows.length : Int) := by omega
              have t2 : (k : Int) < (h.flows.length : Int) := by omega
              have hsl : (g.flows[k].cond.length : Int) ≤ 1048576 := HL.out.flows.at hlt
              have hsm : (h.flows[k].cond.length : Int) ≤ 1048576 := HM.out.flows.at hlt2
              have HST := hid (listEq_step (f := flowEq) hlt hlt2)
              have HVE1 := hid he1
              have HVE2 := hid he2
              obtain ⟨a4, c4, rfl⟩ := he1.slice
              obtain ⟨a6, c6, rfl⟩ := he2.slice
              clear he1 he2
              cases h1 : (g.flows[k].src == h.flows[k].src)
              · have HF : Hid (listEq flowEq g.flows h.flows = false) := hid (by rw [HS.out, HST.out]; simp [flowEq, h1])
                have b1 := bne_int h1
                simp only [Bool.not_false] at b1
                go_wp2
                try simp only [List.append_eq, List.cons_append, List.nil_append]
                go_quiet (fail)
                go_wp2
                go_ret
                exact ⟨by rw [HNO1.out HF.out]; rfl, below_drewN (HB1.out.trans (hbelH.out.mono HB1.out.size)) nq⟩
              have b1 := bne_int h1
              simp only [Bool.not_true] at b1
              cases h2 : (g.flows[k].dst == h.flows[k].dst)
              · have HF : Hid (listEq flowEq g.flows h.flows = false) := hid (by rw [HS.out, HST.out]; simp [flowEq, h2])
                have b2 := bne_int h2
                simp only [Bool.not_false] at b2
                go_wp2
                try simp only [List.append_eq, List.cons_append, List.nil_append]
                go_quiet (fail)
                go_wp2
                go_ret
                exact ⟨by rw [HNO1.out HF.out]; rfl, below_drewN (HB1.out.trans (hbelH.out.mono HB1.out.size)) nq⟩
              have b2 := bne_int h2
              simp only [Bool.not_true] at b2
              have HG : Hid (listEq flowEq g.flows h.flows = (listEq nodeEq g.flows[k].cond h.flows[k].cond && listEq flowEq (g.flows.drop (k + 1)) (h.flows.drop (k + 1)))) := hid (by rw [HS.out, HST.out]; simp [flowEq, h1, h2])
              have HN : Hid (∀ (q : Nat) (r : Bool), r = listEq nodeEq g.flows[k].cond h.flows[k].cond → Calls Try.prog 22 #[.slice a4 g.flows[k].cond.length c4, .slice a6 h.flows[k].cond.length c6] (wr.drewN q) fun e w' => e = .returned (.bool r) ∧ ∃ n, w' = (wr.drewN q).drewN n) := hid (fun q r h => by
                subst h
                exact specNodes B1 B2 g.flows[k].cond h.flows[k].cond _ _ _ (by omega) (by omega) (HVE1.out.kept (Nat.le_refl _) (fun _ _ _ => rfl)) (HVE2.out.kept (Nat.le_refl _) (fun _ _ _ => rfl)))
              clear HVE1 HVE2
              generalize listEq nodeEq g.flows[k].cond h.flows[k].cond = be at *
              cases be
              · have HF : Hid (listEq flowEq g.flows h.flows = false) := hid (by rw [HG.out, Bool.false_and])
                clear HG
                go_wp2
                try simp only [List.append_eq, List.cons_append, List.nil_append]
                go_quiet ((go_at_call 22; exact Calls.quiet_of (HN.out _ _ rfl)))
                go_wp2
                go_ret
                exact ⟨by rw [HNO1.out HF.out]; rfl, below_drewN (HB1.out.trans (hbelH.out.mono HB1.out.size)) nq⟩
              · have HF : Hid (listEq flowEq g.flows h.flows = listEq flowEq (g.flows.drop (k + 1)) (h.flows.drop (k + 1))) := hid (by rw [HG.out, Bool.true_and])
                clear HG
                go_wp2
                try simp only [List.append_eq, List.cons_append, List.nil_append]
                go_quiet ((go_at_call 22; exact Calls.quiet_of (HN.out _ _ rfl)))
                go_wp2
                exact ⟨⟨k + 1, by simp, by omega, HF, hid (below_drewN hbelH.out nq)⟩, by simp [intOf]; omega⟩
            · have HT1 : Hid (listEq flowEq g.flows h.flows = true) := hid (by rw [HS.out]; exact listEq_end (by omega) (by have := HE1.out; omega))
              go_wp2
              go_ret
              exact ⟨by unfold graphEq; rw [HT0.out, HT1.out]; rfl, HB1.out.trans (hbelH.out.mono HB1.out.size)⟩
    · have hb2 : ((g.flows.length : Int) != (h.flows.length : Int)) = true := bne_iff_ne.2 (fun e => hf (by omega))
      have HE := hid (HNO1.out (listEq_len (f := flowEq) hf))
      clear he hf
      go_enter Try.func11, Try.ntmps11
      go_wp2
      try simp only [List.append_eq, List.cons_append, List.nil_append]
      go_quiet (fail)
      go_wp2
      go_ret
      exact ⟨by rw [HE.out]; rfl, below_drewN (Below.refl _ _) nq⟩
  · have hb : ((g.nodes.length : Int) != (h.nodes.length : Int)) = true := bne_iff_ne.2 (fun e => he (by omega))
    have HE := hid (HNO0.out (listEq_len (f := gnodeEq) he))
    clear he
    go_enter Try.func11, Try.ntmps11
    go_wp2
    try simp only [List.append_eq, List.cons_append, List.nil_append]
    go_quiet (fail)
    go_wp2
    go_ret
    exact ⟨by rw [HE.out]; rfl, below_drewN (Below.refl _ _) nq⟩
set_option maxRecDepth 100000 in
set_option maxHeartbeats 1000000 in
theorem specSame (B1 B2 : Nat) (g h : GraphD) (vn vf un uf : Value) (w : World) (hl : Small 1048576 g) (hm : Small 1048576 h) (h1 : At w B1 vn vf g) (h2 : At w B2 un uf h) :
    Calls Try.prog 5 #[.agg #[vn, vf], .agg #[un, uf]] w fun e w' => e = .returned (.bool (graphEq g h)) ∧ Below w.heap.size w w' := by
  have hB : Below w.heap.size w ((w.alloc (.cells #[vn, vf] 31)).alloc (.cells #[un, uf] 31)) := ((Below.refl _ w).alloc (Nat.le_refl _) _).alloc (by simp) _
  have HB := hid hB
  have HC := hid (specSame1 B1 B2 w.heap.size (w.heap.size + 1) g h vn vf un uf ((w.alloc (.cells #[vn, vf] 31)).alloc (.cells #[un, uf] 31)) hl hm (h1.below hB) (h2.below hB) (by simp; omega) (by simp) (by go_simp) (by go_simp) (by go_simp) (by go_simp))
  clear hB hl hm h1 h2
  go_enter Try.func5, Try.ntmps5
  go_wp2_with fail
  refine HC.out.mono ?_
  rintro e w1 ⟨rfl, hb1⟩
  have HB1 := hid (HB.out.trans (hb1.mono HB.out.size))
  clear hb1
  go_wp2
  go_ret
  exact ⟨rfl, HB1.out⟩
end Gr
end Go.Proofs.Ytijjepgoejgaiaa
