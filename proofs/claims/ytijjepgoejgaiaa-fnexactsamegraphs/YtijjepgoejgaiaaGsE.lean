/- Whether two graphs are the same, as the program tells it. -/
import Derived.Test.YtijjepgoejgaiaaGsD
namespace Go.Proofs.Ytijjepgoejgaiaa
open Go.RowKit
set_option linter.unusedVariables false
namespace Gr
open Ex (hid)
open Nd (NodeD nodeEq below_drewN)
open Sm
open Rc
open Gn (GNodeD)
open Fl (FlowD)
set_option maxRecDepth 100000 in
set_option maxHeartbeats 4000000 in
theorem sameNodes (B1 B2 : Nat) (x y : GNodeD) (e1 e2 : Value) (w : World) (s1 : (x.expr.length : Int) ≤ 1048576) (s2 : (y.expr.length : Int) ≤ 1048576) (h1 : Nd.At w B1 e1 x.expr) (h2 : Nd.At w B2 e2 y.expr) :
    Calls Try.prog 15 #[.agg #[.int .i64 x.kind, .int .i64 x.step, .string x.name, .int .i64 x.arg, e1], .agg #[.int .i64 y.kind, .int .i64 y.step, .string y.name, .int .i64 y.arg, e2]] w fun e w' => e = .returned (.bool (gnodeEq x y)) ∧ Below w.heap.size w w' := by
  obtain ⟨a1, k1, rfl⟩ := h1.slice
  obtain ⟨a2, k2, rfl⟩ := h2.slice
  have hB : Below w.heap.size w ((w.alloc (.cells #[.int .i64 x.kind, .int .i64 x.step, .string x.name, .int .i64 x.arg, .slice a1 x.expr.length k1] 43)).alloc (.cells #[.int .i64 y.kind, .int .i64 y.step, .string y.name, .int .i64 y.arg, .slice a2 y.expr.length k2] 43)) := ((Below.refl _ w).alloc (Nat.le_refl _) _).alloc (by simp) _
  have H1 := hid (h1.below hB)
  have H2 := hid (h2.below hB)
  have HB := hid hB
  clear h1 h2 hB
  cases h1 : (x.kind == y.kind)
  · have HV : Hid (gnodeEq x y = false) := hid (by simp [gnodeEq, h1])
    go_enter Try.func15, Try.ntmps15
    go_wp2
    go_ret
    exact ⟨by rw [HV.out]; rfl, HB.out⟩
  cases h2 : (x.step == y.step)
  · have HV : Hid (gnodeEq x y = false) := hid (by simp [gnodeEq, h2])
    go_enter Try.func15, Try.ntmps15
    go_wp2
    go_ret
    exact ⟨by rw [HV.out]; rfl, HB.out⟩
  cases h3 : (x.name.toList == y.name.toList)
  · have HV : Hid (gnodeEq x y = false) := hid (by simp [gnodeEq, h3])
    go_enter Try.func15, Try.ntmps15
    go_wp2
    go_ret
    exact ⟨by rw [HV.out]; rfl, HB.out⟩
  cases h4 : (x.arg == y.arg)
  · have HV : Hid (gnodeEq x y = false) := hid (by simp [gnodeEq, h4])
    go_enter Try.func15, Try.ntmps15
    go_wp2
    go_ret
    exact ⟨by rw [HV.out]; rfl, HB.out⟩
  have HV : Hid (gnodeEq x y = listEq nodeEq x.expr y.expr) := hid (by simp [gnodeEq, h1, h2, h3, h4])
  have HN := hid (implNodes B1 B2 x.expr y.expr _ _ _ (by omega) (by omega) H1.out H2.out)
  go_enter Try.func15, Try.ntmps15
  go_wp2_with fail
  refine HN.out.mono ?_
  rintro e w1 ⟨rfl, hb1⟩
  have HB1 := hid (HB.out.trans (hb1.mono HB.out.size))
  clear HN
  go_wp2
  go_ret
  exact ⟨by rw [HV.out]; rfl, HB1.out⟩
set_option maxRecDepth 100000 in
set_option maxHeartbeats 8000000 in
theorem GnEqual (B1 B2 : Nat) (l m : List GNodeD) (v1 v2 : Value) (w : World) (hl : Gn.Small 1048576 l) (hm : Gn.Small 1048576 m) (h1 : Gn.At w B1 v1 l) (h2 : Gn.At w B2 v2 m) :
    Calls Try.prog 14 #[v1, v2, .func (.func 15) #[] #[]] w fun e w' => e = .returned (.bool (listEq gnodeEq l m)) ∧ Below w.heap.size w w' := by
  obtain ⟨a1, c1, rfl⟩ := h1.slice
  obtain ⟨a2, c2, rfl⟩ := h2.slice
  have H1 := hid h1
  have H2 := hid h2
  have HL := hid hl
  have HM := hid hm
  have hlen := hl.1
  have hmen := hm.1
  clear h1 h2 hl hm
  by_cases he : l.length = m.length
  · have hb : ((l.length : Int) != (m.length : Int)) = false := by simp [he]
    have HE := hid he
    clear he
    go_enter Try.func14, Try.ntmps14
    go_wp2
    go_loopw [7, 8, 9, 17] (fun _ _ _ i wr => ∃ k : Nat, i = .int .i64 k ∧ k ≤ l.length ∧ Hid (listEq gnodeEq l m = listEq gnodeEq (l.drop k) (m.drop k)) ∧ Below w.heap.size w wr) (fun _ _ _ i _ => l.length - (intOf i).toNat)
    case atStart => exact ⟨0, rfl, Nat.zero_le _, rfl, Below.refl _ _⟩
    case round =>
      obtain ⟨k, rfl, hk, HS, hbel⟩ := hrel
      by_cases hlt : k < l.length
      · have hlt2 : k < m.length := by rw [← HE.out]; exact hlt
        obtain ⟨g1, o1, ve1, rfl, hg1, p0, p1, p2, p3, p4, he1⟩ := (H1.out.below hbel).at hlt
        obtain ⟨g2, o2, ve2, rfl, hg2, q0, q1, q2, q3, q4, he2⟩ := (H2.out.below hbel).at hlt2
        have t1 : (k : Int) < (l.length : Int) := by omega
        have t2 : (k : Int) < (m.length : Int) := by omega
        have hsl : (l[k].expr.length : Int) ≤ 1048576 := (HL.out.at hlt).2
        have hsm : (m[k].expr.length : Int) ≤ 1048576 := (HM.out.at hlt2).2
        have HST := hid (listEq_step (f := gnodeEq) hlt hlt2)
        have HC : Hid (∀ w1 : World, Below wr.heap.size wr w1 → Calls Try.prog 15 #[.agg #[.int .i64 l[k].kind, .int .i64 l[k].step, .string l[k].name, .int .i64 l[k].arg, ve1], .agg #[.int .i64 m[k].kind, .int .i64 m[k].step, .string m[k].name, .int .i64 m[k].arg, ve2]] w1 fun e w' => e = .returned (.bool (gnodeEq l[k] m[k])) ∧ Below w1.heap.size w1 w') := hid (fun w1 hb => sameNodes B1 B2 l[k] m[k] ve1 ve2 w1 hsl hsm (he1.below hb) (he2.below hb))
        obtain ⟨a4, c4, rfl⟩ := he1.slice
        obtain ⟨a6, c6, rfl⟩ := he2.slice
        clear he1 he2 hsl hsm
        go_wp2_with fail
        refine (HC.out _ ?hB).mono ?_
        case hB => exact ((Below.refl _ wr).alloc (Nat.le_refl _) _).alloc (by simp) _
        rintro e w1 ⟨rfl, hb1⟩
        have hB1 : Below wr.heap.size wr w1 := (((Below.refl _ wr).alloc (Nat.le_refl _) _).alloc (by simp) _).trans (hb1.mono (by simp; omega))
        have hB2 := hbel.trans (hB1.mono hbel.size)
        cases hE : gnodeEq l[k] m[k]
        · have HF : Hid (listEq gnodeEq l m = false) := hid (by rw [HS.out, HST.out, hE, Bool.false_and])
          clear hE
          go_wp2
          go_ret
          exact ⟨by rw [HF.out]; rfl, hB2⟩
        · have HF : Hid (listEq gnodeEq l m = listEq gnodeEq (l.drop (k + 1)) (m.drop (k + 1))) := hid (by rw [HS.out, HST.out, hE, Bool.true_and])
          clear hE
          go_wp2
          exact ⟨⟨k + 1, by simp, by omega, HF, hB2⟩, by simp [intOf]; omega⟩
      · have HT : Hid (listEq gnodeEq l m = true) := hid (by rw [HS.out]; exact listEq_end (by omega) (by have := HE.out; omega))
        go_wp2
        go_ret
        exact ⟨by rw [HT.out]; rfl, hbel⟩
  · have hb : ((l.length : Int) != (m.length : Int)) = true := bne_iff_ne.2 (fun e => he (by omega))
    have HE := hid (listEq_len (f := gnodeEq) he)
    clear he
    go_enter Try.func14, Try.ntmps14
    go_wp2
    go_ret
    exact ⟨by rw [HE.out]; rfl, Below.refl _ _⟩
set_option maxRecDepth 100000 in
set_option maxHeartbeats 4000000 in
theorem sameFlows (B1 B2 : Nat) (x y : FlowD) (e1 e2 : Value) (w : World) (s1 : (x.cond.length : Int) ≤ 1048576) (s2 : (y.cond.length : Int) ≤ 1048576) (h1 : Nd.At w B1 e1 x.cond) (h2 : Nd.At w B2 e2 y.cond) :
    Calls Try.prog 17 #[.agg #[.int .i64 x.src, .int .i64 x.dst, e1], .agg #[.int .i64 y.src, .int .i64 y.dst, e2]] w fun e w' => e = .returned (.bool (flowEq x y)) ∧ Below w.heap.size w w' := by
  obtain ⟨a1, k1, rfl⟩ := h1.slice
  obtain ⟨a2, k2, rfl⟩ := h2.slice
  have hB : Below w.heap.size w ((w.alloc (.cells #[.int .i64 x.src, .int .i64 x.dst, .slice a1 x.cond.length k1] 47)).alloc (.cells #[.int .i64 y.src, .int .i64 y.dst, .slice a2 y.cond.length k2] 47)) := ((Below.refl _ w).alloc (Nat.le_refl _) _).alloc (by simp) _
  have H1 := hid (h1.below hB)
  have H2 := hid (h2.below hB)
  have HB := hid hB
  clear h1 h2 hB
  cases h1 : (x.src == y.src)
  · have HV : Hid (flowEq x y = false) := hid (by simp [flowEq, h1])
    go_enter Try.func17, Try.ntmps17
    go_wp2
    go_ret
    exact ⟨by rw [HV.out]; rfl, HB.out⟩
  cases h2 : (x.dst == y.dst)
  · have HV : Hid (flowEq x y = false) := hid (by simp [flowEq, h2])
    go_enter Try.func17, Try.ntmps17
    go_wp2
    go_ret
    exact ⟨by rw [HV.out]; rfl, HB.out⟩
  have HV : Hid (flowEq x y = listEq nodeEq x.cond y.cond) := hid (by simp [flowEq, h1, h2])
  have HN := hid (implNodes B1 B2 x.cond y.cond _ _ _ (by omega) (by omega) H1.out H2.out)
  go_enter Try.func17, Try.ntmps17
  go_wp2_with fail
  refine HN.out.mono ?_
  rintro e w1 ⟨rfl, hb1⟩
  have HB1 := hid (HB.out.trans (hb1.mono HB.out.size))
  clear HN
  go_wp2
  go_ret
  exact ⟨by rw [HV.out]; rfl, HB1.out⟩
set_option maxRecDepth 100000 in
set_option maxHeartbeats 8000000 in
theorem FlEqual (B1 B2 : Nat) (l m : List FlowD) (v1 v2 : Value) (w : World) (hl : Fl.Small 1048576 l) (hm : Fl.Small 1048576 m) (h1 : Fl.At w B1 v1 l) (h2 : Fl.At w B2 v2 m) :
    Calls Try.prog 16 #[v1, v2, .func (.func 17) #[] #[]] w fun e w' => e = .returned (.bool (listEq flowEq l m)) ∧ Below w.heap.size w w' := by
  obtain ⟨a1, c1, rfl⟩ := h1.slice
  obtain ⟨a2, c2, rfl⟩ := h2.slice
  have H1 := hid h1
  have H2 := hid h2
  have HL := hid hl
  have HM := hid hm
  have hlen := hl.1
  have hmen := hm.1
  clear h1 h2 hl hm
  by_cases he : l.length = m.length
  · have hb : ((l.length : Int) != (m.length : Int)) = false := by simp [he]
    have HE := hid he
    clear he
    go_enter Try.func16, Try.ntmps16
    go_wp2
    go_loopw [7, 8, 9, 17] (fun _ _ _ i wr => ∃ k : Nat, i = .int .i64 k ∧ k ≤ l.length ∧ Hid (listEq flowEq l m = listEq flowEq (l.drop k) (m.drop k)) ∧ Below w.heap.size w wr) (fun _ _ _ i _ => l.length - (intOf i).toNat)
    case atStart => exact ⟨0, rfl, Nat.zero_le _, rfl, Below.refl _ _⟩
    case round =>
      obtain ⟨k, rfl, hk, HS, hbel⟩ := hrel
      by_cases hlt : k < l.length
      · have hlt2 : k < m.length := by rw [← HE.out]; exact hlt
        obtain ⟨g1, o1, ve1, rfl, hg1, p0, p1, p2, he1⟩ := (H1.out.below hbel).at hlt
        obtain ⟨g2, o2, ve2, rfl, hg2, q0, q1, q2, he2⟩ := (H2.out.below hbel).at hlt2
        have t1 : (k : Int) < (l.length : Int) := by omega
        have t2 : (k : Int) < (m.length : Int) := by omega
        have hsl : (l[k].cond.length : Int) ≤ 1048576 := HL.out.at hlt
        have hsm : (m[k].cond.length : Int) ≤ 1048576 := HM.out.at hlt2
        have HST := hid (listEq_step (f := flowEq) hlt hlt2)
        have HC : Hid (∀ w1 : World, Below wr.heap.size wr w1 → Calls Try.prog 17 #[.agg #[.int .i64 l[k].src, .int .i64 l[k].dst, ve1], .agg #[.int .i64 m[k].src, .int .i64 m[k].dst, ve2]] w1 fun e w' => e = .returned (.bool (flowEq l[k] m[k])) ∧ Below w1.heap.size w1 w') := hid (fun w1 hb => sameFlows B1 B2 l[k] m[k] ve1 ve2 w1 hsl hsm (he1.below hb) (he2.below hb))
        obtain ⟨a4, c4, rfl⟩ := he1.slice
        obtain ⟨a6, c6, rfl⟩ := he2.slice
        clear he1 he2 hsl hsm
        go_wp2_with fail
        refine (HC.out _ ?hB).mono ?_
        case hB => exact ((Below.refl _ wr).alloc (Nat.le_refl _) _).alloc (by simp) _
        rintro e w1 ⟨rfl, hb1⟩
        have hB1 : Below wr.heap.size wr w1 := (((Below.refl _ wr).alloc (Nat.le_refl _) _).alloc (by simp) _).trans (hb1.mono (by simp; omega))
        have hB2 := hbel.trans (hB1.mono hbel.size)
        cases hE : flowEq l[k] m[k]
        · have HF : Hid (listEq flowEq l m = false) := hid (by rw [HS.out, HST.out, hE, Bool.false_and])
          clear hE
          go_wp2
          go_ret
          exact ⟨by rw [HF.out]; rfl, hB2⟩
        · have HF : Hid (listEq flowEq l m = listEq flowEq (l.drop (k + 1)) (m.drop (k + 1))) := hid (by rw [HS.out, HST.out, hE, Bool.true_and])
          clear hE
          go_wp2
          exact ⟨⟨k + 1, by simp, by omega, HF, hB2⟩, by simp [intOf]; omega⟩
      · have HT : Hid (listEq flowEq l m = true) := hid (by rw [HS.out]; exact listEq_end (by omega) (by have := HE.out; omega))
        go_wp2
        go_ret
        exact ⟨by rw [HT.out]; rfl, hbel⟩
  · have hb : ((l.length : Int) != (m.length : Int)) = true := bne_iff_ne.2 (fun e => he (by omega))
    have HE := hid (listEq_len (f := flowEq) he)
    clear he
    go_enter Try.func16, Try.ntmps16
    go_wp2
    go_ret
    exact ⟨by rw [HE.out]; rfl, Below.refl _ _⟩
set_option maxRecDepth 100000 in
set_option maxHeartbeats 2000000 in
theorem implSame (B1 B2 : Nat) (g h : GraphD) (vn vf un uf : Value) (w : World) (hl : Small 1048576 g) (hm : Small 1048576 h) (h1 : At w B1 vn vf g) (h2 : At w B2 un uf h) :
    Calls Try.prog 7 #[.agg #[vn, vf], .agg #[un, uf]] w fun e w' => e = .returned (.bool (graphEq g h)) ∧ Below w.heap.size w w' := by
  obtain ⟨a1, c1, rfl⟩ := h1.nodes.slice
  obtain ⟨a2, c2, rfl⟩ := h1.flows.slice
  obtain ⟨a3, c3, rfl⟩ := h2.nodes.slice
  obtain ⟨a5, c5, rfl⟩ := h2.flows.slice
  have hB : Below w.heap.size w ((w.alloc (.cells #[.slice a1 g.nodes.length c1, .slice a2 g.flows.length c2] 31)).alloc (.cells #[.slice a3 h.nodes.length c3, .slice a5 h.flows.length c5] 31)) := ((Below.refl _ w).alloc (Nat.le_refl _) _).alloc (by simp) _
  have HB := hid hB
  have HC := hid (GnEqual B1 B2 g.nodes h.nodes _ _ _ hl.nodes hm.nodes (h1.nodes.below hB) (h2.nodes.below hB))
  have HD := hid (fun w' (hb : Below w.heap.size w w') => FlEqual B1 B2 g.flows h.flows _ _ w' hl.flows hm.flows (h1.flows.below hb) (h2.flows.below hb))
  clear h1 h2 hl hm hB
  go_enter Try.func7, Try.ntmps7
  go_wp2_with fail
  refine HC.out.mono ?_
  rintro e w1 ⟨rfl, hb1⟩
  have HB1 := hid (HB.out.trans (hb1.mono HB.out.size))
  have r1 := hb1.size
  simp only [World.size_alloc] at r1
  have d1 := (hb1.cell (p := ⟨w.heap.size, 1, none⟩) (by simp; omega)).trans (show _ = some (.slice a2 g.flows.length c2) by go_simp)
  have d2 := (hb1.cell (p := ⟨w.heap.size + 1, 1, none⟩) (by simp)).trans (show _ = some (.slice a5 h.flows.length c5) by go_simp)
  have l1 : w.heap.size < w1.heap.size := by omega
  have l2 : w.heap.size + 1 < w1.heap.size := by omega
  cases h5 : listEq gnodeEq g.nodes h.nodes
  · have HV : Hid (graphEq g h = false) := hid (gEq_n h5)
    clear h5 HC
    go_wp2
    go_ret
    exact ⟨by rw [HV.out]; rfl, HB1.out⟩
  · have HV : Hid (graphEq g h = listEq flowEq g.flows h.flows) := hid (by unfold graphEq; rw [h5]; rfl)
    clear h5 HC
    go_wp2_with fail
    refine (HD.out _ HB1.out).mono ?_
    rintro e w2 ⟨rfl, hb2⟩
    have HB2 := hid (HB1.out.trans (hb2.mono HB1.out.size))
    go_wp2
    go_ret
    exact ⟨by rw [HV.out]; rfl, HB2.out⟩
end Gr
end Go.Proofs.Ytijjepgoejgaiaa
