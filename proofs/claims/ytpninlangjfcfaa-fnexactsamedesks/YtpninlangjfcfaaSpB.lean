/- Whether two lists of steps are the same, as the program and as the specification tell it. -/
import Derived.Test.YtpninlangjfcfaaSpA
namespace Go.Proofs.Ytpninlangjfcfaa
open Go.RowKit
set_option linter.unusedVariables false
namespace St
open Ex (hid)
open Nd (NodeD nodeEq neqNode nd_guard below_drewN)
theorem bne_str {a b : ByteArray} {c : Bool} (h : (a.toList == b.toList) = c) : (a.toList != b.toList) = !c := by rw [bne, h]
theorem quiet_more {w wr : World} (h : ∃ q, wr = w.drewN q) (n : Nat) : ∃ q, wr.drewN n = w.drewN q := by
  obtain ⟨q, rfl⟩ := h
  exact ⟨q + n, World.drewN_drewN _ _ _⟩
theorem bne_int {a b : Int} {c : Bool} (h : (a == b) = c) : (a != b) = !c := by rw [bne, h]
set_option maxRecDepth 100000 in
set_option maxHeartbeats 2000000 in
theorem implNodes (B1 B2 : Nat) (l m : List NodeD) (v1 v2 : Value) (w : World) (hl : l.length ≤ 1048576) (hm : m.length ≤ 1048576) (h1 : Nd.At w B1 v1 l) (h2 : Nd.At w B2 v2 m) :
    Calls Try.prog 54 #[v1, v2] w fun e w' => e = .returned (.bool (listEq nodeEq l m)) ∧ Below w.heap.size w w' := by
  obtain ⟨a1, c1, rfl⟩ := h1.slice
  obtain ⟨a2, c2, rfl⟩ := h2.slice
  have H1 := hid h1
  have H2 := hid h2
  clear h1 h2
  by_cases he : l.length = m.length
  · have hb : ((l.length : Int) != (m.length : Int)) = false := by simp [he]
    have HE := hid he
    clear he
    go_enter Try.func54, Try.ntmps54
    go_wp2
    go_loopw [5, 13] (fun _ i wr => ∃ k : Nat, i = .int .i64 k ∧ k ≤ l.length ∧ Hid (listEq nodeEq l m = listEq nodeEq (l.drop k) (m.drop k)) ∧ Below w.heap.size w wr) (fun _ i _ => l.length - (intOf i).toNat)
    case atStart => exact ⟨0, rfl, Nat.zero_le _, rfl, Below.refl _ _⟩
    case round =>
      obtain ⟨k, rfl, hk, HS, hbel⟩ := hrel
      by_cases hlt : k < l.length
      · have hlt2 : k < m.length := by rw [← HE.out]; exact hlt
        obtain ⟨g1, o1, rfl, hg1, p0, p1, p2, p3⟩ := (H1.out.below hbel).at hlt
        obtain ⟨g2, o2, rfl, hg2, q0, q1, q2, q3⟩ := (H2.out.below hbel).at hlt2
        have r1 : (k : Int) < (l.length : Int) := by omega
        have r2 : (k : Int) < (m.length : Int) := by omega
        have hq := fun wx => neqNode l[k] m[k] wx
        have hgd := fun (op : BinOp) (x y : Operand) (wx : World) => run_eqGuard_agg (P := Try.prog) wx op 89 x y #[.int .i64 l[k].kind, .int .i64 l[k].value, .int .i64 l[k].left, .int .i64 l[k].right] #[.int .i64 m[k].kind, .int .i64 m[k].value, .int .i64 m[k].left, .int .i64 m[k].right] nd_guard
        cases hE : nodeEq l[k] m[k]
        · have HF : Hid (listEq nodeEq l m = false) := hid (by rw [HS.out, listEq_step hlt hlt2, hE, Bool.false_and])
          rw [hE] at hq
          go_wp2
          go_quiet (fail)
          go_wp2
          go_ret
          exact ⟨by rw [HF.out]; rfl, below_drewN hbel nq⟩
        · have HF : Hid (listEq nodeEq l m = listEq nodeEq (l.drop (k + 1)) (m.drop (k + 1))) := hid (by rw [HS.out, listEq_step hlt hlt2, hE, Bool.true_and])
          rw [hE] at hq
          go_wp2
          go_quiet (fail)
          go_wp2
          exact ⟨⟨k + 1, by simp, by omega, HF, below_drewN hbel nq⟩, by simp [intOf]; omega⟩
      · have HT : Hid (listEq nodeEq l m = true) := hid (by rw [HS.out]; exact listEq_end (by omega) (by have := HE.out; omega))
        go_wp2
        go_ret
        exact ⟨by rw [HT.out]; rfl, hbel⟩
  · have hb : ((l.length : Int) != (m.length : Int)) = true := bne_iff_ne.2 (fun e => he (by omega))
    have HE := hid (listEq_len (f := nodeEq) he)
    clear he
    go_enter Try.func54, Try.ntmps54
    go_wp2
    go_ret
    exact ⟨by rw [HE.out]; rfl, Below.refl _ _⟩
set_option maxRecDepth 100000 in
set_option maxHeartbeats 4000000 in
theorem sameSteps (B1 B2 : Nat) (x y : StepD) (c1 e1 c2 e2 : Value) (w : World) (hl : Small1 1048576 x) (hm : Small1 1048576 y) (h1 : Nd.At w B1 c1 x.cond) (h2 : Nd.At w B1 e1 x.expr) (h3 : Nd.At w B2 c2 y.cond) (h4 : Nd.At w B2 e2 y.expr) :
    Calls Try.prog 46 #[.agg #[.int .i64 x.kind, .int .i64 x.parent, .string x.name, .int .i64 x.arg, c1, e1], .agg #[.int .i64 y.kind, .int .i64 y.parent, .string y.name, .int .i64 y.arg, c2, e2]] w fun e w' => e = .returned (.bool (stepEq x y)) ∧ Below w.heap.size w w' := by
  obtain ⟨a1, k1, rfl⟩ := h1.slice
  obtain ⟨a2, k2, rfl⟩ := h2.slice
  obtain ⟨a3, k3, rfl⟩ := h3.slice
  obtain ⟨a4, k4, rfl⟩ := h4.slice
  have hB : Below w.heap.size w ((w.alloc (.cells #[.int .i64 x.kind, .int .i64 x.parent, .string x.name, .int .i64 x.arg, .slice a1 x.cond.length k1, .slice a2 x.expr.length k2] 80)).alloc (.cells #[.int .i64 y.kind, .int .i64 y.parent, .string y.name, .int .i64 y.arg, .slice a3 y.cond.length k3, .slice a4 y.expr.length k4] 80)) := ((Below.refl _ w).alloc (Nat.le_refl _) _).alloc (by simp) _
  have H1 := hid (h1.below hB)
  have H2 := hid (h2.below hB)
  have H3 := hid (h3.below hB)
  have H4 := hid (h4.below hB)
  have HB := hid hB
  have s1 := hl.2.1
  have s2 := hl.2.2
  have s3 := hm.2.1
  have s4 := hm.2.2
  clear h1 h2 h3 h4 hB hl hm
  cases h1 : (x.kind == y.kind)
  · have HV : Hid (stepEq x y = false) := hid (by simp [stepEq, h1])
    go_enter Try.func46, Try.ntmps46
    go_wp2
    go_ret
    exact ⟨by rw [HV.out]; rfl, HB.out⟩
  cases h2 : (x.parent == y.parent)
  · have HV : Hid (stepEq x y = false) := hid (by simp [stepEq, h2])
    go_enter Try.func46, Try.ntmps46
    go_wp2
    go_ret
    exact ⟨by rw [HV.out]; rfl, HB.out⟩
  cases h3 : (x.name.toList == y.name.toList)
  · have HV : Hid (stepEq x y = false) := hid (by simp [stepEq, h3])
    go_enter Try.func46, Try.ntmps46
    go_wp2
    go_ret
    exact ⟨by rw [HV.out]; rfl, HB.out⟩
  cases h4 : (x.arg == y.arg)
  · have HV : Hid (stepEq x y = false) := hid (by simp [stepEq, h4])
    go_enter Try.func46, Try.ntmps46
    go_wp2
    go_ret
    exact ⟨by rw [HV.out]; rfl, HB.out⟩
  have HG : Hid (stepEq x y = (listEq nodeEq x.cond y.cond && listEq nodeEq x.expr y.expr)) := hid (by simp [stepEq, h1, h2, h3, h4])
  have HN := hid (implNodes B1 B2 x.cond y.cond _ _ _ (by omega) (by omega) H1.out H3.out)
  go_enter Try.func46, Try.ntmps46
  go_wp2_with fail
  refine HN.out.mono ?_
  rintro e w1 ⟨rfl, hb1⟩
  have HB1 := hid (HB.out.trans (hb1.mono HB.out.size))
  have r1 := hb1.size
  simp only [World.size_alloc] at r1
  have d1 := (hb1.cell (p := ⟨w.heap.size, 5, none⟩) (by simp; omega)).trans (show _ = some (.slice a2 x.expr.length k2) by go_simp)
  have d2 := (hb1.cell (p := ⟨w.heap.size + 1, 5, none⟩) (by simp)).trans (show _ = some (.slice a4 y.expr.length k4) by go_simp)
  have l1 : w.heap.size < w1.heap.size := by omega
  have l2 : w.heap.size + 1 < w1.heap.size := by omega
  cases h5 : listEq nodeEq x.cond y.cond
  · have HV : Hid (stepEq x y = false) := hid (by rw [HG.out, h5]; rfl)
    clear h5 HN
    go_wp2
    go_ret
    exact ⟨by rw [HV.out]; rfl, HB1.out⟩
  · have HV : Hid (stepEq x y = listEq nodeEq x.expr y.expr) := hid (by rw [HG.out, h5]; rfl)
    clear h5 HN
    have HN2 := hid (implNodes B1 B2 x.expr y.expr _ _ _ (by omega) (by omega) (H2.out.below hb1) (H4.out.below hb1))
    go_wp2_with fail
    refine HN2.out.mono ?_
    rintro e w2 ⟨rfl, hb2⟩
    have HB2 := hid (HB1.out.trans (hb2.mono HB1.out.size))
    clear HN2
    go_wp2
    go_ret
    exact ⟨by rw [HV.out]; rfl, HB2.out⟩
set_option maxRecDepth 100000 in
set_option maxHeartbeats 8000000 in
theorem equalFunc (B1 B2 : Nat) (l m : List StepD) (v1 v2 : Value) (w : World) (hl : Small 1048576 l) (hm : Small 1048576 m) (h1 : At w B1 v1 l) (h2 : At w B2 v2 m) :
    Calls Try.prog 45 #[v1, v2, .func (.func 46) #[] #[]] w fun e w' => e = .returned (.bool (listEq stepEq l m)) ∧ Below w.heap.size w w' := by
  obtain ⟨a1, c1, rfl⟩ := h1.slice
  obtain ⟨a2, c2, rfl⟩ := h2.slice
  have H1 := hid h1
  have H2 := hid h2
  have HL := hid hl
  have HM := hid hm
  have hlen := hl.1
  have hmen := hm.1
  clear h1 h2 hl hm
  by_cases he : l.length = m.length
  · have hb : ((l.length : Int) != (m.length : Int)) = false := by simp [he]
    have HE := hid he
    clear he
    go_enter Try.func45, Try.ntmps45
    go_wp2
    go_loopw [7, 8, 9, 17] (fun _ _ _ i wr => ∃ k : Nat, i = .int .i64 k ∧ k ≤ l.length ∧ Hid (listEq stepEq l m = listEq stepEq (l.drop k) (m.drop k)) ∧ Below w.heap.size w wr) (fun _ _ _ i _ => l.length - (intOf i).toNat)
    case atStart => exact ⟨0, rfl, Nat.zero_le _, rfl, Below.refl _ _⟩
    case round =>
      obtain ⟨k, rfl, hk, HS, hbel⟩ := hrel
      by_cases hlt : k < l.length
      · have hlt2 : k < m.length := by rw [← HE.out]; exact hlt
        obtain ⟨g1, o1, vc1, ve1, rfl, hg1, p0, p1, p2, p3, p4, p5, hc1, he1⟩ := (H1.out.below hbel).at hlt
        obtain ⟨g2, o2, vc2, ve2, rfl, hg2, q0, q1, q2, q3, q4, q5, hc2, he2⟩ := (H2.out.below hbel).at hlt2
        have t1 : (k : Int) < (l.length : Int) := by omega
        have t2 : (k : Int) < (m.length : Int) := by omega
        have hsl := HL.out.at hlt
        have hsm := HM.out.at hlt2
        have HST := hid (listEq_step (f := stepEq) hlt hlt2)
        have HC : Hid (∀ w1 : World, Below wr.heap.size wr w1 → Calls Try.prog 46 #[.agg #[.int .i64 l[k].kind, .int .i64 l[k].parent, .string l[k].name, .int .i64 l[k].arg, vc1, ve1], .agg #[.int .i64 m[k].kind, .int .i64 m[k].parent, .string m[k].name, .int .i64 m[k].arg, vc2, ve2]] w1 fun e w' => e = .returned (.bool (stepEq l[k] m[k])) ∧ Below w1.heap.size w1 w') := fun w1 h => sameSteps B1 B2 l[k] m[k] vc1 ve1 vc2 ve2 w1 hsl hsm (hc1.below h) (he1.below h) (hc2.below h) (he2.below h)
        obtain ⟨a3, c3, rfl⟩ := hc1.slice
        obtain ⟨a4, c4, rfl⟩ := he1.slice
        obtain ⟨a5, c5, rfl⟩ := hc2.slice
        obtain ⟨a6, c6, rfl⟩ := he2.slice
        clear hc1 he1 hc2 he2 hsl hsm
        go_wp2_with fail
        refine (HC.out _ ?hB).mono ?_
        case hB => exact ((Below.refl _ wr).alloc (Nat.le_refl _) _).alloc (by simp) _
        rintro e w1 ⟨rfl, hb1⟩
        have hB1 : Below wr.heap.size wr w1 := (((Below.refl _ wr).alloc (Nat.le_refl _) _).alloc (by simp) _).trans (hb1.mono (by simp; omega))
        have hB2 := hbel.trans (hB1.mono hbel.size)
        cases hE : stepEq l[k] m[k]
        · have HF : Hid (listEq stepEq l m = false) := hid (by rw [HS.out, HST.out, hE, Bool.false_and])
          clear hE
          go_wp2
          go_ret
          exact ⟨by rw [HF.out]; rfl, hB2⟩
        · have HF : Hid (listEq stepEq l m = listEq stepEq (l.drop (k + 1)) (m.drop (k + 1))) := hid (by rw [HS.out, HST.out, hE, Bool.true_and])
          clear hE
          go_wp2
          exact ⟨⟨k + 1, by simp, by omega, HF, hB2⟩, by simp [intOf]; omega⟩
      · have HT : Hid (listEq stepEq l m = true) := hid (by rw [HS.out]; exact listEq_end (by omega) (by have := HE.out; omega))
        go_wp2
        go_ret
        exact ⟨by rw [HT.out]; rfl, hbel⟩
  · have hb : ((l.length : Int) != (m.length : Int)) = true := bne_iff_ne.2 (fun e => he (by omega))
    have HE := hid (listEq_len (f := stepEq) he)
    clear he
    go_enter Try.func45, Try.ntmps45
    go_wp2
    go_ret
    exact ⟨by rw [HE.out]; rfl, Below.refl _ _⟩
set_option maxRecDepth 100000 in
set_option maxHeartbeats 1000000 in
theorem implSame (B1 B2 : Nat) (l m : List StepD) (v1 v2 : Value) (w : World) (hl : Small 1048576 l) (hm : Small 1048576 m) (h1 : At w B1 v1 l) (h2 : At w B2 v2 m) :
    Calls Try.prog 37 #[v1, v2] w fun e w' => e = .returned (.bool (listEq stepEq l m)) ∧ Below w.heap.size w w' := by
  have HC := hid (equalFunc B1 B2 l m v1 v2 w hl hm h1 h2)
  obtain ⟨a1, c1, rfl⟩ := h1.slice
  obtain ⟨a2, c2, rfl⟩ := h2.slice
  clear h1 h2 hl hm
  go_enter Try.func37, Try.ntmps37
  go_wp2_with fail
  refine HC.out.mono ?_
  rintro e w1 ⟨rfl, hb1⟩
  go_wp2
  go_ret
  exact ⟨rfl, hb1⟩
end St
end Go.Proofs.Ytpninlangjfcfaa
