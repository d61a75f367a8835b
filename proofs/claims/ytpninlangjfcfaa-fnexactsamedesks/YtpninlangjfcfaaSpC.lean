/- Whether two lists of steps are the same, as the specification tells it. -/
import Derived.Test.YtpninlangjfcfaaSpB
namespace Go.Proofs.Ytpninlangjfcfaa
open Go.RowKit
set_option linter.unusedVariables false
namespace St
open Ex (hid)
open Nd (NodeD nodeEq neqNode nd_guard below_drewN)
set_option maxRecDepth 100000 in
set_option maxHeartbeats 2000000 in
theorem specNodes (B1 B2 : Nat) (l m : List NodeD) (v1 v2 : Value) (w : World) (hl : l.length ≤ 1048576) (hm : m.length ≤ 1048576) (h1 : Nd.At w B1 v1 l) (h2 : Nd.At w B2 v2 m) :
    Calls Try.prog 33 #[v1, v2] w fun e w' => e = .returned (.bool (listEq nodeEq l m)) ∧ ∃ q, w' = w.drewN q := by
  obtain ⟨a1, c1, rfl⟩ := h1.slice
  obtain ⟨a2, c2, rfl⟩ := h2.slice
  have H1 := hid h1
  have H2 := hid h2
  clear h1 h2
  by_cases he : l.length = m.length
  · have hb : ((l.length : Int) != (m.length : Int)) = false := by simp [he]
    have HE := hid he
    clear he
    go_enter Try.func33, Try.ntmps33
    go_wp2
    go_loopw [5] (fun i wr => ∃ k : Nat, i = .int .i64 k ∧ k ≤ l.length ∧ Hid (listEq nodeEq l m = listEq nodeEq (l.drop k) (m.drop k)) ∧ ∃ q, wr = w.drewN q) (fun i _ => l.length - (intOf i).toNat)
    case atStart => exact ⟨0, rfl, Nat.zero_le _, rfl, 0, rfl⟩
    case round =>
      obtain ⟨k, rfl, hk, HS, hqq⟩ := hrel
      have HQQ := hid hqq
      have hbel : Below w.heap.size w wr := by
        obtain ⟨q, rfl⟩ := hqq
        exact below_drewN (Below.refl _ _) q
      clear hqq
      by_cases hlt : k < l.length
      · have hlt2 : k < m.length := by rw [← HE.out]; exact hlt
        obtain ⟨g1, o1, rfl, hg1, p0, p1, p2, p3⟩ := (H1.out.below hbel).at hlt
        obtain ⟨g2, o2, rfl, hg2, q0, q1, q2, q3⟩ := (H2.out.below hbel).at hlt2
        have r1 : (k : Int) < (l.length : Int) := by omega
        have r2 : (k : Int) < (m.length : Int) := by omega
        have hq := fun wx => neqNode l[k] m[k] wx
        have hgd := fun (op : BinOp) (x y : Operand) (wx : World) => run_eqGuard_agg (P := Try.prog) wx op 89 x y #[.int .i64 l[k].kind, .int .i64 l[k].value, .int .i64 l[k].left, .int .i64 l[k].right] #[.int .i64 m[k].kind, .int .i64 m[k].value, .int .i64 m[k].left, .int .i64 m[k].right] nd_guard
        cases hE : nodeEq l[k] m[k]
        · have HF : Hid (listEq nodeEq l m = false) := hid (by rw [HS.out, listEq_step hlt hlt2, hE, Bool.false_and])
          rw [hE] at hq
          go_wp2
          try simp only [List.append_eq, List.cons_append, List.nil_append]
          go_quiet (fail)
          go_wp2
          go_ret
          exact ⟨by rw [HF.out]; rfl, quiet_more HQQ.out nq⟩
        · have HF : Hid (listEq nodeEq l m = listEq nodeEq (l.drop (k + 1)) (m.drop (k + 1))) := hid (by rw [HS.out, listEq_step hlt hlt2, hE, Bool.true_and])
          rw [hE] at hq
          go_wp2
          try simp only [List.append_eq, List.cons_append, List.nil_append]
          go_quiet (fail)
          go_wp2
          exact ⟨⟨k + 1, by simp, by omega, HF, quiet_more HQQ.out nq⟩, by simp [intOf]; omega⟩
      · have HT : Hid (listEq nodeEq l m = true) := hid (by rw [HS.out]; exact listEq_end (by omega) (by have := HE.out; omega))
        go_wp2
        go_ret
        exact ⟨by rw [HT.out]; rfl, HQQ.out⟩
  · have hb : ((l.length : Int) != (m.length : Int)) = true := bne_iff_ne.2 (fun e => he (by omega))
    have HE := hid (listEq_len (f := nodeEq) he)
    clear he
    go_enter Try.func33, Try.ntmps33
    go_wp2
    go_ret
    exact ⟨by rw [HE.out]; rfl, 0, rfl⟩
set_option maxRecDepth 100000 in
set_option maxHeartbeats 8000000 in
theorem specSame (B1 B2 : Nat) (l m : List StepD) (v1 v2 : Value) (w : World) (hl : Small 1048576 l) (hm : Small 1048576 m) (h1 : At w B1 v1 l) (h2 : At w B2 v2 m) :
    Calls Try.prog 20 #[v1, v2] w fun e w' => e = .returned (.bool (listEq stepEq l m)) ∧ Below w.heap.size w w' := by
  obtain ⟨a1, c1, rfl⟩ := h1.slice
  obtain ⟨a2, c2, rfl⟩ := h2.slice
  have H1 := hid h1
  have H2 := hid h2
  have HL := hid hl
  have HM := hid hm
  have hlen := hl.1
  have hmen := hm.1
  clear h1 h2 hl hm
  by_cases he : l.length = m.length
  · have hb : ((l.length : Int) != (m.length : Int)) = false := by simp [he]
    have HE := hid he
    clear he
    go_enter Try.func20, Try.ntmps20
    go_wp2
    go_loopw [5, 6, 7] (fun i _ _ wr => ∃ k : Nat, i = .int .i64 k ∧ k ≤ l.length ∧ Hid (listEq stepEq l m = listEq stepEq (l.drop k) (m.drop k)) ∧ Below w.heap.size w wr) (fun i _ _ _ => l.length - (intOf i).toNat)
    case atStart => exact ⟨0, rfl, Nat.zero_le _, rfl, Below.refl _ _⟩
    case round =>
      obtain ⟨k, rfl, hk, HS, hbel⟩ := hrel
      by_cases hlt : k < l.length
      · have hlt2 : k < m.length := by rw [← HE.out]; exact hlt
        obtain ⟨g1, o1, vc1, ve1, rfl, hg1, p0, p1, p2, p3, p4, p5, hc1, he1⟩ := (H1.out.below hbel).at hlt
        obtain ⟨g2, o2, vc2, ve2, rfl, hg2, q0, q1, q2, q3, q4, q5, hc2, he2⟩ := (H2.out.below hbel).at hlt2
        have t1 : (k : Int) < (l.length : Int) := by omega
        have t2 : (k : Int) < (m.length : Int) := by omega
        have hsl := HL.out.at hlt
        have hsm := HM.out.at hlt2
        have HST := hid (listEq_step (f := stepEq) hlt hlt2)
        have HVC1 := hid hc1
        have HVE1 := hid he1
        have HVC2 := hid hc2
        have HVE2 := hid he2
        obtain ⟨a3, c3, rfl⟩ := hc1.slice
        obtain ⟨a4, c4, rfl⟩ := he1.slice
        obtain ⟨a5, c5, rfl⟩ := hc2.slice
        obtain ⟨a6, c6, rfl⟩ := he2.slice
        have s1 := hsl.2.1
        have s2 := hsl.2.2
        have s3 := hsm.2.1
        have s4 := hsm.2.2
        clear hc1 he1 hc2 he2 hsl hsm
        cases h1 : (l[k].kind == m[k].kind)
        · have HF : Hid (listEq stepEq l m = false) := hid (by rw [HS.out, HST.out]; simp [stepEq, h1])
          have b1 := bne_int h1
          simp only [Bool.not_false] at b1
          go_wp2
          try simp only [List.append_eq, List.cons_append, List.nil_append]
          go_quiet (fail)
          go_wp2
          go_ret
          exact ⟨by rw [HF.out]; rfl, below_drewN hbel nq⟩
        have b1 := bne_int h1
        simp only [Bool.not_true] at b1
        cases h2 : (l[k].parent == m[k].parent)
        · have HF : Hid (listEq stepEq l m = false) := hid (by rw [HS.out, HST.out]; simp [stepEq, h2])
          have b2 := bne_int h2
          simp only [Bool.not_false] at b2
          go_wp2
          try simp only [List.append_eq, List.cons_append, List.nil_append]
          go_quiet (fail)
          go_wp2
          go_ret
          exact ⟨by rw [HF.out]; rfl, below_drewN hbel nq⟩
        have b2 := bne_int h2
        simp only [Bool.not_true] at b2
        cases h3 : (l[k].name.toList == m[k].name.toList)
        · have HF : Hid (listEq stepEq l m = false) := hid (by rw [HS.out, HST.out]; simp [stepEq, h3])
          have b3 := bne_str h3
          simp only [Bool.not_false] at b3
          go_wp2
          try simp only [List.append_eq, List.cons_append, List.nil_append]
          go_quiet (fail)
          go_wp2
          go_ret
          exact ⟨by rw [HF.out]; rfl, below_drewN hbel nq⟩
        have b3 := bne_str h3
        simp only [Bool.not_true] at b3
        cases h4 : (l[k].arg == m[k].arg)
        · have HF : Hid (listEq stepEq l m = false) := hid (by rw [HS.out, HST.out]; simp [stepEq, h4])
          have b4 := bne_int h4
          simp only [Bool.not_false] at b4
          go_wp2
          try simp only [List.append_eq, List.cons_append, List.nil_append]
          go_quiet (fail)
          go_wp2
          go_ret
          exact ⟨by rw [HF.out]; rfl, below_drewN hbel nq⟩
        have b4 := bne_int h4
        simp only [Bool.not_true] at b4
        have HG : Hid (listEq stepEq l m = (listEq nodeEq l[k].cond m[k].cond && listEq nodeEq l[k].expr m[k].expr && listEq stepEq (l.drop (k + 1)) (m.drop (k + 1)))) := hid (by rw [HS.out, HST.out]; simp [stepEq, h1, h2, h3, h4])
        have HN : Hid (∀ (q : Nat) (u1 u2 : Value) (r : Bool), (u1 = .slice a3 l[k].cond.length c3 ∧ u2 = .slice a5 m[k].cond.length c5 ∧ r = listEq nodeEq l[k].cond m[k].cond) ∨ (u1 = .slice a4 l[k].expr.length c4 ∧ u2 = .slice a6 m[k].expr.length c6 ∧ r = listEq nodeEq l[k].expr m[k].expr) → Calls Try.prog 33 #[u1, u2] (wr.drewN q) fun e w' => e = .returned (.bool r) ∧ ∃ n, w' = (wr.drewN q).drewN n) := hid (fun q u1 u2 r h => by
          rcases h with ⟨rfl, rfl, rfl⟩ | ⟨rfl, rfl, rfl⟩
          · exact specNodes B1 B2 l[k].cond m[k].cond _ _ _ (by omega) (by omega) (HVC1.out.kept (Nat.le_refl _) (fun _ _ _ => rfl)) (HVC2.out.kept (Nat.le_refl _) (fun _ _ _ => rfl))
          · exact specNodes B1 B2 l[k].expr m[k].expr _ _ _ (by omega) (by omega) (HVE1.out.kept (Nat.le_refl _) (fun _ _ _ => rfl)) (HVE2.out.kept (Nat.le_refl _) (fun _ _ _ => rfl)))
        clear HVC1 HVC2 HVE1 HVE2
        generalize listEq nodeEq l[k].cond m[k].cond = bc at *
        generalize listEq nodeEq l[k].expr m[k].expr = be at *
        cases bc
        · have HF : Hid (listEq stepEq l m = false) := hid (by rw [HG.out, Bool.false_and, Bool.false_and])
          clear HG
          go_wp2
          try simp only [List.append_eq, List.cons_append, List.nil_append]
          go_quiet ((go_at_call 33; exact Calls.quiet_of (HN.out _ _ _ _ (by first | exact .inl ⟨rfl, rfl, rfl⟩ | exact .inr ⟨rfl, rfl, rfl⟩))))
          go_wp2
          go_ret
          exact ⟨by rw [HF.out]; rfl, below_drewN hbel nq⟩
        have HG2 : Hid (listEq stepEq l m = (be && listEq stepEq (l.drop (k + 1)) (m.drop (k + 1)))) := hid (by rw [HG.out, Bool.true_and])
        clear HG
        cases be
        · have HF : Hid (listEq stepEq l m = false) := hid (by rw [HG2.out, Bool.false_and])
          clear HG2
          go_wp2
          try simp only [List.append_eq, List.cons_append, List.nil_append]
          go_quiet ((go_at_call 33; exact Calls.quiet_of (HN.out _ _ _ _ (by first | exact .inl ⟨rfl, rfl, rfl⟩ | exact .inr ⟨rfl, rfl, rfl⟩))))
          go_wp2
          go_ret
          exact ⟨by rw [HF.out]; rfl, below_drewN hbel nq⟩
        · have HF : Hid (listEq stepEq l m = listEq stepEq (l.drop (k + 1)) (m.drop (k + 1))) := hid (by rw [HG2.out, Bool.true_and])
          clear HG2
          go_wp2
          try simp only [List.append_eq, List.cons_append, List.nil_append]
          go_quiet ((go_at_call 33; exact Calls.quiet_of (HN.out _ _ _ _ (by first | exact .inl ⟨rfl, rfl, rfl⟩ | exact .inr ⟨rfl, rfl, rfl⟩))))
          go_wp2
          exact ⟨⟨k + 1, by simp, by omega, HF, below_drewN hbel nq⟩, by simp [intOf]; omega⟩
      · have HT : Hid (listEq stepEq l m = true) := hid (by rw [HS.out]; exact listEq_end (by omega) (by have := HE.out; omega))
        go_wp2
        go_ret
        exact ⟨by rw [HT.out]; rfl, hbel⟩
  · have hb : ((l.length : Int) != (m.length : Int)) = true := bne_iff_ne.2 (fun e => he (by omega))
    have HE := hid (listEq_len (f := stepEq) he)
    clear he
    go_enter Try.func20, Try.ntmps20
    go_wp2
    go_ret
    exact ⟨by rw [HE.out]; rfl, Below.refl _ _⟩
end St
end Go.Proofs.Ytpninlangjfcfaa
