/- Laid together: NdQ, SpA, SpB, SpC, BkM. -/
import Derived.Test.YtedgobdnjemegaaDoorNd
import Derived.Laws.StructEq
import Derived.Test.YtedgobdnjemegaaDoorJIsPlain1
import Derived.Test.YtedgobdnjemegaaDoorJIsPlain12
import Derived.Test.YtedgobdnjemegaaDoorJIsPlain36
/- Two nodes held against each other. -/
namespace Go.Proofs.YtedgobdnjemegaaDoor
open Go.RowKit
set_option linter.unusedVariables false
namespace Nd
def nodeEq (a b : NodeD) : Bool := a.kind == b.kind && a.value == b.value && a.left == b.left && a.right == b.right
theorem nodeEq_self (a : NodeD) : nodeEq a a = true := by simp [nodeEq]
theorem nd_under : Tryd.prog.underlying 84 = some (.struct (Tryd.prog.fieldsOf 84)) := by kernel_rfl
theorem nd_stood : Tryd.prog.stoodInHeld 84 = false := by kernel_rfl
theorem nd_guard : Tryd.prog.eqGuardType Tryd.prog.depth 84 = false := by kernel_rfl
set_option maxRecDepth 100000 in
theorem nd_fields : ∃ f0 f1 f2 f3 : Field, (Tryd.prog.fieldsOf 84).toList = [f0, f1, f2, f3] ∧ f0.name = "Kind" ∧ f0.type = 2 ∧ f0.offset = 0 ∧ f1.name = "Value" ∧ f1.type = 2 ∧ f1.offset = 1 ∧ f2.name = "Left" ∧ f2.type = 2 ∧ f2.offset = 2 ∧ f3.name = "Right" ∧ f3.type = 2 ∧ f3.offset = 3 := ⟨_, _, _, _, rfl, rfl, rfl, rfl, rfl, rfl, rfl, rfl, rfl, rfl, rfl, rfl, rfl⟩
set_option maxRecDepth 100000 in
/-- Two nodes held against each other. -/
theorem neqNode (a b : NodeD) (w : World) : Sem.run Tryd.prog (binOp .neq 84 (.agg #[.int .i64 a.kind, .int .i64 a.value, .int .i64 a.left, .int .i64 a.right]) (.agg #[.int .i64 b.kind, .int .i64 b.value, .int .i64 b.left, .int .i64 b.right])) w = .ok (.bool (!nodeEq a b)) w := by
  obtain ⟨f0, f1, f2, f3, hf, h1, h2, h3, h4, h5, h6, h7, h8, h9, h10, h11, h12⟩ := nd_fields
  rw [run_neq_struct, run_equalIn_struct w 9999 84 _ _ nd_under nd_stood, hf]
  have p0 : ∀ (x y z u : Value) (w : World), (part 2 #[x, y, z, u] 0).run Tryd.prog w = .ok x w := fun x y z u w => by kernel_rfl
  have p1 : ∀ (x y z u : Value) (w : World), (part 2 #[x, y, z, u] 1).run Tryd.prog w = .ok y w := fun x y z u w => by kernel_rfl
  have p2 : ∀ (x y z u : Value) (w : World), (part 2 #[x, y, z, u] 2).run Tryd.prog w = .ok z w := fun x y z u w => by kernel_rfl
  have p3 : ∀ (x y z u : Value) (w : World), (part 2 #[x, y, z, u] 3).run Tryd.prog w = .ok u w := fun x y z u w => by kernel_rfl
  simp only [Op.eqFields, h1, h2, h3, h4, h5, h6, h7, h8, h9, h10, h11, h12, Sem.run_bind, Sem.run_ite, p0, p1, p2, p3, Result.andThen_ok, run_equalIn_int w 9998 2 _ _ _ _ Tryd.underlying2]
  rw [if_pos (show "Kind" ≠ "_" by decide), if_pos (show "Value" ≠ "_" by decide), if_pos (show "Left" ≠ "_" by decide), if_pos (show "Right" ≠ "_" by decide)]
  unfold nodeEq
  cases a.kind == b.kind <;> cases a.value == b.value <;> cases a.left == b.left <;> cases a.right == b.right <;> rfl
theorem below_drewN {B : Nat} {a w : World} (h : Below B a w) (n : Nat) : Below B a (w.drewN n) := ⟨h.os, h.tape, h.output, h.size, h.block⟩
end Nd
end Go.Proofs.YtedgobdnjemegaaDoor
/- Whether two lists of steps are the same, as the program tells it. -/
namespace Go.Proofs.YtedgobdnjemegaaDoor
open Go.RowKit
set_option linter.unusedVariables false
namespace St
open Ex (hid)
open Nd (NodeD nodeEq neqNode nd_guard below_drewN)
def listEq {α : Type} (f : α → α → Bool) : List α → List α → Bool
  | [], [] => true
  | a :: r, b :: s => f a b && listEq f r s
  | _, _ => false
theorem listEq_len {α : Type} {f : α → α → Bool} : ∀ {l m : List α}, l.length ≠ m.length → listEq f l m = false
  | [], [], h => absurd rfl h
  | [], b :: s, _ => rfl
  | a :: r, [], _ => rfl
  | a :: r, b :: s, h => by
    rw [listEq, listEq_len (fun e => h (by simp [e])), Bool.and_false]
theorem listEq_step {α : Type} {f : α → α → Bool} {l m : List α} {k : Nat} (h1 : k < l.length) (h2 : k < m.length) : listEq f (l.drop k) (m.drop k) = (f l[k] m[k] && listEq f (l.drop (k + 1)) (m.drop (k + 1))) := by
  rw [List.drop_eq_getElem_cons h1, List.drop_eq_getElem_cons h2, listEq]
theorem listEq_end {α : Type} {f : α → α → Bool} {l m : List α} {k : Nat} (h1 : l.length ≤ k) (h2 : m.length ≤ k) : listEq f (l.drop k) (m.drop k) = true := by
  rw [List.drop_eq_nil_of_le h1, List.drop_eq_nil_of_le h2, listEq]
def stepEq (a b : StepD) : Bool := a.kind == b.kind && a.parent == b.parent && a.name.toList == b.name.toList && a.arg == b.arg && listEq nodeEq a.cond b.cond && listEq nodeEq a.expr b.expr
end St
end Go.Proofs.YtedgobdnjemegaaDoor
/- Whether two lists of steps are the same, as the program and as the specification tell it. -/
namespace Go.Proofs.YtedgobdnjemegaaDoor
open Go.RowKit
set_option linter.unusedVariables false
namespace St
open Ex (hid)
open Nd (NodeD nodeEq neqNode nd_guard below_drewN)
theorem bne_str {a b : ByteArray} {c : Bool} (h : (a.toList == b.toList) = c) : (a.toList != b.toList) = !c := by rw [bne, h]
theorem quiet_more {w wr : World} (h : ∃ q, wr = w.drewN q) (n : Nat) : ∃ q, wr.drewN n = w.drewN q := by
  obtain ⟨q, rfl⟩ := h
  exact ⟨q + n, World.drewN_drewN _ _ _⟩
theorem bne_int {a b : Int} {c : Bool} (h : (a == b) = c) : (a != b) = !c := by rw [bne, h]
end St
end Go.Proofs.YtedgobdnjemegaaDoor
/- Whether two lists of steps are the same, as the specification tells it. -/
namespace Go.Proofs.YtedgobdnjemegaaDoor
open Go.RowKit
set_option linter.unusedVariables false
namespace St
open Ex (hid)
open Nd (NodeD nodeEq neqNode nd_guard below_drewN)
set_option maxRecDepth 100000 in
set_option maxHeartbeats 2000000 in
theorem specNodes (B1 B2 : Nat) (l m : List NodeD) (v1 v2 : Value) (w : World) (hl : l.length ≤ 1048576) (hm : m.length ≤ 1048576) (h1 : Nd.At w B1 v1 l) (h2 : Nd.At w B2 v2 m) :
    Calls Tryd.prog 45 #[v1, v2] w fun e w' => e = .returned (.bool (listEq nodeEq l m)) ∧ ∃ q, w' = w.drewN q := by
  obtain ⟨a1, c1, rfl⟩ := h1.slice
  obtain ⟨a2, c2, rfl⟩ := h2.slice
  have H1 := hid h1
  have H2 := hid h2
  clear h1 h2
  by_cases he : l.length = m.length
  · have hb : ((l.length : Int) != (m.length : Int)) = false := by simp [he]
    have HE := hid he
    clear he
    go_enter Tryd.func45, Tryd.ntmps45
    go_wp2
    go_loopw [5] (fun i wr => ∃ k : Nat, i = .int .i64 k ∧ k ≤ l.length ∧ Hid (listEq nodeEq l m = listEq nodeEq (l.drop k) (m.drop k)) ∧ ∃ q, wr = w.drewN q) (fun i _ => l.length - (intOf i).toNat)
    case atStart => exact ⟨0, rfl, Nat.zero_le _, rfl, 0, rfl⟩
    case round =>
      obtain ⟨k, rfl, hk, HS, hqq⟩ := hrel
      have HQQ := hid hqq
      have hbel : Below w.heap.size w wr := by
        obtain ⟨q, rfl⟩ := hqq
        exact below_drewN (Below.refl _ _) q
      clear hqq
      by_cases hlt : k < l.length
      · have hlt2 : k < m.length := by rw [← HE.out]; exact hlt
        obtain ⟨g1, o1, rfl, hg1, p0, p1, p2, p3⟩ := (H1.out.below hbel).at hlt
        obtain ⟨g2, o2, rfl, hg2, q0, q1, q2, q3⟩ := (H2.out.below hbel).at hlt2
        have r1 : (k : Int) < (l.length : Int) := by omega
        have r2 : (k : Int) < (m.length : Int) := by omega
        have hq := fun wx => neqNode l[k] m[k] wx
        have hgd := fun (op : BinOp) (x y : Operand) (wx : World) => run_eqGuard_agg (P := Tryd.prog) wx op 84 x y #[.int .i64 l[k].kind, .int .i64 l[k].value, .int .i64 l[k].left, .int .i64 l[k].right] #[.int .i64 m[k].kind, .int .i64 m[k].value, .int .i64 m[k].left, .int .i64 m[k].right] nd_guard
        cases hE : nodeEq l[k] m[k]
        · have HF : Hid (listEq nodeEq l m = false) := hid (by rw [HS.out, listEq_step hlt hlt2, hE, Bool.false_and])
          rw [hE] at hq
          go_wp2
          try simp only [List.append_eq, List.cons_append, List.nil_append]
          go_quiet (fail)
          go_wp2
          go_ret
          exact ⟨by rw [HF.out]; rfl, quiet_more HQQ.out nq⟩
        · have HF : Hid (listEq nodeEq l m = listEq nodeEq (l.drop (k + 1)) (m.drop (k + 1))) := hid (by rw [HS.out, listEq_step hlt hlt2, hE, Bool.true_and])
          rw [hE] at hq
          go_wp2
          try simp only [List.append_eq, List.cons_append, List.nil_append]
          go_quiet (fail)
          go_wp2
          exact ⟨⟨k + 1, by simp, by omega, HF, quiet_more HQQ.out nq⟩, by simp [intOf]; omega⟩
      · have HT : Hid (listEq nodeEq l m = true) := hid (by rw [HS.out]; exact listEq_end (by omega) (by have := HE.out; omega))
        go_wp2
        go_ret
        exact ⟨by rw [HT.out]; rfl, HQQ.out⟩
  · have hb : ((l.length : Int) != (m.length : Int)) = true := bne_iff_ne.2 (fun e => he (by omega))
    have HE := hid (listEq_len (f := nodeEq) he)
    clear he
    go_enter Tryd.func45, Tryd.ntmps45
    go_wp2
    go_ret
    exact ⟨by rw [HE.out]; rfl, 0, rfl⟩
set_option maxRecDepth 100000 in
set_option maxHeartbeats 8000000 in
theorem specSame (B1 B2 : Nat) (l m : List StepD) (v1 v2 : Value) (w : World) (hl : Small 1048576 l) (hm : Small 1048576 m) (h1 : At w B1 v1 l) (h2 : At w B2 v2 m) :
    Calls Tryd.prog 27 #[v1, v2] w fun e w' => e = .returned (.bool (listEq stepEq l m)) ∧ Below w.heap.size w w' := by
  obtain ⟨a1, c1, rfl⟩ := h1.slice
  obtain ⟨a2, c2, rfl⟩ := h2.slice
  have H1 := hid h1
  have H2 := hid h2
  have HL := hid hl
  have HM := hid hm
  have hlen := hl.1
  have hmen := hm.1
  clear h1 h2 hl hm
  by_cases he : l.length = m.length
  · have hb : ((l.length : Int) != (m.length : Int)) = false := by simp [he]
    have HE := hid he
    clear he
    go_enter Tryd.func27, Tryd.ntmps27
    go_wp2
    go_loopw [5, 6, 7] (fun i _ _ wr => ∃ k : Nat, i = .int .i64 k ∧ k ≤ l.length ∧ Hid (listEq stepEq l m = listEq stepEq (l.drop k) (m.drop k)) ∧ Below w.heap.size w wr) (fun i _ _ _ => l.length - (intOf i).toNat)
    case atStart => exact ⟨0, rfl, Nat.zero_le _, rfl, Below.refl _ _⟩
    case round =>
      obtain ⟨k, rfl, hk, HS, hbel⟩ := hrel
      by_cases hlt : k < l.length
      · have hlt2 : k < m.length := by rw [← HE.out]; exact hlt
        obtain ⟨g1, o1, vc1, ve1, rfl, hg1, p0, p1, p2, p3, p4, p5, hc1, he1⟩ := (H1.out.below hbel).at hlt
        obtain ⟨g2, o2, vc2, ve2, rfl, hg2, q0, q1, q2, q3, q4, q5, hc2, he2⟩ := (H2.out.below hbel).at hlt2
        have t1 : (k : Int) < (l.length : Int) := by omega
        have t2 : (k : Int) < (m.length : Int) := by omega
        have hsl := HL.out.at hlt
        have hsm := HM.out.at hlt2
        have HST := hid (listEq_step (f := stepEq) hlt hlt2)
        have HVC1 := hid hc1
        have HVE1 := hid he1
        have HVC2 := hid hc2
        have HVE2 := hid he2
        obtain ⟨a3, c3, rfl⟩ := hc1.slice
        obtain ⟨a4, c4, rfl⟩ := he1.slice
        obtain ⟨a5, c5, rfl⟩ := hc2.slice
        obtain ⟨a6, c6, rfl⟩ := he2.slice
        have s1 := hsl.2.1
        have s2 := hsl.2.2
        have s3 := hsm.2.1
        have s4 := hsm.2.2
        clear hc1 he1 hc2 he2 hsl hsm
        cases h1 : (l[k].kind == m[k].kind)
        · have HF : Hid (listEq stepEq l m = false) := hid (by rw [HS.out, HST.out]; simp [stepEq, h1])
          have b1 := bne_int h1
          simp only [Bool.not_false] at b1
          go_wp2
          try simp only [List.append_eq, List.cons_append, List.nil_append]
          go_quiet (fail)
          go_wp2
          go_ret
          exact ⟨by rw [HF.out]; rfl, below_drewN hbel nq⟩
        have b1 := bne_int h1
        simp only [Bool.not_true] at b1
        cases h2 : (l[k].parent == m[k].parent)
        · have HF : Hid (listEq stepEq l m = false) := hid (by rw [HS.out, HST.out]; simp [stepEq, h2])
          have b2 := bne_int h2
          simp only [Bool.not_false] at b2
          go_wp2
          try simp only [List.append_eq, List.cons_append, List.nil_append]
          go_quiet (fail)
          go_wp2
          go_ret
          exact ⟨by rw [HF.out]; rfl, below_drewN hbel nq⟩
        have b2 := bne_int h2
        simp only [Bool.not_true] at b2
        cases h3 : (l[k].name.toList == m[k].name.toList)
        · have HF : Hid (listEq stepEq l m = false) := hid (by rw [HS.out, HST.out]; simp [stepEq, h3])
          have b3 := bne_str h3
          simp only [Bool.not_false] at b3
          go_wp2
          try simp only [List.append_eq, List.cons_append, List.nil_append]
          go_quiet (fail)
          go_wp2
          go_ret
          exact ⟨by rw [HF.out]; rfl, below_drewN hbel nq⟩
        have b3 := bne_str h3
        simp only [Bool.not_true] at b3
        cases h4 : (l[k].arg == m[k].arg)
        · have HF : Hid (listEq stepEq l m = false) := hid (by rw [HS.out, HST.out]; simp [stepEq, h4])
          have b4 := bne_int h4
          simp only [Bool.not_false] at b4
          go_wp2
          try simp only [List.append_eq, List.cons_append, List.nil_append]
          go_quiet (fail)
          go_wp2
          go_ret
          exact ⟨by rw [HF.out]; rfl, below_drewN hbel nq⟩
        have b4 := bne_int h4
        simp only [Bool.not_true] at b4
        have HG : Hid (listEq stepEq l m = (listEq nodeEq l[k].cond m[k].cond && listEq nodeEq l[k].expr m[k].expr && listEq stepEq (l.drop (k + 1)) (m.drop (k + 1)))) := hid (by rw [HS.out, HST.out]; simp [stepEq, h1, h2, h3, h4])
        have HN : Hid (∀ (q : Nat) (u1 u2 : Value) (r : Bool), (u1 = .slice a3 l[k].cond.length c3 ∧ u2 = .slice a5 m[k].cond.length c5 ∧ r = listEq nodeEq l[k].cond m[k].cond) ∨ (u1 = .slice a4 l[k].expr.length c4 ∧ u2 = .slice a6 m[k].expr.length c6 ∧ r = listEq nodeEq l[k].expr m[k].expr) → Calls Tryd.prog 45 #[u1, u2] (wr.drewN q) fun e w' => e = .returned (.bool r) ∧ ∃ n, w' = (wr.drewN q).drewN n) := hid (fun q u1 u2 r h => by
          rcases h with ⟨rfl, rfl, rfl⟩ | ⟨rfl, rfl, rfl⟩
          · exact specNodes B1 B2 l[k].cond m[k].cond _ _ _ (by omega) (by omega) (HVC1.out.kept (Nat.le_refl _) (fun _ _ _ => rfl)) (HVC2.out.kept (Nat.le_refl _) (fun _ _ _ => rfl))
          · exact specNodes B1 B2 l[k].expr m[k].expr _ _ _ (by omega) (by omega) (HVE1.out.kept (Nat.le_refl _) (fun _ _ _ => rfl)) (HVE2.out.kept (Nat.le_refl _) (fun _ _ _ => rfl)))
        clear HVC1 HVC2 HVE1 HVE2
        generalize listEq nodeEq l[k].cond m[k].cond = bc at *
        generalize listEq nodeEq l[k].expr m[k].expr = be at *
        cases bc
        · have HF : Hid (listEq stepEq l m = false) := hid (by rw [HG.out, Bool.false_and, Bool.false_and])
          clear HG
          go_wp2
          try simp only [List.append_eq, List.cons_append, List.nil_append]
          go_quiet ((go_at_call 45; exact Calls.quiet_of (HN.out _ _ _ _ (by first | exact .inl ⟨rfl, rfl, rfl⟩ | exact .inr ⟨rfl, rfl, rfl⟩))))
          go_wp2
          go_ret
          exact ⟨by rw [HF.out]; rfl, below_drewN hbel nq⟩
        have HG2 : Hid (listEq stepEq l m = (be && listEq stepEq (l.drop (k + 1)) (m.drop (k + 1)))) := hid (by rw [HG.out, Bool.true_and])
        clear HG
        cases be
        · have HF : Hid (listEq stepEq l m = false) := hid (by rw [HG2.out, Bool.false_and])
          clear HG2
          go_wp2
          try simp only [List.append_eq, List.cons_append, List.nil_append]
          go_quiet ((go_at_call 45; exact Calls.quiet_of (HN.out _ _ _ _ (by first | exact .inl ⟨rfl, rfl, rfl⟩ | exact .inr ⟨rfl, rfl, rfl⟩))))
          go_wp2
          go_ret
          exact ⟨by rw [HF.out]; rfl, below_drewN hbel nq⟩
        · have HF : Hid (listEq stepEq l m = listEq stepEq (l.drop (k + 1)) (m.drop (k + 1))) := hid (by rw [HG2.out, Bool.true_and])
          clear HG2
          go_wp2
          try simp only [List.append_eq, List.cons_append, List.nil_append]
          go_quiet ((go_at_call 45; exact Calls.quiet_of (HN.out _ _ _ _ (by first | exact .inl ⟨rfl, rfl, rfl⟩ | exact .inr ⟨rfl, rfl, rfl⟩))))
          go_wp2
          exact ⟨⟨k + 1, by simp, by omega, HF, below_drewN hbel nq⟩, by simp [intOf]; omega⟩
      · have HT : Hid (listEq stepEq l m = true) := hid (by rw [HS.out]; exact listEq_end (by omega) (by have := HE.out; omega))
        go_wp2
        go_ret
        exact ⟨by rw [HT.out]; rfl, hbel⟩
  · have hb : ((l.length : Int) != (m.length : Int)) = true := bne_iff_ne.2 (fun e => he (by omega))
    have HE := hid (listEq_len (f := stepEq) he)
    clear he
    go_enter Tryd.func27, Tryd.ntmps27
    go_wp2
    go_ret
    exact ⟨by rw [HE.out]; rfl, Below.refl _ _⟩
end St
end Go.Proofs.YtedgobdnjemegaaDoor
/- The specification's IsPlain. -/
namespace Go.Proofs.YtedgobdnjemegaaDoor
open Go.RowKit Go.Deep
set_option linter.unusedVariables false
namespace Bk
open Ex (hid nvals inR)
open Nd (NodeD nodeEq)
open St (StepD listEq stepEq)
open Nst (own flat)
open So (SOwn)
open Pf (PJ PJ_eq kidsL pFault of_p specFault)
open Pl
theorem list_eq {α : Type} {f : α → α → Bool} (hf : ∀ a b, f a b = true ↔ a = b) : ∀ (l m : List α), listEq f l m = true ↔ l = m
  | [], [] => by simp [listEq]
  | [], b :: m => by simp [listEq]
  | a :: l, [] => by simp [listEq]
  | a :: l, b :: m => by simp only [listEq, Bool.and_eq_true, hf, list_eq hf l m, List.cons.injEq]
theorem node_eq (a b : NodeD) : nodeEq a b = true ↔ a = b := by
  cases a; cases b
  simp [nodeEq, and_assoc]
theorem step_eq (a b : StepD) : stepEq a b = true ↔ a = b := by
  obtain ⟨k, p, ⟨⟨n⟩⟩, g, c, e⟩ := a
  obtain ⟨k', p', ⟨⟨n'⟩⟩, g', c', e'⟩ := b
  simp only [stepEq, Bool.and_eq_true, list_eq node_eq, beq_iff_eq, ByteArray.toList_eq]
  constructor
  · rintro ⟨⟨⟨⟨⟨h1, h2⟩, h3⟩, h4⟩, h5⟩, h6⟩
    rw [h1, h2, h4, h5, h6]
    have : n = n' := by simpa using h3
    rw [this]
  · intro h
    cases h
    simp
theorem plain_iff {ss : List StepD} (hp : pFault ss = 0) : listEq stepEq (plainL ss) ss = true ↔ plainP ss := by
  rw [list_eq step_eq]
  constructor
  · intro h
    exact ⟨hp, fun k hk hb => plain_bad hp hk hb h⟩
  · intro h
    exact plain_good hp h.2
set_option maxRecDepth 100000 in
set_option maxHeartbeats 4000000 in
theorem specIsPlain (B : Nat) (ss : List StepD) (v : Value) (w : World) (hsm : St.Small 1048576 ss) (ha : St.At w B v ss) :
    Calls Tryd.prog 14 #[v] w fun e w' => (∃ b : Bool, e = .returned (.bool b) ∧ (b = true ↔ plainP ss)) ∧ Below w.heap.size w w' := by
  have HC := hid (specFault B ss v w hsm ha)
  have HA := hid ha
  have HSM := hid hsm
  obtain ⟨a, cap, rfl⟩ := ha.slice
  clear ha hsm
  go_enter Tryd.func14, Tryd.ntmps14
  go_wp2_with fail
  refine HC.out.mono ?_
  rintro e w1 ⟨rfl, hb1⟩
  have HB1 := hid hb1
  by_cases hf : pFault ss = 0
  · have HPL := hid (specPlainL B ss _ w1 hf HSM.out (HA.out.below HB1.out))
    have HIF := hid (plain_iff hf)
    have HPS : Hid (St.Small 1048576 (plainL ss)) := hid ⟨by have := plain_len hf; have := HSM.out.1; omega, small_plain (by omega) HSM.out.2⟩
    rw [hf]
    clear HC hf hb1
    go_wp2_with fail
    refine HPL.out.mono ?_
    rintro e w2 ⟨⟨v2, rfl, hv2⟩, hb2⟩
    have HB2 := hid (HB1.out.trans (hb2.mono HB1.out.size))
    have HSA := hid (St.specSame w1.heap.size B (plainL ss) ss v2 _ w2 HPS.out HSM.out hv2.steps (HA.out.below HB2.out))
    obtain ⟨a2, c2, rfl⟩ := hv2.slice
    clear hb2 hv2 HPL
    go_wp2_with fail
    refine HSA.out.mono ?_
    rintro e w3 ⟨rfl, hb3⟩
    have HB3 := hid (HB2.out.trans (hb3.mono HB2.out.size))
    clear hb3 HSA
    generalize listEq stepEq (plainL ss) ss = bb at *
    go_wp2
    go_ret
    exact ⟨⟨_, rfl, HIF.out⟩, HB3.out⟩
  · have b1 : (pFault ss == 0) = false := by simp [hf]
    have HN : Hid (¬ plainP ss) := hid (fun h => hf h.1)
    clear HC hf hb1
    generalize pFault ss = pf at *
    go_wp2
    go_ret
    exact ⟨⟨false, rfl, by simp [HN.out]⟩, HB1.out⟩
end Bk
end Go.Proofs.YtedgobdnjemegaaDoor
