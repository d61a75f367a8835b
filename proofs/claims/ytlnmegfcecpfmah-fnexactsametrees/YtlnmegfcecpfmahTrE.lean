/- SameTrees, of the specification and of the program: both tell whether two lists of elements are the same. -/
import Derived.Test.YtlnmegfcecpfmahTrA
import Derived.Deep.QuietTactic
import Derived.BigQuiet
import Derived.Deep.RegionWith
import Derived.Laws.StructEq
namespace Go.Proofs.Ytlnmegfcecpfmah
open Go.RowKit
set_option linter.unusedVariables false
namespace Tr
def attrEq (a b : AttrD) : Bool := a.name.toList == b.name.toList && a.value.toList == b.value.toList
def attrsEq : List AttrD → List AttrD → Bool
  | [], [] => true
  | a :: r, b :: s => attrEq a b && attrsEq r s
  | _, _ => false
def elemEq (a b : ElemD) : Bool := a.tag.toList == b.tag.toList && a.parent == b.parent && attrsEq a.attrs b.attrs
def elemsEq : List ElemD → List ElemD → Bool
  | [], [] => true
  | a :: r, b :: s => elemEq a b && elemsEq r s
  | _, _ => false
theorem attrsEq_len : ∀ {l m : List AttrD}, l.length ≠ m.length → attrsEq l m = false
  | [], [], h => absurd rfl h
  | [], b :: s, _ => rfl
  | a :: r, [], _ => rfl
  | a :: r, b :: s, h => by
    rw [attrsEq, attrsEq_len (fun e => h (by simp [e])), Bool.and_false]
theorem elemsEq_len : ∀ {l m : List ElemD}, l.length ≠ m.length → elemsEq l m = false
  | [], [], h => absurd rfl h
  | [], b :: s, _ => rfl
  | a :: r, [], _ => rfl
  | a :: r, b :: s, h => by
    rw [elemsEq, elemsEq_len (fun e => h (by simp [e])), Bool.and_false]
theorem attrsEq_step {l m : List AttrD} {k : Nat} (h1 : k < l.length) (h2 : k < m.length) : attrsEq (l.drop k) (m.drop k) = (attrEq l[k] m[k] && attrsEq (l.drop (k + 1)) (m.drop (k + 1))) := by
  rw [List.drop_eq_getElem_cons h1, List.drop_eq_getElem_cons h2, attrsEq]
theorem elemsEq_step {l m : List ElemD} {k : Nat} (h1 : k < l.length) (h2 : k < m.length) : elemsEq (l.drop k) (m.drop k) = (elemEq l[k] m[k] && elemsEq (l.drop (k + 1)) (m.drop (k + 1))) := by
  rw [List.drop_eq_getElem_cons h1, List.drop_eq_getElem_cons h2, elemsEq]
theorem attrsEq_end {l m : List AttrD} {k : Nat} (h1 : l.length ≤ k) (h2 : m.length ≤ k) : attrsEq (l.drop k) (m.drop k) = true := by
  rw [List.drop_eq_nil_of_le h1, List.drop_eq_nil_of_le h2, attrsEq]
theorem elemsEq_end {l m : List ElemD} {k : Nat} (h1 : l.length ≤ k) (h2 : m.length ≤ k) : elemsEq (l.drop k) (m.drop k) = true := by
  rw [List.drop_eq_nil_of_le h1, List.drop_eq_nil_of_le h2, elemsEq]
theorem at_under : Try.prog.underlying 36 = some (.struct (Try.prog.fieldsOf 36)) := by kernel_rfl
theorem at_stood : Try.prog.stoodInHeld 36 = false := by kernel_rfl
theorem at_guard : Try.prog.eqGuardType Try.prog.depth 36 = false := by kernel_rfl
theorem at_fields : ∃ f0 f1 : Field, (Try.prog.fieldsOf 36).toList = [f0, f1] ∧ f0.name = "Name" ∧ f0.type = 9 ∧ f0.offset = 0 ∧ f1.name = "Value" ∧ f1.type = 9 ∧ f1.offset = 1 := ⟨_, _, rfl, rfl, rfl, rfl, rfl, rfl, rfl⟩
/-- Two attrs held against each other. -/
theorem neqAttr (a b : AttrD) (w : World) : Sem.run Try.prog (binOp .neq 36 (.agg #[.string a.name, .string a.value]) (.agg #[.string b.name, .string b.value])) w = .ok (.bool (!attrEq a b)) w := by
  obtain ⟨f0, f1, hf, h1, h2, h3, h4, h5, h6⟩ := at_fields
  rw [run_neq_struct, run_equalIn_struct w 9999 36 _ _ at_under at_stood, hf]
  have p0 : ∀ (x y : Value) (w : World), (part 9 #[x, y] 0).run Try.prog w = .ok x w := fun x y w => by kernel_rfl
  have p1 : ∀ (x y : Value) (w : World), (part 9 #[x, y] 1).run Try.prog w = .ok y w := fun x y w => by kernel_rfl
  simp only [Op.eqFields, h1, h2, h3, h4, h5, h6, Sem.run_bind, Sem.run_ite, p0, p1, Result.andThen_ok, run_equalIn_string w 9998 9 _ _ Try.underlying9]
  rw [if_pos (show "Name" ≠ "_" by decide), if_pos (show "Value" ≠ "_" by decide)]
  unfold attrEq
  cases a.name.toList == b.name.toList <;> cases a.value.toList == b.value.toList <;> rfl
theorem below_drewN {B : Nat} {a w : World} (h : Below B a w) (n : Nat) : Below B a (w.drewN n) := ⟨h.os, h.tape, h.output, h.size, h.block⟩
set_option maxRecDepth 100000 in
set_option maxHeartbeats 2000000 in
theorem implAttrs (B1 B2 : Nat) (l m : List AttrD) (v1 v2 : Value) (w : World) (hl : l.length ≤ 1048576) (hm : m.length ≤ 1048576) (h1 : AttrsAt w B1 v1 l) (h2 : AttrsAt w B2 v2 m) :
    Calls Try.prog 16 #[v1, v2] w fun e w' => e = .returned (.bool (attrsEq l m)) ∧ Below w.heap.size w w' := by
  obtain ⟨a1, c1, rfl⟩ := h1.slice
  obtain ⟨a2, c2, rfl⟩ := h2.slice
  have H1 : Hid (AttrsAt w B1 (.slice a1 l.length c1) l) := h1
  have H2 : Hid (AttrsAt w B2 (.slice a2 m.length c2) m) := h2
  clear h1 h2
  by_cases he : l.length = m.length
  · have hb : ((l.length : Int) != (m.length : Int)) = false := by simp [he]
    have HE : Hid (l.length = m.length) := he
    clear he
    go_enter Try.func16, Try.ntmps16
    go_wp2
    go_loopw [5, 13] (fun _ i wr => ∃ k : Nat, i = .int .i64 k ∧ k ≤ l.length ∧ Hid (attrsEq l m = attrsEq (l.drop k) (m.drop k)) ∧ Below w.heap.size w wr) (fun _ i _ => l.length - (intOf i).toNat)
    case atStart => exact ⟨0, rfl, Nat.zero_le _, rfl, Below.refl _ _⟩
    case round =>
      obtain ⟨k, rfl, hk, HS, hbel⟩ := hrel
      by_cases hlt : k < l.length
      · have hlt2 : k < m.length := by rw [← HE.out]; exact hlt
        obtain ⟨g1, o1, rfl, hg1, p1, q1⟩ := (H1.out.below hbel).at hlt
        obtain ⟨g2, o2, rfl, hg2, p2, q2⟩ := (H2.out.below hbel).at hlt2
        have r1 : (k : Int) < (l.length : Int) := by omega
        have r2 : (k : Int) < (m.length : Int) := by omega
        have hq := fun wx => neqAttr l[k] m[k] wx
        have hgd := fun (op : BinOp) (x y : Operand) (wx : World) => run_eqGuard_agg (P := Try.prog) wx op 36 x y #[.string l[k].name, .string l[k].value] #[.string m[k].name, .string m[k].value] at_guard
        cases hE : attrEq l[k] m[k]
        · have HF : Hid (attrsEq l m = false) := hid (by rw [HS.out, attrsEq_step hlt hlt2, hE, Bool.false_and])
          rw [hE] at hq
          go_wp2
          go_quiet (fail)
          go_wp2
          go_ret
          exact ⟨by rw [HF.out]; rfl, below_drewN hbel nq⟩
        · have HF : Hid (attrsEq l m = attrsEq (l.drop (k + 1)) (m.drop (k + 1))) := hid (by rw [HS.out, attrsEq_step hlt hlt2, hE, Bool.true_and])
          rw [hE] at hq
          go_wp2
          go_quiet (fail)
          go_wp2
          exact ⟨⟨k + 1, by simp, by omega, HF, below_drewN hbel nq⟩, by simp [intOf]; omega⟩
      · have HT : Hid (attrsEq l m = true) := hid (by rw [HS.out]; exact attrsEq_end (by omega) (by have := HE.out; omega))
        go_wp2
        go_ret
        exact ⟨by rw [HT.out]; rfl, hbel⟩
  · have hb : ((l.length : Int) != (m.length : Int)) = true := bne_iff_ne.2 (fun e => he (by omega))
    have HE : Hid (attrsEq l m = false) := attrsEq_len he
    clear he
    go_enter Try.func16, Try.ntmps16
    go_wp2
    go_ret
    exact ⟨by rw [HE.out]; rfl, Below.refl _ _⟩
end Tr
end Go.Proofs.Ytlnmegfcecpfmah
