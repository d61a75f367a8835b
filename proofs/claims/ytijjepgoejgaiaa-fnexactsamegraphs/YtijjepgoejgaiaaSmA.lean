/- Rows compared, plainly; rows of nodes, as the program and the specification compare them. -/
import Derived.Test.YtijjepgoejgaiaaNdQ
import Derived.Test.YtijjepgoejgaiaaExM
namespace Go.Proofs.Ytijjepgoejgaiaa
open Go.RowKit
set_option linter.unusedVariables false
namespace Sm
open Ex (hid)
open Nd (NodeD nodeEq neqNode nd_guard below_drewN)
def listEq {α : Type} (f : α → α → Bool) : List α → List α → Bool
  | [], [] => true
  | a :: r, b :: s => f a b && listEq f r s
  | _, _ => false
theorem listEq_len {α : Type} {f : α → α → Bool} : ∀ {l m : List α}, l.length ≠ m.length → listEq f l m = false
  | [], [], h => absurd rfl h
  | [], b :: s, _ => rfl
  | a :: r, [], _ => rfl
  | a :: r, b :: s, h => by
    rw [listEq, listEq_len (fun e => h (by simp [e])), Bool.and_false]
theorem listEq_step {α : Type} {f : α → α → Bool} {l m : List α} {k : Nat} (h1 : k < l.length) (h2 : k < m.length) : listEq f (l.drop k) (m.drop k) = (f l[k] m[k] && listEq f (l.drop (k + 1)) (m.drop (k + 1))) := by
  rw [List.drop_eq_getElem_cons h1, List.drop_eq_getElem_cons h2, listEq]
theorem listEq_end {α : Type} {f : α → α → Bool} {l m : List α} {k : Nat} (h1 : l.length ≤ k) (h2 : m.length ≤ k) : listEq f (l.drop k) (m.drop k) = true := by
  rw [List.drop_eq_nil_of_le h1, List.drop_eq_nil_of_le h2, listEq]
theorem bne_str {a b : ByteArray} {c : Bool} (h : (a.toList == b.toList) = c) : (a.toList != b.toList) = !c := by rw [bne, h]
theorem quiet_more {w wr : World} (h : ∃ q, wr = w.drewN q) (n : Nat) : ∃ q, wr.drewN n = w.drewN q := by
  obtain ⟨q, rfl⟩ := h
  exact ⟨q + n, World.drewN_drewN _ _ _⟩
theorem bne_int {a b : Int} {c : Bool} (h : (a == b) = c) : (a != b) = !c := by rw [bne, h]
set_option maxRecDepth 100000 in
set_option maxHeartbeats 2000000 in
theorem implNodes (B1 B2 : Nat) (l m : List NodeD) (v1 v2 : Value) (w : World) (hl : l.length ≤ 1048576) (hm : m.length ≤ 1048576) (h1 : Nd.At w B1 v1 l) (h2 : Nd.At w B2 v2 m) :
    Calls Try.prog 25 #[v1, v2] w fun e w' => e = .returned (.bool (listEq nodeEq l m)) ∧ Below w.heap.size w w' := by
  obtain ⟨a1, c1, rfl⟩ := h1.slice
  obtain ⟨a2, c2, rfl⟩ := h2.slice
  have H1 := hid h1
  have H2 := hid h2
  clear h1 h2
  by_cases he : l.length = m.length
  · have hb : ((l.length : Int) != (m.length : Int)) = false := by simp [he]
    have HE := hid he
    clear he
    go_enter Try.func25, Try.ntmps25
    go_wp2
    go_loopw [5, 13] (fun _ i wr => ∃ k : Nat, i = .int .i64 k ∧ k ≤ l.length ∧ Hid (listEq nodeEq l m = listEq nodeEq (l.drop k) (m.drop k)) ∧ Below w.heap.size w wr) (fun _ i _ => l.length - (intOf i).toNat)
    case atStart => exact ⟨0, rfl, Nat.zero_le _, rfl, Below.refl _ _⟩
    case round =>
      obtain ⟨k, rfl, hk, HS, hbel⟩ := hrel
      by_cases hlt : k < l.length
      · have hlt2 : k < m.length := by rw [← HE.out]; exact hlt
        obtain ⟨g1, o1, rfl, hg1, p0, p1, p2, p3⟩ := (H1.out.below hbel).at hlt
        obtain ⟨g2, o2, rfl, hg2, q0, q1, q2, q3⟩ := (H2.out.below hbel).at hlt2
        have r1 : (k : Int) < (l.length : Int) := by omega
        have r2 : (k : Int) < (m.length : Int) := by omega
        have hq := fun wx => neqNode l[k] m[k] wx
        have hgd := fun (op : BinOp) (x y : Operand) (wx : World) => run_eqGuard_agg (P := Try.prog) wx op 64 x y #[.int .i64 l[k].kind, .int .i64 l[k].value, .int .i64 l[k].left, .int .i64 l[k].right] #[.int .i64 m[k].kind, .int .i64 m[k].value, .int .i64 m[k].left, .int .i64 m[k].right] nd_guard
        cases hE : nodeEq l[k] m[k]
        · have HF : Hid (listEq nodeEq l m = false) := hid (by rw [HS.out, listEq_step hlt hlt2, hE, Bool.false_and])
          rw [hE] at hq
          go_wp2
          go_quiet (fail)
          go_wp2
          go_ret
          exact ⟨by rw [HF.out]; rfl, below_drewN hbel nq⟩
        · have HF : Hid (listEq nodeEq l m = listEq nodeEq (l.drop (k + 1)) (m.drop (k + 1))) := hid (by rw [HS.out, listEq_step hlt hlt2, hE, Bool.true_and])
          rw [hE] at hq
          go_wp2
          go_quiet (fail)
          go_wp2
          exact ⟨⟨k + 1, by simp, by omega, HF, below_drewN hbel nq⟩, by simp [intOf]; omega⟩
      · have HT : Hid (listEq nodeEq l m = true) := hid (by rw [HS.out]; exact listEq_end (by omega) (by have := HE.out; omega))
        go_wp2
        go_ret
        exact ⟨by rw [HT.out]; rfl, hbel⟩
  · have hb : ((l.length : Int) != (m.length : Int)) = true := bne_iff_ne.2 (fun e => he (by omega))
    have HE := hid (listEq_len (f := nodeEq) he)
    clear he
    go_enter Try.func25, Try.ntmps25
    go_wp2
    go_ret
    exact ⟨by rw [HE.out]; rfl, Below.refl _ _⟩
set_option maxRecDepth 100000 in
set_option maxHeartbeats 2000000 in
theorem specNodes (B1 B2 : Nat) (l m : List NodeD) (v1 v2 : Value) (w : World) (hl : l.length ≤ 1048576) (hm : m.length ≤ 1048576) (h1 : Nd.At w B1 v1 l) (h2 : Nd.At w B2 v2 m) :
    Calls Try.prog 22 #[v1, v2] w fun e w' => e = .returned (.bool (listEq nodeEq l m)) ∧ ∃ q, w' = w.drewN q := by
  obtain ⟨a1, c1, rfl⟩ := h1.slice
  obtain ⟨a2, c2, rfl⟩ := h2.slice
  have H1 := hid h1
  have H2 := hid h2
  clear h1 h2
  by_cases he : l.length = m.length
  · have hb : ((l.length : Int) != (m.length : Int)) = false := by simp [he]
    have HE := hid he
    clear he
    go_enter Try.func22, Try.ntmps22
    go_wp2
    go_loopw [5] (fun i wr => ∃ k : Nat, i = .int .i64 k ∧ k ≤ l.length ∧ Hid (listEq nodeEq l m = listEq nodeEq (l.drop k) (m.drop k)) ∧ ∃ q, wr = w.drewN q) (fun i _ => l.length - (intOf i).toNat)
    case atStart => exact ⟨0, rfl, Nat.zero_le _, rfl, 0, rfl⟩
    case round =>
      obtain ⟨k, rfl, hk, HS, hqq⟩ := hrel
      have HQQ := hid hqq
      have hbel : Below w.heap.size w wr := by
        obtain ⟨q, rfl⟩ := hqq
        exact below_drewN (Below.refl _ _) q
      clear hqq
      by_cases hlt : k < l.length
      · have hlt2 : k < m.length := by rw [← HE.out]; exact hlt
        obtain ⟨g1, o1, rfl, hg1, p0, p1, p2, p3⟩ := (H1.out.below hbel).at hlt
        obtain ⟨g2, o2, rfl, hg2, q0, q1, q2, q3⟩ := (H2.out.below hbel).at hlt2
        have r1 : (k : Int) < (l.length : Int) := by omega
        have r2 : (k : Int) < (m.length : Int) := by omega
        have hq := fun wx => neqNode l[k] m[k] wx
        have hgd := fun (op : BinOp) (x y : Operand) (wx : World) => run_eqGuard_agg (P := Try.prog) wx op 64 x y #[.int .i64 l[k].kind, .int .i64 l[k].value, .int .i64 l[k].left, .int .i64 l[k].right] #[.int .i64 m[k].kind, .int .i64 m[k].value, .int .i64 m[k].left, .int .i64 m[k].right] nd_guard
        cases hE : nodeEq l[k] m[k]
        · have HF : Hid (listEq nodeEq l m = false) := hid (by rw [HS.out, listEq_step hlt hlt2, hE, Bool.false_and])
          rw [hE] at hq
          go_wp2
          try simp only [List.append_eq, List.cons_append, List.nil_append]
          go_quiet (fail)
          go_wp2
          go_ret
          exact ⟨by rw [HF.out]; rfl, quiet_more HQQ.out nq⟩
        · have HF : Hid (listEq nodeEq l m = listEq nodeEq (l.drop (k + 1)) (m.drop (k + 1))) := hid (by rw [HS.out, listEq_step hlt hlt2, hE, Bool.true_and])
          rw [hE] at hq
          go_wp2
          try simp only [List.append_eq, List.cons_append, List.nil_append]
          go_quiet (fail)
          go_wp2
          exact ⟨⟨k + 1, by simp, by omega, HF, quiet_more HQQ.out nq⟩, by simp [intOf]; omega⟩
      · have HT : Hid (listEq nodeEq l m = true) := hid (by rw [HS.out]; exact listEq_end (by omega) (by have := HE.out; omega))
        go_wp2
        go_ret
        exact ⟨by rw [HT.out]; rfl, HQQ.out⟩
  · have hb : ((l.length : Int) != (m.length : Int)) = true := bne_iff_ne.2 (fun e => he (by omega))
    have HE := hid (listEq_len (f := nodeEq) he)
    clear he
    go_enter Try.func22, Try.ntmps22
    go_wp2
    go_ret
    exact ⟨by rw [HE.out]; rfl, 0, rfl⟩
end Sm
end Go.Proofs.Ytijjepgoejgaiaa
