/- What the program's piecesOf tells, piece by piece, to whatever loop ranges over it. -/
import Derived.Test.YtbnpejijfnigaaaCut4
import Derived.RangeFuncNested
import Derived.RangeFuncBound
import Derived.RangeFuncBox
import Derived.RangeFuncCalls
import Derived.RangeFuncLeaves
import Derived.Shelf.Abstract
import Derived.Shelf.RegionOpen
import Derived.OwnWalkIn
import Derived.TacticsInMore
import Derived.LoopNIn
import Derived.LoopIn
namespace Go.Proofs.Ytbnpejijfnigaaa
open Go.Shelf Go.RowKit
set_option linter.unusedVariables false
attribute [local go_sem] Oper.semAt_some
namespace Cut
/-- A piece that is told, and whether it is whole. -/
abbrev Pc := { x : List UInt8 × Bool // x.1.length ≤ 1500 }
def encs (x : Pc) : Array Value := #[.string ⟨x.1.1.toArray⟩, .bool x.1.2]
def rb (l : List UInt8) (k : Nat) : ByteArray := ⟨(l.drop k).toArray⟩
def strLen : Value → Nat
  | .string b => b.size
  | _ => 0
theorem rb_size (l : List UInt8) (k : Nat) : (rb l k).size = l.length - k := by unfold rb ByteArray.size; simp
theorem rb_list (l : List UInt8) (k : Nat) : (rb l k).data.toList = l.drop k := by unfold rb; simp
theorem rb_ne {l : List UInt8} {k : Nat} (h : k < l.length) : (rb l k).toList.isEmpty = false := by
  rw [ByteArray.toList_eq, rb_list, List.isEmpty_eq_false_iff]; intro e; have := congrArg List.length e; simp at this; omega
theorem rb_nil {l : List UInt8} {k : Nat} (h : l.length ≤ k) : (rb l k).toList.isEmpty = true := by
  rw [ByteArray.toList_eq, rb_list, List.drop_eq_nil_of_le h]; rfl
theorem rb_take (l : List UInt8) (k m : Nat) : (rb l k).extract 0 m = ⟨((l.drop k).take m).toArray⟩ := by
  rw [ext_take, rb_list]; simp
theorem rb_drop (l : List UInt8) (k m : Nat) : (rb l k).extract m (rb l k).size = rb l (k + m) := by
  apply ByteArray.ext
  apply Array.toList_inj.1
  rw [Lib.extract_to_end, rb_list, rb_list, List.drop_drop]
theorem grown_of_below {W W' : World} (h : Below W.heap.size W W') : W.grownBy W' none := ⟨h.os, h.tape, h.output, h.size, fun k hk _ => h.block k hk⟩
/-- pre has been told, k bytes are behind. -/
def Sofar (l : List UInt8) (k : Nat) (pre : List Pc) : Prop := told l = pre.map (·.1) ++ told (l.drop k) ∧ pre.length ≤ k
theorem Sofar.next {l : List UInt8} {k n : Nat} {pre : List Pc} (h : Sofar l k pre) (hk : k < l.length) (hn : pieceLen (l.drop k) = n) (h0 : n ≠ 0) (x : Pc) (hx : x.1 = ((l.drop k).take n, true)) : Sofar l (k + n) (pre ++ [x]) := by
  have hne : l.drop k ≠ [] := by intro e; have := congrArg List.length e; simp at this; omega
  refine ⟨?_, by simp only [List.length_append, List.length_cons, List.length_nil]; have := h.2; omega⟩
  rw [h.1, told_ok hne (by rw [hn]; exact h0), hn, List.drop_drop]
  simp [hx]
theorem Sofar.bad {l : List UInt8} {k : Nat} {pre : List Pc} (h : Sofar l k pre) (hk : k < l.length) (hn : pieceLen (l.drop k) = 0) (x : Pc) (hx : x.1 = (l.drop k, false)) : (pre ++ [x]).map (·.1) = told l := by
  have hne : l.drop k ≠ [] := by intro e; have := congrArg List.length e; simp at this; omega
  rw [h.1, told_bad hne hn]
  simp [hx]
theorem Sofar.done {l : List UInt8} {k : Nat} {pre : List Pc} (h : Sofar l k pre) (hk : l.length ≤ k) : pre.map (·.1) = told l := by
  rw [h.1, List.drop_eq_nil_of_le hk, told_nil]; simp
theorem Sofar.pre {l : List UInt8} {k n : Nat} {pre : List Pc} (h : Sofar l k pre) : pre.map (·.1) <+: told l := ⟨_, h.1.symm⟩
set_option maxRecDepth 100000 in
set_option maxHeartbeats 4000000 in
theorem pieces1 (n : Nat) (hn : 1 ≤ n) (l Bn : Nat) (t : List UInt8) (hs : t.length ≤ 1500) (hia : ∀ k, IAok (rb t k)) (J Jx : List Pc → World → Prop)
    (W0 : World) (hJa : AbidesFrom W0.heap.size J) (hJxa : AbidesFrom W0.heap.size Jx)
    (hY : ∀ pre x W, J pre W → pre.length < t.length → YieldAt Fence.wide (n - 1) Try.prog l (encs x) W fun e W' =>
      (e = .returned (.bool true) ∧ J (pre ++ [x]) W' ∧ True) ∨ (e = .returned (.bool false) ∧ Jx (pre ++ [x]) W'))
    (hBn : W0.cell? ⟨Bn, 0, none⟩ = some (.string ⟨t.toArray⟩)) (h0 : J [] W0) :
    CallsIn Fence.wide n Try.prog 18 #[.func (.yield l) #[] #[], .pointer (some ⟨Bn, 0, none⟩)] W0 fun e W' => (∃ v, e = .returned v) ∧
      ((∃ ys : List Pc, ys.map (·.1) = told t ∧ J ys W') ∨ (∃ pre : List Pc, pre.map (·.1) <+: told t ∧ Jx pre W')) := by
  refine callsIn_of_wp Try.func18 rfl trivial ?_ rfl
  simp only [Try.ntmps18, List.size_toArray, List.length_cons, List.length_nil, Nat.reduceAdd, Nat.reduceSub, Array.replicate_succ, Array.replicate_zero, List.push_toArray, List.append_toArray, List.nil_append, List.cons_append]
  have HJ : Hid (AbidesFrom W0.heap.size J) := hJa
  have HJx : Hid (AbidesFrom W0.heap.size Jx) := hJxa
  have HI : Hid (∀ k, IAok (rb t k)) := hia
  clear hJa hJxa hia
  gi_wp2
  gi_loopw [3] (fun p wr => ∃ (k : Nat) (pre : List Pc), p = .string (rb t k) ∧ k ≤ t.length ∧ Hid (Sofar t k pre) ∧ J pre wr) (fun p _ => strLen p)
  case atStart => exact ⟨0, [], rfl, Nat.zero_le _, ⟨rfl, Nat.le_refl _⟩, h0⟩
  case round =>
    obtain ⟨k, pre, rfl, hk, HS, hJ⟩ := hrel
    by_cases hlt : k < t.length
    · have hb := rb_ne hlt
      have hsz : (rb t k).size = t.length - k := rb_size t k
      have HZ : Hid ((rb t k).size = t.length - k) := hsz
      have hle : (rb t k).size ≤ 1500 := by omega
      have hpos : 0 < (rb t k).size := by omega
      clear hsz
      by_cases hm : pieceLen (t.drop k) = 0
      · have HM : Hid (pieceLen (rb t k).data.toList = 0) := hid (by rw [rb_list]; exact hm)
        have HF : Hid (∀ x : Pc, x.1 = (t.drop k, false) → (pre ++ [x]).map (·.1) = told t) := fun x hx => HS.out.bad hlt hm x hx
        clear hm
        gi_wp2_with fail
        refine ⟨trivial, (callsIn_wide.2 (implPiece (rb t k) _ hle hpos (HI.out k))).mono ?_⟩
        rintro e w1 ⟨rfl, hb1⟩
        rw [HM.out]
        have hJ1 : J pre w1 := HJ.out _ _ _ none hJ (grown_of_below hb1) (fun r e => by cases e)
        have hpl : pre.length < t.length := by have := HS.out.2; omega
        obtain ⟨fn, tmps, assign, body, hy, hR⟩ := hY pre ⟨(t.drop k, false), by simp; omega⟩ w1 hJ1 hpl
        have HJ1 : Hid (J pre w1) := hJ1
        clear hJ1
        simp only [encs] at hy
        rw [show (⟨(t.drop k).toArray⟩ : ByteArray) = rb t k from rfl] at hy
        gi_wp2
        refine hR.mono ?_
        rintro e W3 (⟨rfl, hJ3, _⟩ | ⟨rfl, hJx3⟩)
        · gi_wp2
          refine bodyPost_ret (results_none rfl _ _ _) rfl ?_
          exact ⟨⟨_, rfl⟩, .inl ⟨_, HF.out _ rfl, hJ3⟩⟩
        · gi_wp2
          refine bodyPost_ret (results_none rfl _ _ _) rfl ?_
          exact ⟨⟨_, rfl⟩, .inr ⟨_, by rw [HF.out _ rfl]; exact List.prefix_refl _, hJx3⟩⟩
      · generalize hmm : pieceLen (t.drop k) = m at hm
        have HM : Hid (pieceLen (rb t k).data.toList = m) := hid (by rw [rb_list]; exact hmm)
        have hm2 : m ≤ (rb t k).size := by have := pieceLen_le (t.drop k); rw [hmm, List.length_drop] at this; rw [HZ.out]; exact this
        have hm3 : k + m ≤ t.length := by have := HZ.out; omega
        have HF : Hid (∀ x : Pc, x.1 = ((t.drop k).take m, true) → Sofar t (k + m) (pre ++ [x])) := fun x hx => HS.out.next hlt hmm hm x hx
        have bm : ((m : Int) == 0) = false := beq_eq_false_iff_ne.2 (by omega)
        have g1 : (m : Int) ≤ ((rb t k).size : Int) := by omega
        clear hmm
        gi_wp2_with fail
        refine ⟨trivial, (callsIn_wide.2 (implPiece (rb t k) _ hle hpos (HI.out k))).mono ?_⟩
        rintro e w1 ⟨rfl, hb1⟩
        rw [HM.out]
        have hJ1 : J pre w1 := HJ.out _ _ _ none hJ (grown_of_below hb1) (fun r e => by cases e)
        have hpl : pre.length < t.length := by have := HS.out.2; omega
        obtain ⟨fn, tmps, assign, body, hy, hR⟩ := hY pre ⟨((t.drop k).take m, true), by simp; omega⟩ w1 hJ1 hpl
        have HJ1 : Hid (J pre w1) := hJ1
        clear hJ1
        simp only [encs] at hy
        rw [← rb_take] at hy
        gi_wp2
        refine hR.mono ?_
        rintro e W3 (⟨rfl, hJ3, _⟩ | ⟨rfl, hJx3⟩)
        · gi_wp2
          rw [rb_drop]
          exact ⟨⟨k + m, _, rfl, hm3, HF.out _ rfl, hJ3⟩, by simp only [strLen, rb_size]; omega⟩
        · gi_wp2
          refine bodyPost_ret (results_none rfl _ _ _) rfl ?_
          exact ⟨⟨_, rfl⟩, .inr ⟨_, (HF.out _ rfl).pre (n := 0), hJx3⟩⟩
    · have hb := rb_nil (l := t) (k := k) (by omega)
      have HD : Hid (pre.map (·.1) = told t) := HS.out.done (by omega)
      gi_wp2
      go_end0
      exact ⟨⟨_, rfl⟩, .inl ⟨_, HD.out, hJ⟩⟩
end Cut
end Go.Proofs.Ytbnpejijfnigaaa
