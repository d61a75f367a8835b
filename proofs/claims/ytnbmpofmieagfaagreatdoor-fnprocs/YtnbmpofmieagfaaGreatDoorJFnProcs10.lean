/- Laid together: PrC, NdQ, SpA. -/
import Derived.Test.YtnbmpofmieagfaaGreatDoorJFnProcs40
import Derived.Test.YtnbmpofmieagfaaGreatDoorJFnProcs1
import Derived.Laws.StructEq
import Derived.Test.YtnbmpofmieagfaaGreatDoorJFnProcs2
/- The specification's text of a process. -/
namespace Go.Proofs.YtnbmpofmieagfaaGreatDoor
open Go.RowKit
set_option linter.unusedVariables false
namespace Pf
open Ex (hid inR eFault str str_app str_size textOf add_str ret_text)
open Nd (NodeD)
open St (StepD)
theorem path_pos (ss : List StepD) (i : Nat) : ∃ d, (path ss (i + 1)).length = d + 1 := ⟨_, rfl⟩
set_option maxRecDepth 100000 in
set_option maxHeartbeats 4000000 in
theorem specProcText (B : Nat) (ss : List StepD) (v : Value) (w : World) (hsm : St.Small 1048576 ss) (ha : St.At w B v ss) :
    Calls Tryz.prog 14 #[v] w fun e w' => e = .returned (.agg #[.int .i64 (pFault ss), .string (procT ss)]) ∧ Below w.heap.size w w' := by
  obtain ⟨a, cap, rfl⟩ := ha.slice
  have hb0 : Below w.heap.size w (w.alloc (.cells #[.int .i64 0, .string ⟨#[]⟩] 36)) := (Below.refl _ w).alloc (Nat.le_refl _) _
  have HF := hid (specFault B ss _ _ hsm (ha.below hb0))
  have HA := hid ha
  clear ha hsm
  go_enter Tryz.func14, Tryz.ntmps14
  go_wp2_with fail
  refine HF.out.mono ?_
  rintro e w1 ⟨rfl, hb1⟩
  have B1 : Below w.heap.size w w1 := hb0.trans (hb1.mono (by simp))
  simp only [World.size_alloc] at hb1
  have l1 : w.heap.size < w1.heap.size := by have := hb1.size; simp at this; omega
  have r0 := kept_cell hb1 (b := w.heap.size) (o := 0) (v := .int .i64 0) (by omega) (by go_simp)
  have r1 := kept_cell hb1 (b := w.heap.size) (o := 1) (v := .string ⟨#[]⟩) (by omega) (by go_simp)
  have f0 := kept_free hb1 (b := w.heap.size) (o := 0) (by omega) (by go_simp)
  have f1 := kept_free hb1 (b := w.heap.size) (o := 1) (by omega) (by go_simp)
  clear HF
  by_cases hf : pFault ss = 0
  · have b1 : (pFault ss != 0) = false := by simp [hf]
    have HP := hid (of_p hf)
    have hl : ss.length ≤ 24 := by have := HP.out.1; omega
    have HV := hid (procT_ok hf)
    have HFZ := hid hf
    clear hf
    go_wp2
    go_loopw [4, 5, 6] (fun out i _ wr => ∃ k : Nat, i = .int .i64 k ∧ k ≤ ss.length ∧ out = .string (str (procL ss k)) ∧ Hid (Below w1.heap.size w1 wr)) (fun _ i _ _ => ss.length - (intOf i).toNat)
    case atStart => exact ⟨0, rfl, Nat.zero_le _, rfl, hid (Below.refl _ w1)⟩
    case round =>
      obtain ⟨k, rfl, hk, rfl, HB⟩ := hrel
      by_cases hlt : k < ss.length
      · have q1 : (k : Int) < (ss.length : Int) := by omega
        have hat := HA.out.below (B1.trans (HB.out.mono B1.size))
        have HD := hid (specDeepAt B ss _ k wr hl hlt HP.out.2.1 hat)
        obtain ⟨g, o, vc, ve, rfl, hg, c0, c1, c2, c3, c4, c5, hc, he⟩ := hat.at hlt
        have HL := hid (specLine2 B ss[k] g (o + k * 6) vc ve wr (fine hlt HFZ.out) ⟨c0, c1, c2, c3, c4, c5⟩ hc he)
        have z1 : (str (procL ss k)).size ≤ 7200 := by rw [str_size]; have := proc_len HFZ.out k hk; omega
        have z2 : (str (lineL ss[k])).size ≤ 200 := by rw [str_size]; exact line_len (fine hlt HFZ.out)
        have dw := (walked (ss := ss) (i := k + 1) hlt (first_to HP.out.2.1 hlt)).deep
        obtain ⟨d, hd⟩ := path_pos ss k
        rw [hd] at HD dw
        have HN : Hid (procL ss (k + 1) = procL ss k ++ padL d ++ lineL ss[k] ++ [10]) := hid (by rw [procL, hd, PJ_eq hlt]; rfl)
        clear hd hat c0 c1 c2 c3 c4 c5 hc he
        generalize procL ss k = pl at *
        generalize lineL ss[k] = ll at *
        go_wp2
        go_loop [4, 6] (fun out x => ∃ j : Nat, x = .int .i64 ((j : Int) + 1) ∧ j ≤ d ∧ out = .string (str (pl ++ padL j))) (fun _ x => d + 1 - (intOf x).toNat)
        case atStart => exact ⟨0, rfl, Nat.zero_le _, by simp [padL]⟩
        case round =>
          obtain ⟨j, rfl, hj, rfl⟩ := hrel
          have zp : (str (pl ++ padL j)).size ≤ 7220 := by rw [str_size, List.length_append, pad_len]; rw [str_size] at z1; omega
          by_cases hjd : j < d
          · have q2 : (j : Int) + 1 < ((d + 1 : Nat) : Int) := by omega
            have q3 : (j : Int) < (d : Int) := by omega
            have y2 : (ByteArray.mk #[32, 32]).size = 2 := rfl
            have ad := add_str (str (pl ++ padL j)) (ByteArray.mk #[32, 32]) (by omega)
            have HE : Hid (str (pl ++ padL j) ++ ByteArray.mk #[32, 32] = str (pl ++ padL (j + 1))) := hid (by
              have e : ByteArray.mk #[32, 32] = str [32, 32] := rfl
              rw [e, str_app, padL, List.append_assoc])
            clear y2
            go_wp2_with (go_at_call 35; refine HD.out.mono ?_; rintro e w2 ⟨rfl, hw2⟩; replace hw2 := hw2.symm; subst hw2)
            exact ⟨⟨j + 1, by simp, by omega, by rw [HE.out]⟩, by simp [intOf]; omega⟩
          · have q2 : ¬ (j : Int) + 1 < ((d + 1 : Nat) : Int) := by omega
            have q3 : ¬ (j : Int) < (d : Int) := by omega
            have hjd' : j = d := by omega
            have y1 : (ByteArray.mk #[10]).size = 1 := rfl
            have ad1 := add_str (str (pl ++ padL j)) (str ll) (by omega)
            have ad2 := add_str (str (pl ++ padL j) ++ str ll) (ByteArray.mk #[10]) (by simp only [ByteArray.size_append]; omega)
            have HE : Hid (str (pl ++ padL j) ++ str ll ++ ByteArray.mk #[10] = str (procL ss (k + 1))) := hid (by
              have e : ByteArray.mk #[10] = str [10] := rfl
              rw [e, str_app, str_app, HN.out, hjd'])
            clear y1 hjd'
            go_wp2_with (first | (go_at_call 35; refine HD.out.mono ?_; rintro e w2 ⟨rfl, hw2⟩; replace hw2 := hw2.symm; subst hw2) | (go_at_call 36; refine HL.out.mono ?_; rintro e w3 ⟨rfl, hb3⟩))
            exact ⟨⟨k + 1, by simp, by omega, by rw [HE.out], hid (HB.out.trans (hb3.mono HB.out.size))⟩, by simp [intOf]; omega⟩
      · have hkn : k = ss.length := by omega
        have HK := hid hkn
        have hz := HB.out.size
        have s0 := kept_cell HB.out l1 r0
        have s1 := kept_cell HB.out l1 r1
        have t0 := kept_free HB.out l1 f0
        have t1 := kept_free HB.out l1 f1
        have l2 : w.heap.size < wr.heap.size := Nat.lt_of_lt_of_le l1 HB.out.size
        have B2 := B1.trans (HB.out.mono B1.size)
        have q1 : ¬ (k : Int) < (ss.length : Int) := by omega
        clear r0 r1 f0 f1 hkn
        go_wp2
        exact bodyPost_ret (v := .agg #[.int .i64 0, .string (str (procL ss k))]) (by simp [results, Tryz.results14, go_sem, s0, s1]) rfl ⟨ret_text HFZ.out.symm (by rw [HV.out, HK.out]), setB (setB B2 (Nat.le_refl _) _) (Nat.le_refl _) _⟩
  · have b1 : (pFault ss != 0) = true := bne_iff_ne.2 hf
    have HV := hid (procT_bad hf)
    clear hf
    go_wp2
    exact bodyPost_ret (v := .agg #[.int .i64 (pFault ss), .string ⟨#[]⟩]) (by simp [results, Tryz.results14, go_sem, r0, r1]) rfl ⟨ret_text rfl (by rw [HV.out]; rfl), setB (setB B1 (Nat.le_refl _) _) (Nat.le_refl _) _⟩
end Pf
end Go.Proofs.YtnbmpofmieagfaaGreatDoor
/- Two nodes held against each other. -/
namespace Go.Proofs.YtnbmpofmieagfaaGreatDoor
open Go.RowKit
set_option linter.unusedVariables false
namespace Nd
def nodeEq (a b : NodeD) : Bool := a.kind == b.kind && a.value == b.value && a.left == b.left && a.right == b.right
theorem nodeEq_self (a : NodeD) : nodeEq a a = true := by simp [nodeEq]
theorem nd_under : Tryz.prog.underlying 110 = some (.struct (Tryz.prog.fieldsOf 110)) := by kernel_rfl
theorem nd_stood : Tryz.prog.stoodInHeld 110 = false := by kernel_rfl
theorem nd_guard : Tryz.prog.eqGuardType Tryz.prog.depth 110 = false := by kernel_rfl
set_option maxRecDepth 100000 in
theorem nd_fields : ∃ f0 f1 f2 f3 : Field, (Tryz.prog.fieldsOf 110).toList = [f0, f1, f2, f3] ∧ f0.name = "Kind" ∧ f0.type = 2 ∧ f0.offset = 0 ∧ f1.name = "Value" ∧ f1.type = 2 ∧ f1.offset = 1 ∧ f2.name = "Left" ∧ f2.type = 2 ∧ f2.offset = 2 ∧ f3.name = "Right" ∧ f3.type = 2 ∧ f3.offset = 3 := ⟨_, _, _, _, rfl, rfl, rfl, rfl, rfl, rfl, rfl, rfl, rfl, rfl, rfl, rfl, rfl⟩
set_option maxRecDepth 100000 in
/-- Two nodes held against each other. -/
theorem neqNode (a b : NodeD) (w : World) : Sem.run Tryz.prog (binOp .neq 110 (.agg #[.int .i64 a.kind, .int .i64 a.value, .int .i64 a.left, .int .i64 a.right]) (.agg #[.int .i64 b.kind, .int .i64 b.value, .int .i64 b.left, .int .i64 b.right])) w = .ok (.bool (!nodeEq a b)) w := by
  obtain ⟨f0, f1, f2, f3, hf, h1, h2, h3, h4, h5, h6, h7, h8, h9, h10, h11, h12⟩ := nd_fields
  rw [run_neq_struct, run_equalIn_struct w 9999 110 _ _ nd_under nd_stood, hf]
  have p0 : ∀ (x y z u : Value) (w : World), (part 2 #[x, y, z, u] 0).run Tryz.prog w = .ok x w := fun x y z u w => by kernel_rfl
  have p1 : ∀ (x y z u : Value) (w : World), (part 2 #[x, y, z, u] 1).run Tryz.prog w = .ok y w := fun x y z u w => by kernel_rfl
  have p2 : ∀ (x y z u : Value) (w : World), (part 2 #[x, y, z, u] 2).run Tryz.prog w = .ok z w := fun x y z u w => by kernel_rfl
  have p3 : ∀ (x y z u : Value) (w : World), (part 2 #[x, y, z, u] 3).run Tryz.prog w = .ok u w := fun x y z u w => by kernel_rfl
  simp only [Op.eqFields, h1, h2, h3, h4, h5, h6, h7, h8, h9, h10, h11, h12, Sem.run_bind, Sem.run_ite, p0, p1, p2, p3, Result.andThen_ok, run_equalIn_int w 9998 2 _ _ _ _ Tryz.underlying2]
  rw [if_pos (show "Kind" ≠ "_" by decide), if_pos (show "Value" ≠ "_" by decide), if_pos (show "Left" ≠ "_" by decide), if_pos (show "Right" ≠ "_" by decide)]
  unfold nodeEq
  cases a.kind == b.kind <;> cases a.value == b.value <;> cases a.left == b.left <;> cases a.right == b.right <;> rfl
theorem below_drewN {B : Nat} {a w : World} (h : Below B a w) (n : Nat) : Below B a (w.drewN n) := ⟨h.os, h.tape, h.output, h.size, h.block⟩
end Nd
end Go.Proofs.YtnbmpofmieagfaaGreatDoor
/- Whether two lists of steps are the same, as the program tells it. -/
namespace Go.Proofs.YtnbmpofmieagfaaGreatDoor
open Go.RowKit
set_option linter.unusedVariables false
namespace St
open Ex (hid)
open Nd (NodeD nodeEq neqNode nd_guard below_drewN)
def listEq {α : Type} (f : α → α → Bool) : List α → List α → Bool
  | [], [] => true
  | a :: r, b :: s => f a b && listEq f r s
  | _, _ => false
theorem listEq_len {α : Type} {f : α → α → Bool} : ∀ {l m : List α}, l.length ≠ m.length → listEq f l m = false
  | [], [], h => absurd rfl h
  | [], b :: s, _ => rfl
  | a :: r, [], _ => rfl
  | a :: r, b :: s, h => by
    rw [listEq, listEq_len (fun e => h (by simp [e])), Bool.and_false]
theorem listEq_step {α : Type} {f : α → α → Bool} {l m : List α} {k : Nat} (h1 : k < l.length) (h2 : k < m.length) : listEq f (l.drop k) (m.drop k) = (f l[k] m[k] && listEq f (l.drop (k + 1)) (m.drop (k + 1))) := by
  rw [List.drop_eq_getElem_cons h1, List.drop_eq_getElem_cons h2, listEq]
theorem listEq_end {α : Type} {f : α → α → Bool} {l m : List α} {k : Nat} (h1 : l.length ≤ k) (h2 : m.length ≤ k) : listEq f (l.drop k) (m.drop k) = true := by
  rw [List.drop_eq_nil_of_le h1, List.drop_eq_nil_of_le h2, listEq]
def stepEq (a b : StepD) : Bool := a.kind == b.kind && a.parent == b.parent && a.name.toList == b.name.toList && a.arg == b.arg && listEq nodeEq a.cond b.cond && listEq nodeEq a.expr b.expr
end St
end Go.Proofs.YtnbmpofmieagfaaGreatDoor
