/- Laid together: PqA, IntsX. -/
import Derived.Test.YtnbmpofmieagfaaGreatDoorJFnProcs29
import Derived.Test.YtnbmpofmieagfaaGreatDoorJFnProcs34
import Derived.Test.YtnbmpofmieagfaaGreatDoorJFnProcs1
import Derived.Deep.QuietTactic
import Derived.BigQuiet
import Derived.Laws.OwnMore
import Derived.RangeFuncBox
/- DeepOf, of the specification and of the program. Condition of the second: the table of rules lies as its initialiser lays it. -/
namespace Go.Proofs.YtnbmpofmieagfaaGreatDoor
open Go.RowKit
set_option linter.unusedVariables false
namespace Pf
open Ex (hid inR eFault)
open Nd (NodeD)
open St (StepD)
open Tr (Chain cutTo onPath top nf ElemD)
def deepN (ss : List StepD) : Nat → Nat
  | 0 => 0
  | n + 1 => max (deepN ss n) (path ss (n + 1)).length
def deepV (ss : List StepD) : Int := if pFault ss = 0 then (deepN ss ss.length : Int) else 0
theorem deepV_ok {ss : List StepD} (h : pFault ss = 0) : deepV ss = (deepN ss ss.length : Int) := by unfold deepV; rw [if_pos h]
theorem deepV_bad {ss : List StepD} (h : pFault ss ≠ 0) : deepV ss = 0 := by unfold deepV; rw [if_neg h]
theorem deep_le {ss : List StepD} (h : firstC (oneC ss) ss.length = 0) : ∀ {n : Nat}, n ≤ ss.length → deepN ss n ≤ 7
  | 0, _ => Nat.zero_le _
  | n + 1, hn => by
    have h1 := deep_le h (n := n) (by omega)
    have h2 := (walked hn (first_to h hn)).deep
    rw [deepN]
    omega
theorem kept_cell {B : Nat} {W w : World} (h : Below B W w) {b o : Nat} (hb : b < B) {v : Value} (hc : W.cell? ⟨b, o, none⟩ = some v) : w.cell? ⟨b, o, none⟩ = some v := (h.cell (p := ⟨b, o, none⟩) hb).trans hc
theorem kept_free {B : Nat} {W w : World} (h : Below B W w) {b o : Nat} (hb : b < B) (hc : W.frozen? ⟨b, o, none⟩ = false) : w.frozen? ⟨b, o, none⟩ = false := (h.frozen (p := ⟨b, o, none⟩) hb).trans hc
theorem ret2 {c d e f : Int} (h : c = d) (h2 : e = f) : Ending.returned (.agg #[.int .i64 c, .int .i64 e]) = .returned (.agg #[.int .i64 d, .int .i64 f]) := by rw [h, h2]
set_option maxRecDepth 100000 in
set_option maxHeartbeats 400000 in
theorem specMax (x y : Nat) (w : World) : Calls Tryz.prog 34 #[.int .i64 (x : Int), .int .i64 (y : Int)] w fun e w' => e = .returned (.int .i64 ((max x y : Nat) : Int)) ∧ w' = w := by
  by_cases h : y < x
  · have q : (y : Int) < (x : Int) := by omega
    have HV : Hid (max x y = x) := hid (by omega)
    go_enter Tryz.func34, Tryz.ntmps34
    go_wp2
    go_ret
    exact ⟨by rw [HV.out]; rfl, rfl⟩
  · have q : ¬ (y : Int) < (x : Int) := by omega
    have HV : Hid (max x y = y) := hid (by omega)
    go_enter Tryz.func34, Tryz.ntmps34
    go_wp2
    go_ret
    exact ⟨by rw [HV.out]; rfl, rfl⟩
theorem specDeepAt (B : Nat) (ss : List StepD) (v : Value) (i : Nat) (w : World) (hl : ss.length ≤ 24) (hi : i < ss.length) (h1 : firstC (oneC ss) ss.length = 0) (ha : St.At w B v ss) :
    Calls Tryz.prog 35 #[v, .int .i64 (i : Int)] w fun e w' => e = .returned (.int .i64 ((path ss (i + 1)).length : Int)) ∧ w' = w := by
  have W := walked (ss := ss) (i := i + 1) (by omega) (first_to h1 (by omega))
  have h := specDeep B ss v (path ss (i + 1)) w hl W.chain (by have := W.deep; omega) ha
  rw [W.first] at h
  rw [show ((i + 1 : Nat) : Int) - 1 = (i : Int) by omega] at h
  exact h
set_option maxRecDepth 100000 in
set_option maxHeartbeats 4000000 in
theorem specDeepOf (B : Nat) (ss : List StepD) (v : Value) (w : World) (hsm : St.Small 1048576 ss) (ha : St.At w B v ss) :
    Calls Tryz.prog 13 #[v] w fun e w' => e = .returned (.agg #[.int .i64 (pFault ss), .int .i64 (deepV ss)]) ∧ Below w.heap.size w w' := by
  obtain ⟨a, cap, rfl⟩ := ha.slice
  have hb0 : Below w.heap.size w (w.alloc (.cells #[.int .i64 0, .int .i64 0] 33)) := (Below.refl _ w).alloc (Nat.le_refl _) _
  have HF := hid (specFault B ss _ _ hsm (ha.below hb0))
  have HA := hid ha
  clear ha hsm
  go_enter Tryz.func13, Tryz.ntmps13
  go_wp2_with fail
  refine HF.out.mono ?_
  rintro e w1 ⟨rfl, hb1⟩
  have B1 : Below w.heap.size w w1 := hb0.trans (hb1.mono (by simp))
  simp only [World.size_alloc] at hb1
  have l1 : w.heap.size < w1.heap.size := by have := hb1.size; simp at this; omega
  have r0 := kept_cell hb1 (b := w.heap.size) (o := 0) (v := .int .i64 0) (by omega) (by go_simp)
  have r1 := kept_cell hb1 (b := w.heap.size) (o := 1) (v := .int .i64 0) (by omega) (by go_simp)
  have f0 := kept_free hb1 (b := w.heap.size) (o := 0) (by omega) (by go_simp)
  have f1 := kept_free hb1 (b := w.heap.size) (o := 1) (by omega) (by go_simp)
  by_cases hf : pFault ss = 0
  · have b1 : (pFault ss != 0) = false := by simp [hf]
    have HP := hid (of_p hf)
    have hl : ss.length ≤ 24 := by have := HP.out.1; omega
    have HV := hid (deepV_ok hf)
    have HFZ := hid hf
    clear hf
    go_wp2
    go_loop [4, 5] (fun m i => ∃ k : Nat, i = .int .i64 k ∧ m = .int .i64 (deepN ss k : Int) ∧ k ≤ ss.length) (fun _ i => ss.length - (intOf i).toNat)
    case atStart => exact ⟨0, rfl, rfl, Nat.zero_le _⟩
    case round =>
      obtain ⟨k, rfl, rfl, hk⟩ := hrel
      by_cases hlt : k < ss.length
      · have q1 : (k : Int) < (ss.length : Int) := by omega
        have HD := hid (specDeepAt B ss _ k w1 hl hlt HP.out.2.1 (HA.out.below B1))
        have HM := hid (specMax (deepN ss k) (path ss (k + 1)).length w1)
        have HN : Hid (deepN ss (k + 1) = max (deepN ss k) (path ss (k + 1)).length) := hid rfl
        generalize (path ss (k + 1)).length = dp at *
        generalize deepN ss k = dn at *
        go_wp2_with (first | (go_at_call 35; refine HD.out.mono ?_; rintro e w2 ⟨rfl, hw2⟩; replace hw2 := hw2.symm; subst hw2) | (go_at_call 34; refine HM.out.mono ?_; rintro e w2 ⟨rfl, hw2⟩; replace hw2 := hw2.symm; subst hw2))
        exact ⟨⟨k + 1, by simp, by rw [HN.out], by omega⟩, by simp [intOf]; omega⟩
      · have hkn : k = ss.length := by omega
        have HK := hid hkn
        clear hkn
        go_wp2
        exact bodyPost_ret (v := .agg #[.int .i64 0, .int .i64 (deepN ss k : Int)]) (by simp [results, Tryz.results13, go_sem, r0, r1]) rfl ⟨ret2 HFZ.out.symm (by rw [HV.out, HK.out]), setB (setB B1 (Nat.le_refl _) _) (Nat.le_refl _) _⟩
  · have b1 : (pFault ss != 0) = true := bne_iff_ne.2 hf
    have HV := hid (deepV_bad hf)
    clear hf
    go_wp2
    exact bodyPost_ret (v := .agg #[.int .i64 (pFault ss), .int .i64 0]) (by simp [results, Tryz.results13, go_sem, r0, r1]) rfl ⟨ret2 rfl HV.out.symm, setB (setB B1 (Nat.le_refl _) _) (Nat.le_refl _) _⟩
set_option maxRecDepth 100000 in
set_option maxHeartbeats 4000000 in
theorem implDeepOf (ss : List StepD) (v : Value) (w : World) (hsm : St.Small 1048576 ss) (ha : St.At w 0 v ss) (hr : Rul w) :
    Calls Tryz.prog 9 #[v] w fun e w' => e = .returned (.agg #[.int .i64 (pFault ss), .int .i64 (deepV ss)]) ∧ Below w.heap.size w w' := by
  obtain ⟨a, cap, rfl⟩ := ha.slice
  have hb0 : Below w.heap.size w (w.alloc (.cells #[.int .i64 0, .int .i64 0] 33)) := (Below.refl _ w).alloc (Nat.le_refl _) _
  have HF := hid (procSteps ss _ _ hsm (ha.below hb0) (hr.below hb0 hr.lt))
  clear ha hsm hr
  go_enter Tryz.func9, Tryz.ntmps9
  go_wp2_with fail
  refine HF.out.mono ?_
  rintro e w1 ⟨⟨u, rfl, hu1, hu2⟩, hb1⟩
  have B1 : Below w.heap.size w w1 := hb0.trans (hb1.mono (by simp))
  simp only [World.size_alloc] at hb1
  have l1 : w.heap.size < w1.heap.size := by have := hb1.size; simp at this; omega
  have r0 := kept_cell hb1 (b := w.heap.size) (o := 0) (v := .int .i64 0) (by omega) (by go_simp)
  have r1 := kept_cell hb1 (b := w.heap.size) (o := 1) (v := .int .i64 0) (by omega) (by go_simp)
  have f0 := kept_free hb1 (b := w.heap.size) (o := 0) (by omega) (by go_simp)
  have f1 := kept_free hb1 (b := w.heap.size) (o := 1) (by omega) (by go_simp)
  clear HF
  by_cases hf : pFault ss = 0
  · have b1 : (pFault ss != 0) = false := by simp [hf]
    have HP := hid (of_p hf)
    have hl : ss.length ≤ 24 := by have := HP.out.1; omega
    have HV := hid (deepV_ok hf)
    have hPA := hu2 hf
    have HFZ := hid hf
    obtain ⟨gu, cu, rfl, _⟩ := hPA
    have HPA := hid (hu2 hf)
    have HDL := hid (fun k (hk : k ≤ ss.length) => deep_le HP.out.2.1 hk)
    clear hf hu1 hu2
    go_wp2
    go_loopw [5, 7, 19] (fun m _ x wr => ∃ k : Nat, x = .int .i64 k ∧ m = .int .i64 (deepN ss k : Int) ∧ k ≤ ss.length ∧ Hid (Below w1.heap.size w1 wr)) (fun _ _ x _ => ss.length - (intOf x).toNat)
    case atStart => exact ⟨0, rfl, rfl, Nat.zero_le _, hid (Below.refl _ _)⟩
    case round =>
      obtain ⟨k, rfl, rfl, hk, HBR⟩ := hrel
      by_cases hlt : k < ss.length
      · have hP := HPA.out.below HBR.out
        obtain ⟨g', cap', e', hg, hc⟩ := hP
        cases e'
        obtain ⟨kv, vc, ve, d0, d1, d2, d3, d4, d5, d6, d7, d8, hpc⟩ := hc k hlt
        obtain ⟨ak, ck, rfl⟩ := hpc.kids.slice
        obtain ⟨ac, cc, rfl⟩ := hpc.cond.slice
        obtain ⟨ae, ce, rfl⟩ := hpc.expr.slice
        have q1 : (k : Int) < (ss.length : Int) := by omega
        have HN : Hid (deepN ss (k + 1) = max (deepN ss k) (path ss (k + 1)).length) := hid rfl
        clear hc hpc
        generalize (path ss (k + 1)).length = dp at *
        generalize deepN ss k = dn at *
        go_wp2
        refine ⟨⟨k + 1, by simp, ?_, by omega, hid (HBR.out.alloc HBR.out.size _)⟩, by simp [intOf]; omega⟩
        rw [HN.out]
        by_cases h : dn < dp
        · rw [if_pos h]
          congr 1
          omega
        · rw [if_neg h]
          congr 1
          omega
      · have hkn : k = ss.length := by omega
        have HK := hid hkn
        have s0 := kept_cell HBR.out l1 r0
        have s1 := kept_cell HBR.out l1 r1
        have t0 := kept_free HBR.out l1 f0
        have t1 := kept_free HBR.out l1 f1
        have l2 : w.heap.size < wr.heap.size := Nat.lt_of_lt_of_le l1 HBR.out.size
        have B2 := B1.trans (HBR.out.mono B1.size)
        clear hkn r0 r1 f0 f1
        go_wp2
        exact bodyPost_ret (v := .agg #[.int .i64 0, .int .i64 (deepN ss k : Int)]) (by simp [results, Tryz.results9, go_sem, s0, s1]) rfl ⟨ret2 HFZ.out.symm (by rw [HV.out, HK.out]), setB (setB B2 (Nat.le_refl _) _) (Nat.le_refl _) _⟩
  · have b1 : (pFault ss != 0) = true := bne_iff_ne.2 hf
    have HV := hid (deepV_bad hf)
    obtain rfl := hu1 hf
    clear hf hu1 hu2
    go_wp2
    exact bodyPost_ret (v := .agg #[.int .i64 (pFault ss), .int .i64 0]) (by simp [results, Tryz.results9, go_sem, r0, r1]) rfl ⟨ret2 rfl HV.out.symm, setB (setB B1 (Nat.le_refl _) _) (Nat.le_refl _) _⟩
end Pf
end Go.Proofs.YtnbmpofmieagfaaGreatDoor
/- The law's own helpers over lists of numbers: whether two are the same, marks written into one, and whether it still holds them. -/
namespace Go.Proofs.YtnbmpofmieagfaaGreatDoor
open Go.RowKit
set_option linter.unusedVariables false
namespace Ints
open Ex (hid)
def vals (xs : List Int) : List Value := xs.map fun x => .int .i64 x
/-- A slice of numbers that lies in memory. -/
def IntsAt (w : World) (v : Value) (xs : List Int) : Prop :=
  (v = .slice none 0 0 ∧ xs = []) ∨ ∃ g cap, v = .slice (some ⟨g, 0, none⟩) xs.length cap ∧ g < w.heap.size ∧ ∀ i x, xs[i]? = some x → w.cell? ⟨g, i, none⟩ = some (.int .i64 x)
theorem IntsAt.slice {w : World} {v : Value} {xs : List Int} (h : IntsAt w v xs) : ∃ a cap, v = .slice a xs.length cap := by
  rcases h with ⟨rfl, rfl⟩ | ⟨g, cap, rfl, _⟩
  · exact ⟨none, 0, rfl⟩
  · exact ⟨_, _, rfl⟩
theorem IntsAt.at {w : World} {a : Option Addr} {n cap : Nat} {xs : List Int} (h : IntsAt w (.slice a n cap) xs) {i : Nat} (hi : i < xs.length) : ∃ g, a = some ⟨g, 0, none⟩ ∧ g < w.heap.size ∧ w.cell? ⟨g, i, none⟩ = some (.int .i64 xs[i]) := by
  rcases h with ⟨_, rfl⟩ | ⟨g, cap, e, hg, hc⟩
  · simp at hi
  · cases e
    exact ⟨g, rfl, hg, hc i _ (List.getElem?_eq_getElem hi)⟩
theorem IntsAt.kept {w w' : World} {v : Value} {xs : List Int} (h : IntsAt w v xs) (hs : w.heap.size ≤ w'.heap.size) (hb : ∀ b, v.ownBlock = some b → b < w.heap.size → w'.heap[b]? = w.heap[b]?) : IntsAt w' v xs := by
  rcases h with h | ⟨g, cap, rfl, hg, hc⟩
  · exact .inl h
  · exact .inr ⟨g, cap, rfl, Nat.lt_of_lt_of_le hg hs, fun i x hx => by simp only [World.cell?, hb g rfl hg]; exact hc i x hx⟩
theorem IntsAt.below {w w' : World} {v : Value} {xs : List Int} (h : IntsAt w v xs) (hb : Below w.heap.size w w') : IntsAt w' v xs := h.kept hb.size (fun b _ h => hb.block b h)
theorem IntsAt.of {w : World} {base : Nat} {v : Value} {xs : List Int} (h : w.ownsRow base 2 1 v xs.length (vals xs)) : IntsAt w v xs := by
  obtain ⟨hl, ⟨rfl, h0⟩ | ⟨g, cap, cur, rfl, hbg, hg, hle, hm, hs, ht⟩⟩ := h
  · exact .inl ⟨rfl, List.length_eq_zero_iff.1 h0⟩
  · refine .inr ⟨g, cap, rfl, (Array.getElem?_eq_some_iff.1 hg).1, fun i t hti => ?_⟩
    have hi : i < xs.length := (List.getElem?_eq_some_iff.1 hti).1
    have : cur[i]? = some (.int .i64 t) := by
      have h2 := congrArg (·[i]?) ht
      simp only [vals, Nat.mul_one, List.getElem?_take, List.getElem?_map, hti, Option.map_some, hi, if_true] at h2
      simpa using h2
    simp [World.cell?, hg, this]
theorem below_drewN {B : Nat} {a w : World} (h : Below B a w) (n : Nat) : Below B a (w.drewN n) := ⟨h.os, h.tape, h.output, h.size, h.block⟩
def marksTo (n : Nat) : List Int := (List.range n).map fun (i : Nat) => (i : Int) + 1
theorem marksTo_len (n : Nat) : (marksTo n).length = n := by simp [marksTo]
theorem marksTo_succ (n : Nat) : marksTo (n + 1) = marksTo n ++ [(n : Int) + 1] := by simp [marksTo, List.range_succ]
theorem marksTo_get {n i : Nat} (h : i < n) : (marksTo n)[i]? = some ((i : Int) + 1) := by simp [marksTo, h]
def half (xs : List Int) (i : Nat) : List Int := marksTo i ++ xs.drop i
theorem half_set {xs : List Int} {i : Nat} (h : i < xs.length) : (half xs i).set i ((i : Int) + 1) = half xs (i + 1) := by
  unfold half
  rw [marksTo_succ, List.drop_eq_getElem_cons h, List.set_append_right _ _ (Nat.le_of_eq (marksTo_len i)), marksTo_len, Nat.sub_self, List.set_cons_zero, List.append_assoc]
  rfl
theorem owns_cell {w : World} {base g n cap i : Nat} {e : TypeId} {xs : List Value} (h : w.ownsRow base e 1 (.slice (some ⟨g, 0, none⟩) n cap) n xs) (hi : i < n) :
    (∃ u, w.cell? ⟨g, i, none⟩ = some u) ∧ w.frozen? ⟨g, i, none⟩ = false ∧ base ≤ g ∧ g < w.heap.size := by
  obtain ⟨hl, ⟨h0, _⟩ | ⟨g', cap', cur, hv, hbg, hg, hle, hm, hs, ht⟩⟩ := h
  · cases h0
  · cases hv
    have hlt : i < cur.size := by omega
    exact ⟨⟨cur[i], by simp [World.cell?, hg, hlt]⟩, by simp [World.frozen?, hg], hbg, (Array.getElem?_eq_some_iff.1 hg).1⟩
theorem owns_some {w : World} {base n : Nat} {e : TypeId} {v : Value} {xs : List Value} (h : w.ownsRow base e 1 v n xs) (hn : 0 < n) : ∃ g cap, v = .slice (some ⟨g, 0, none⟩) n cap := by
  obtain ⟨hl, ⟨_, h0⟩ | ⟨g', cap', cur, hv, _⟩⟩ := h
  · omega
  · exact ⟨_, _, hv⟩
theorem owns_slice {w : World} {base n : Nat} {e : TypeId} {v : Value} {xs : List Value} (h : w.ownsRow base e 1 v n xs) : ∃ a cap, v = .slice a n cap := by
  obtain ⟨hl, ⟨rfl, rfl⟩ | ⟨g', cap', cur, hv, _⟩⟩ := h
  · exact ⟨_, _, rfl⟩
  · exact ⟨_, _, hv⟩
theorem owns_below {w w' : World} {base : Nat} {e : TypeId} {size n : Nat} {v : Value} {xs : List Value} (h : w.ownsRow base e size v n xs) (hb : Below w.heap.size w w') : w'.ownsRow base e size v n xs :=
  h.kept (row := none) ⟨hb.os, hb.tape, hb.output, hb.size, fun k hk _ => hb.block k hk⟩ (by cases v.ownBlock <;> simp)
theorem grown_refl (w : World) (row : Option Nat) : w.grownBy w row := ⟨rfl, rfl, rfl, Nat.le_refl _, fun _ _ _ => rfl⟩
theorem grown_after {w w1 w2 : World} {row : Option Nat} (h : w.grownBy w1 row) (h2 : w1.grownBy w2 row) : w.grownBy w2 row :=
  ⟨h2.os.trans h.os, h2.tape.trans h.tape, h2.output.trans h.output, Nat.le_trans h.size h2.size, fun k hk hr => (h2.block k (Nat.lt_of_lt_of_le hk h.size) hr).trans (h.block k hk hr)⟩
theorem grown_set {w w1 : World} {g : Nat} (h : w.grownBy w1 (some g)) (i : Nat) (u : Value) : w.grownBy (w1.setCell ⟨g, i, none⟩ u) (some g) :=
  grown_after h ⟨rfl, rfl, rfl, by simp [World.setCell], fun k hk hr => Below.heap_setCell _ _ _ _ (fun e => hr (by rw [e]))⟩
end Ints
end Go.Proofs.YtnbmpofmieagfaaGreatDoor
