/- Laid together: PxA, PxB, PxC. -/
import Derived.Test.YtahkpgffoiaeiaaGreatDoorJProcOf11
import Derived.Test.YtahkpgffoiaeiaaGreatDoorJProcOf12
import Derived.Test.YtahkpgffoiaeiaaGreatDoorJProcOf10
/- What ParseExpr answers, as a plain function; the program's reading: takeByte, takeSign. -/
namespace Go.Proofs.YtahkpgffoiaeiaaGreatDoor
open Go.RowKit
set_option linter.unusedVariables false
namespace Ex
open Nd (NodeD)
def Tm.okB : Tm → Bool
  | ⟨[], false, n⟩ => inR n 0 9999
  | ⟨[], true, n⟩ => inR n 0 3
  | ⟨[t], v, n⟩ => t.okB && ((v == false) && (n == 0))
  | ⟨l :: r :: s, v, k⟩ => (inR k 3 9 && (l.okB && r.okB)) && ((v == false) && s.isEmpty)
theorem okB_iff : ∀ (t : Tm), t.okB = true ↔ t.ok
  | ⟨[], false, n⟩ => by simp only [Tm.okB, Tm.ok]; exact inR_iff
  | ⟨[], true, n⟩ => by simp only [Tm.okB, Tm.ok]; exact inR_iff
  | ⟨[t], v, n⟩ => by simp only [Tm.okB, Tm.ok, Bool.and_eq_true, okB_iff t, beq_iff_eq]
  | ⟨l :: r :: s, v, k⟩ => by
    simp only [Tm.okB, Tm.ok, Bool.and_eq_true, okB_iff l, okB_iff r, beq_iff_eq, inR_iff, List.isEmpty_iff]
    constructor
    · rintro ⟨⟨⟨h1, h2⟩, h3, h4⟩, h5⟩; exact ⟨⟨h1, h2, h3, h4⟩, h5⟩
    · rintro ⟨⟨h1, h2, h3, h4⟩, h5⟩; exact ⟨⟨⟨h1, h2⟩, h3, h4⟩, h5⟩
def Tm.fine (t : Tm) : Bool := t.okB && decide (t.size ≤ 16)
theorem fine_iff {t : Tm} : t.fine = true ↔ t.ok ∧ t.size ≤ 16 := by unfold Tm.fine; rw [Bool.and_eq_true, okB_iff, decide_eq_true_eq]
def parseF (l : List UInt8) : Option Tm := match gp (l.length + 1) l with
  | some (t, []) => if t.fine = true then some t else none
  | _ => none
def pCode (l : List UInt8) : Int := if 200 < l.length then 2 else match parseF l with
  | some _ => 0
  | none => 5
def pNodes (l : List UInt8) : List NodeD := if 200 < l.length then [] else match parseF l with
  | some t => t.nodes 0
  | none => []
theorem p_many {l : List UInt8} (h : 200 < l.length) : pCode l = 2 ∧ pNodes l = [] := by unfold pCode pNodes; rw [if_pos h, if_pos h]; exact ⟨rfl, rfl⟩
theorem p_none {l : List UInt8} (h : ¬ 200 < l.length) (h2 : parseF l = none) : pCode l = 5 ∧ pNodes l = [] := by unfold pCode pNodes; rw [if_neg h, if_neg h, h2]; exact ⟨rfl, rfl⟩
theorem p_some {l : List UInt8} {t : Tm} (h : ¬ 200 < l.length) (h2 : parseF l = some t) : pCode l = 0 ∧ pNodes l = t.nodes 0 := by unfold pCode pNodes; rw [if_neg h, if_neg h, h2]; exact ⟨rfl, rfl⟩
theorem parse_some {l : List UInt8} {t : Tm} (h : gp (l.length + 1) l = some (t, [])) (h2 : t.ok ∧ t.size ≤ 16) : parseF l = some t := by unfold parseF; rw [h]; simp only; rw [if_pos (fine_iff.2 h2)]
theorem parse_none {l : List UInt8} (h : ∀ t, gp (l.length + 1) l = some (t, []) → ¬ (t.ok ∧ t.size ≤ 16)) : parseF l = none := by
  unfold parseF
  split
  · rename_i t h1
    rw [if_neg (fun h2 => h t h1 (fine_iff.1 h2))]
  · rfl
theorem pNodes_len (l : List UInt8) : (pNodes l).length ≤ 16 := by
  unfold pNodes
  split
  · simp
  · unfold parseF
    split
    · rename_i t h
      split at h
      · rename_i t' h2
        by_cases h3 : t'.fine = true
        · rw [if_pos h3] at h; cases h; rw [nodes_len]; exact (fine_iff.1 h3).2
        · rw [if_neg h3] at h; cases h
      · cases h
    · simp
theorem str_inj {a b : List UInt8} (h : str a = str b) : a = b := by
  have := congrArg (fun x : ByteArray => x.data.toList) h
  simpa [str] using this
theorem str_toList (l : List UInt8) : (str l).toList = l := by simp [ByteArray.toList_eq, str]
/-- What is read, and what is not read yet. -/
def Rd (w : World) (R : Nat) (rest : List UInt8) (ns : List NodeD) : Prop :=
  ∃ v, w.heap[R]? = some (.cells #[.string (str rest), v] 205 (0, 0)) ∧ w.ownsRow (R + 1) 143 4 v ns.length (nvals ns)
theorem Rd.lt {w : World} {R : Nat} {rest : List UInt8} {ns : List NodeD} (h : Rd w R rest ns) : R < w.heap.size := by
  obtain ⟨v, h, _⟩ := h
  exact (Array.getElem?_eq_some_iff.1 h).1
theorem Rd.below {w w' : World} {R : Nat} {rest : List UInt8} {ns : List NodeD} (h : Rd w R rest ns) (hb : Below w.heap.size w w') : Rd w' R rest ns := by
  have hl := h.lt
  obtain ⟨v, h1, h2⟩ := h
  exact ⟨v, (hb.block R hl).trans h1, owns_keep h2 hb⟩
theorem Rd.setRest {w : World} {R : Nat} {rest : List UInt8} {ns : List NodeD} (h : Rd w R rest ns) (r : List UInt8) : Rd (w.setCell ⟨R, 0, none⟩ (.string (str r))) R r ns := by
  obtain ⟨v, h1, h2⟩ := h
  refine ⟨v, ?_, ownsRow_setCell_below h2 (a := ⟨R, 0, none⟩) (Nat.lt_succ_self R) _⟩
  simp [World.setCell, Array.getElem?_modify, h1]
theorem extract_str (b : UInt8) (r : List UInt8) : (str (b :: r)).extract 1 (str (b :: r)).size = str r := by
  apply ByteArray.ext
  simp [str, ByteArray.size]
end Ex
end Go.Proofs.YtahkpgffoiaeiaaGreatDoor
/- The program's reading: takeByte, takeSign. -/
namespace Go.Proofs.YtahkpgffoiaeiaaGreatDoor
open Go.RowKit
set_option linter.unusedVariables false
namespace Ex
open Nd (NodeD)
theorem Rd.c0 {w : World} {R : Nat} {rest : List UInt8} {ns : List NodeD} (h : Rd w R rest ns) : w.cell? ⟨R, 0, none⟩ = some (.string (str rest)) ∧ w.frozen? ⟨R, 0, none⟩ = false ∧ w.frozen? ⟨R, 1, none⟩ = false ∧ ∃ a cap, w.cell? ⟨R, 1, none⟩ = some (.slice a ns.length cap) := by
  obtain ⟨v, h1, h2⟩ := h
  obtain ⟨a, cap, rfl⟩ := own4_slice h2
  exact ⟨by simp [World.cell?, h1], by simp [World.frozen?, h1], by simp [World.frozen?, h1], a, cap, by simp [World.cell?, h1]⟩
set_option maxRecDepth 100000 in
set_option maxHeartbeats 1000000 in
theorem takeYes (R : Nat) (b : UInt8) (r : List UInt8) (ns : List NodeD) (w : World) (h : Rd w R (b :: r) ns) (hl : r.length ≤ 1000) :
    Calls Tryz.prog 125 #[.pointer (some ⟨R, 0, none⟩), .int .u8 (b.toNat : Int)] w fun e w' => e = .returned (.bool true) ∧ Rd w' R r ns ∧ Below R w w' := by
  obtain ⟨c0, f0, f1, a, cap, c1⟩ := h.c0
  have HR := hid (h.setRest r)
  have HB : Hid (Below R w (w.setCell ⟨R, 0, none⟩ (.string (str r)))) := hid ((Below.refl R w).setCell (Nat.le_refl _) _)
  have e1 : (str (b :: r)).toList.isEmpty = false := by rw [str_toList]; rfl
  have e2 : (str (b :: r)).size = r.length + 1 := by rw [str_size]; rfl
  have h0 : 0 < (str (b :: r)).size := by omega
  have e3 : ((((str (b :: r))[0]'h0).toNat : Int) != (b.toNat : Int)) = false := by
    have : (str (b :: r))[0]'h0 = b := rfl
    rw [this]; simp
  have HX : Hid ((str (b :: r)).extract 1 (r.length + 1) = str r) := hid (by have := extract_str b r; rwa [str_size] at this)
  have q : (1 : Int) ≤ (r.length : Int) + 1 := by omega
  clear h
  generalize str (b :: r) = sb at *
  go_enter Tryz.func125, Tryz.ntmps125
  go_wp2
  rw [HX.out]
  go_ret
  exact ⟨rfl, HR.out, HB.out⟩
set_option maxRecDepth 100000 in
set_option maxHeartbeats 1000000 in
theorem takeNo (R : Nat) (b : UInt8) (rest : List UInt8) (ns : List NodeD) (w : World) (h : Rd w R rest ns) (hl : rest.length ≤ 1000) (hn : ∀ r, rest ≠ b :: r) :
    Calls Tryz.prog 125 #[.pointer (some ⟨R, 0, none⟩), .int .u8 (b.toNat : Int)] w fun e w' => e = .returned (.bool false) ∧ w' = w := by
  obtain ⟨c0, f0, f1, a, cap, c1⟩ := h.c0
  cases rest with
  | nil =>
    have e1 : (str []).toList.isEmpty = true := by rw [str_toList]; rfl
    clear h hn
    generalize str [] = sb at *
    go_enter Tryz.func125, Tryz.ntmps125
    go_wp2
    go_ret
    exact ⟨rfl, rfl⟩
  | cons c r =>
    have hcb : c ≠ b := fun e => hn r (by rw [e])
    have e1 : (str (c :: r)).toList.isEmpty = false := by rw [str_toList]; rfl
    have e2 : (str (c :: r)).size = r.length + 1 := by rw [str_size]; rfl
    have h0 : 0 < (str (c :: r)).size := by omega
    have e3 : ((((str (c :: r))[0]'h0).toNat : Int) != (b.toNat : Int)) = true := by
      have : (str (c :: r))[0]'h0 = c := rfl
      rw [this]
      simp only [bne_iff_ne, ne_eq]
      intro e
      exact hcb (UInt8.toNat_inj.1 (by omega))
    clear h hn hcb hl
    generalize str (c :: r) = sb at *
    go_enter Tryz.func125, Tryz.ntmps125
    go_wp2
    go_ret
    exact ⟨rfl, rfl⟩
def sgs : List UInt8 := [43, 45, 42, 47, 60, 61, 38]
theorem kind_at {i : Nat} (h : i < 7) : kindOf (sgs.getD i 0) = some (3 + (i : Int)) := by
  have : i = 0 ∨ i = 1 ∨ i = 2 ∨ i = 3 ∨ i = 4 ∨ i = 5 ∨ i = 6 := by omega
  rcases this with rfl | rfl | rfl | rfl | rfl | rfl | rfl <;> decide
theorem kind_no {b : UInt8} (h : ∀ i, i < 7 → b ≠ sgs.getD i 0) : kindOf b = none := by
  unfold kindOf
  rw [if_neg (show b ≠ 43 from h 0 (by omega)), if_neg (show b ≠ 45 from h 1 (by omega)), if_neg (show b ≠ 42 from h 2 (by omega)), if_neg (show b ≠ 47 from h 3 (by omega)), if_neg (show b ≠ 60 from h 4 (by omega)), if_neg (show b ≠ 61 from h 5 (by omega)), if_neg (show b ≠ 38 from h 6 (by omega))]
theorem sg_index : ∀ {i : Nat}, i < 7 → ∀ (w : World), Sem.run Tryz.prog (Instr.index 9 (.string ⟨#[43, 45, 42, 47, 60, 61, 38]⟩) (.int .i64 (i : Int))) w = .ok (.int .u8 ((sgs.getD i 0).toNat : Int)) w
  | 0, _, w => by kernel_rfl
  | 1, _, w => by kernel_rfl
  | 2, _, w => by kernel_rfl
  | 3, _, w => by kernel_rfl
  | 4, _, w => by kernel_rfl
  | 5, _, w => by kernel_rfl
  | 6, _, w => by kernel_rfl
  | n + 7, h, w => by omega
/-- What a sign is taken for. -/
def signF (rest : List UInt8) : Option (Int × List UInt8) := match rest with
  | [] => none
  | s :: r => (kindOf s).map fun k => (k, r)
set_option maxRecDepth 100000 in
set_option maxHeartbeats 2000000 in
theorem takeSign (R : Nat) (rest : List UInt8) (ns : List NodeD) (w : World) (h : Rd w R rest ns) (hl : rest.length ≤ 1000) :
    Calls Tryz.prog 135 #[.pointer (some ⟨R, 0, none⟩)] w fun e w' => (∃ k r, signF rest = some (k, r) ∧ e = .returned (.tuple #[.int .i64 k, .bool true]) ∧ Rd w' R r ns ∧ Below R w w') ∨ (signF rest = none ∧ e = .returned (.tuple #[.int .i64 0, .bool false]) ∧ w' = w) := by
  have HR := hid h
  clear h
  go_enter Tryz.func135, Tryz.ntmps135
  go_wp2
  go_loop [4, 5] (fun _ x => ∃ i : Nat, x = .int .i64 i ∧ i ≤ 7 ∧ Hid (∀ j, j < i → ∀ r, rest ≠ sgs.getD j 0 :: r)) (fun _ x => 7 - (intOf x).toNat)
  case atStart => exact ⟨0, rfl, by omega, hid (fun j h => by omega)⟩
  case round =>
    obtain ⟨i, rfl, hi, HJ⟩ := hrel
    by_cases hlt : i < 7
    · have q1 : (i : Int) < 7 := by omega
      have hix := sg_index hlt
      have HK := hid (kind_at hlt)
      have HY := hid (takeYes R (sgs.getD i 0))
      have HN := hid (takeNo R (sgs.getD i 0) rest ns w HR.out hl)
      generalize hsb : sgs.getD i 0 = sb at *
      have HSB := hid hsb
      clear hsb
      by_cases hh : ∃ r, rest = sb :: r
      · obtain ⟨r, rfl⟩ := hh
        have HC := hid (HY.out r ns w HR.out (by simp at hl; omega))
        have HV : Hid (signF (sb :: r) = some (3 + (i : Int), r)) := hid (by simp only [signF]; rw [HK.out]; rfl)
        clear HY HN HK
        go_wp2_with fail
        refine HC.out.mono ?_
        rintro e w1 ⟨rfl, hr1, hb1⟩
        have HR1 := hid hr1
        clear hr1
        go_wp2
        go_ret2
        exact .inl ⟨_, _, HV.out, rfl, HR1.out, hb1⟩
      · have HC := hid (HN.out (fun r e => hh ⟨r, e⟩))
        have HJ2 : Hid (∀ r, rest ≠ sb :: r) := hid (fun r e => hh ⟨r, e⟩)
        clear HY HN HK hh
        go_wp2_with fail
        refine HC.out.mono ?_
        rintro e w1 ⟨rfl, rfl⟩
        go_wp2
        refine ⟨⟨i + 1, by simp, by omega, hid (fun j hj => ?_)⟩, by simp [intOf]; omega⟩
        by_cases e : j = i
        · rw [e, HSB.out]; exact HJ2.out
        · exact HJ.out j (by omega)
    · have HV : Hid (signF rest = none) := hid (by
        cases rest with
        | nil => rfl
        | cons c r =>
          simp only [signF]
          rw [kind_no (fun j hj e => HJ.out j (by omega) r (by rw [e]))]
          rfl)
      go_wp2
      go_ret2
      exact .inr ⟨HV.out, rfl, rfl⟩
end Ex
end Go.Proofs.YtahkpgffoiaeiaaGreatDoor
/- The program's reading: readNumber. -/
namespace Go.Proofs.YtahkpgffoiaeiaaGreatDoor
open Go.RowKit
set_option linter.unusedVariables false
namespace Ex
open Nd (NodeD)
theorem valD_take {d : List UInt8} {k : Nat} (h : k < d.length) : valD (d.take (k + 1)) = valD (d.take k) * 10 + (d[k].toNat - 48) := by
  rw [List.take_add_one, List.getElem?_eq_getElem h]
  exact valD_snoc _ _
theorem isD_get {d : List UInt8} (hd : ∀ b ∈ d, isD b = true) {k : Nat} (h : k < d.length) : 48 ≤ d[k].toNat ∧ d[k].toNat ≤ 57 := by
  have := hd d[k] (List.getElem_mem h)
  simpa [isD] using this
theorem num_bad1 {most : Nat} {d : List UInt8} (h : d.length = 0) : numBad most d = true := by unfold numBad; simp [h]
theorem num_bad2 {most : Nat} {d : List UInt8} (h : most < d.length) : numBad most d = true := by unfold numBad; simp [h]
theorem num_bad3 {most : Nat} {d : List UInt8} (h : d.head? = some 48) (h2 : 1 < d.length) : numBad most d = true := by unfold numBad; simp [h, h2]
theorem num_good {most : Nat} {d : List UInt8} (h : d.length ≠ 0) (h2 : ¬ most < d.length) (h3 : ¬ (d.head? = some 48 ∧ 1 < d.length)) : numBad most d = false := by
  unfold numBad
  simp only [Bool.or_eq_false_iff, Bool.and_eq_false_iff, decide_eq_false_iff_not]
  exact ⟨⟨h, h2⟩, by
    by_cases c : d.head? = some 48
    · exact .inr (fun h => h3 ⟨c, h⟩)
    · exact .inl c⟩
def numAns (most : Nat) (d : List UInt8) (e : Ending) : Prop := (numBad most d = true ∧ e = .returned (.tuple #[.int .i64 0, .bool false])) ∨ (numBad most d = false ∧ e = .returned (.tuple #[.int .i64 (valD d : Int), .bool true]))
set_option maxRecDepth 100000 in
set_option maxHeartbeats 4000000 in
theorem implNumber (most : Nat) (d : List UInt8) (w : World) (hd : ∀ b ∈ d, isD b = true) (hl : d.length ≤ 1000) (h1 : 1 ≤ most) (h4 : most ≤ 4) :
    Calls Tryz.prog 89 #[.string (str d), .int .i64 (most : Int)] w fun e w' => numAns most d e ∧ w' = w := by
  have e2 : (str d).size = d.length := str_size d
  by_cases z0 : d.length = 0
  · have e1 : (str d).toList.isEmpty = true := by rw [str_toList]; simpa using z0
    have HV := hid (num_bad1 (most := most) z0)
    clear z0 hd e2
    generalize str d = sd at *
    go_enter Tryz.func89, Tryz.ntmps89
    go_wp2
    go_ret2
    exact ⟨.inl ⟨HV.out, rfl⟩, rfl⟩
  have e1 : (str d).toList.isEmpty = false := by rw [str_toList]; cases d with | nil => simp at z0 | cons c r => rfl
  by_cases z1 : most < d.length
  · have HV := hid (num_bad2 z1)
    have q1 : (most : Int) < (d.length : Int) := by omega
    clear hd
    generalize str d = sd at *
    go_enter Tryz.func89, Tryz.ntmps89
    go_wp2
    go_ret2
    exact ⟨.inl ⟨HV.out, rfl⟩, rfl⟩
  have q1 : ¬ (most : Int) < (d.length : Int) := by omega
  have h0 : 0 < (str d).size := by omega
  by_cases z2 : d.head? = some 48 ∧ 1 < d.length
  · have HV := hid (num_bad3 (most := most) z2.1 z2.2)
    have q2 : (1 : Int) < (d.length : Int) := by omega
    have e3 : ((((str d)[0]'h0).toNat : Int) == 48) = true := by
      have hh := z2.1
      cases d with
      | nil => simp at hh
      | cons c r =>
        have : (str (c :: r))[0]'h0 = c := rfl
        rw [this]
        simp at hh
        rw [hh]; rfl
    clear hd z2
    generalize str d = sd at *
    go_enter Tryz.func89, Tryz.ntmps89
    go_wp2
    go_ret2
    exact ⟨.inl ⟨HV.out, rfl⟩, rfl⟩
  have HV := hid (num_good (most := most) z0 z1 z2)
  have hguard : ((((str d)[0]'h0).toNat : Int) == 48) = false ∨ (((((str d)[0]'h0).toNat : Int) == 48) = true ∧ ¬ (1 : Int) < (d.length : Int)) := by
    cases hx : ((((str d)[0]'h0).toNat : Int) == 48)
    · exact .inl rfl
    · refine .inr ⟨rfl, fun h => z2 ⟨?_, by omega⟩⟩
      cases d with
      | nil => simp at z0
      | cons c r =>
        have hc : (str (c :: r))[0]'h0 = c := rfl
        rw [hc] at hx
        have : c.toNat = 48 := by have := beq_iff_eq.1 hx; omega
        have : c = 48 := UInt8.toNat_inj.1 this
        rw [this]; rfl
  have HD := hid hd
  clear hd z2
  have H0 := hid z0
  clear z0
  rcases hguard with g1 | ⟨g1, g2⟩
  · go_enter Tryz.func89, Tryz.ntmps89
    go_wp2
    go_loop [6, 7, 26] (fun v _ x => ∃ k : Nat, x = .int .i64 k ∧ k ≤ d.length ∧ v = .int .i64 (valD (d.take k) : Int)) (fun _ _ x => d.length - (intOf x).toNat)
    case atStart => exact ⟨0, rfl, Nat.zero_le _, rfl⟩
    case round =>
      obtain ⟨k, rfl, hk, rfl⟩ := hrel
      by_cases hlt : k < d.length
      · have q2 : (k : Int) < (d.length : Int) := by omega
        have hks : k < (str d).size := by omega
        have hdg := isD_get HD.out hlt
        have hx : ((str d)[k]'hks).toNat = d[k].toNat := rfl
        have hv := valD_lt k (d.take k) (by simp; omega) (fun b hb => HD.out b (List.mem_of_mem_take hb))
        have hp : 10 ^ k ≤ 10000 := Nat.le_trans (Nat.pow_le_pow_right (by omega) (by omega : k ≤ 4)) (by decide)
        have HT := hid (valD_take hlt)
        have u1 : ¬ (((str d)[k]'hks).toNat : Int) < 48 := by omega
        have u2 : ¬ (57 : Int) < (((str d)[k]'hks).toNat : Int) := by omega
        have u3 : (48 : Int) ≤ (((str d)[k]'hks).toNat : Int) := by omega
        have u4 : (((str d)[k]'hks).toNat : Int) ≤ 57 := by omega
        have u5 : ((valD (d.take k) : Nat) : Int) ≤ 10000 := by omega
        have u6 : (0 : Int) ≤ ((valD (d.take k) : Nat) : Int) := by omega
        have HDG := hid hdg
        have HXX := hid hx
        clear hx hdg hv hp
        generalize valD (d.take k) = vk at *
        go_wp2
        refine ⟨⟨k + 1, by simp, by omega, ?_⟩, by simp [intOf]; omega⟩
        have h1 := HT.out
        have h2 := HDG.out
        have h3 := HXX.out
        congr 1
        omega
      · have hkd : k = d.length := by omega
        rw [hkd, List.take_length]
        go_wp2
        go_ret2
        exact ⟨.inr ⟨HV.out, rfl⟩, rfl⟩
  · go_enter Tryz.func89, Tryz.ntmps89
    go_wp2
    go_loop [6, 7, 26] (fun v _ x => ∃ k : Nat, x = .int .i64 k ∧ k ≤ d.length ∧ v = .int .i64 (valD (d.take k) : Int)) (fun _ _ x => d.length - (intOf x).toNat)
    case atStart => exact ⟨0, rfl, Nat.zero_le _, rfl⟩
    case round =>
      obtain ⟨k, rfl, hk, rfl⟩ := hrel
      by_cases hlt : k < d.length
      · have q2 : (k : Int) < (d.length : Int) := by omega
        have hks : k < (str d).size := by omega
        have hdg := isD_get HD.out hlt
        have hx : ((str d)[k]'hks).toNat = d[k].toNat := rfl
        have hv := valD_lt k (d.take k) (by simp; omega) (fun b hb => HD.out b (List.mem_of_mem_take hb))
        have hp : 10 ^ k ≤ 10000 := Nat.le_trans (Nat.pow_le_pow_right (by omega) (by omega : k ≤ 4)) (by decide)
        have HT := hid (valD_take hlt)
        have u1 : ¬ (((str d)[k]'hks).toNat : Int) < 48 := by omega
        have u2 : ¬ (57 : Int) < (((str d)[k]'hks).toNat : Int) := by omega
        have u3 : (48 : Int) ≤ (((str d)[k]'hks).toNat : Int) := by omega
        have u4 : (((str d)[k]'hks).toNat : Int) ≤ 57 := by omega
        have u5 : ((valD (d.take k) : Nat) : Int) ≤ 10000 := by omega
        have u6 : (0 : Int) ≤ ((valD (d.take k) : Nat) : Int) := by omega
        have HDG := hid hdg
        have HXX := hid hx
        clear hx hdg hv hp
        generalize valD (d.take k) = vk at *
        go_wp2
        refine ⟨⟨k + 1, by simp, by omega, ?_⟩, by simp [intOf]; omega⟩
        have h1 := HT.out
        have h2 := HDG.out
        have h3 := HXX.out
        congr 1
        omega
      · have hkd : k = d.length := by omega
        rw [hkd, List.take_length]
        go_wp2
        go_ret2
        exact ⟨.inr ⟨HV.out, rfl⟩, rfl⟩
end Ex
end Go.Proofs.YtahkpgffoiaeiaaGreatDoor
