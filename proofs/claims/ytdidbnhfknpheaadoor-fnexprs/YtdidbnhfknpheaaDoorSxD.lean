/- The specification's reading: l3Part. -/
import Derived.Test.YtdidbnhfknpheaaDoorSxC
namespace Go.Proofs.YtdidbnhfknpheaaDoor
open Go.RowKit
set_option linter.unusedVariables false
namespace Ex
open Nd (NodeD)
def slack (ok : Bool) : Nat := if ok = true then 0 else 1
def partPost (f : Nat) (text : List UInt8) (pos : Nat) (ns : List NodeD) (R : Nat) (w : World) (e : Ending) (w' : World) : Prop :=
  ∃ (x : Int) (ok : Bool) (p' : Nat) (ns' : List NodeD), e = .returned (.tuple #[.int .i64 x, .bool ok]) ∧ Sr w' R text p' ns' ∧ pos ≤ p' ∧ p' ≤ text.length ∧ ns'.length ≤ ns.length + (p' - pos) + slack ok ∧ partW f text pos ns x ok p' ns' ∧ Below R w w'
def PartAt (f R : Nat) (text : List UInt8) : Prop := ∀ (pos : Nat) (ns : List NodeD) (w : World), text.length - pos < f → pos ≤ text.length → ns.length + (text.length - pos) ≤ 2000 → Sr w R text pos ns → Calls Tryd.prog 33 #[.pointer (some ⟨R, 0, none⟩)] w (partPost f text pos ns R w)
theorem partNil {f : Nat} {text : List UInt8} {pos : Nat} {ns ns' : List NodeD} {x : Int} {p' : Nat} (h : text.length ≤ pos) : partW f text pos ns x false p' ns' := by
  refine .inr ⟨rfl, fun t r ht => ?_⟩
  rw [List.drop_eq_nil_of_le h] at ht
  cases f <;> (rw [gp] at ht; cases ht)
theorem partMany {f : Nat} {text : List UInt8} {pos : Nat} {ns ns' : List NodeD} {x : Int} {p' : Nat} (h : 16 < ns.length) : partW f text pos ns x false p' ns' := .inr ⟨rfl, fun t r ht => by omega⟩
theorem const_mk {n m : Nat} : (Tm.const (n : Int)).size = 1 ∧ (Tm.const (n : Int)).nodes m = [⟨1, (n : Int), 0, 0⟩] := ⟨rfl, rfl⟩
theorem var_mk {n m : Nat} : (Tm.var (n : Int)).size = 1 ∧ (Tm.var (n : Int)).nodes m = [⟨2, (n : Int), 0, 0⟩] := ⟨rfl, rfl⟩
set_option maxRecDepth 100000 in
set_option maxHeartbeats 16000000 in
theorem specPart (R : Nat) (text : List UInt8) (hl : text.length ≤ 1000) : ∀ (f : Nat), PartAt f R text
  | 0 => fun pos ns w h1 => by omega
  | f + 1 => fun pos ns w h1 hp hb h => by
    have IH := hid (specPart R text hl f)
    obtain ⟨c0, c1, f1, f2, a, cap, c2, ho⟩ := h.c
    have e1 : (str text).size = text.length := str_size text
    have HR := hid h
    clear h ho f1 f2
    unfold partPost
    by_cases g1 : 16 < ns.length
    · have q1 : (16 : Int) < (ns.length : Int) := by omega
      clear IH
      go_enter Tryd.func33, Tryd.ntmps33
      go_wp2
      go_quiet (fail)
      go_wp2
      go_ret2
      exact ⟨0, false, pos, ns, rfl, HR.out.drewN _, Nat.le_refl _, hp, by omega, partMany g1, Ints.below_drewN (Below.refl _ w) _⟩
    have q1 : decide ((16 : Int) < (ns.length : Int)) = false := decide_eq_false (by omega)
    by_cases g2 : text.length ≤ pos
    · have q2 : (text.length : Int) ≤ (pos : Int) := by omega
      clear IH
      go_enter Tryd.func33, Tryd.ntmps33
      go_wp2
      go_quiet (fail)
      go_wp2
      go_ret2
      exact ⟨0, false, pos, ns, rfl, HR.out.drewN _, Nat.le_refl _, hp, by omega, partNil g2, Ints.below_drewN (Below.refl _ w) _⟩
    have q2 : decide ((text.length : Int) ≤ (pos : Int)) = false := decide_eq_false (by omega)
    have hlt : pos < text.length := by omega
    have hdc := drop_cons hlt
    rw [getD_eq2 hlt] at hdc
    have HYv := hid (fun (b : UInt8) (w : World) (h : Sr w R text pos ns) (e : text[pos] = b) => specTakeYes R pos b text ns w h hl hlt e)
    have HNv := hid (fun (b : UInt8) (w : World) (h : Sr w R text pos ns) (e : text[pos] ≠ b) => specTakeNo R pos b text ns w h hl hp (fun _ => e))
    by_cases d1 : text[pos] = 118
    · have HG : Hid (gp (f + 1) (text.drop pos) = (num 1 (text.drop (pos + 1))).map fun p => (.var p.1, p.2)) := hid (by rw [hdc, d1]; exact gp_var_eq)
      have HN := hid (fun (w : World) (h : Sr w R text (pos + 1) ns) => specNum R (pos + 1) 1 text ns w h hl (by omega) (by omega) (by omega))
      have HD1 := hid d1
      clear IH hdc d1 HNv
      go_enter Tryd.func33, Tryd.ntmps33
      go_wp2
      go_quiet (fail)
      have HQ := hid (Ints.below_drewN (Below.refl R w) nq)
      have HRQ := hid (HR.out.drewN nq)
      go_wp2_with fail
      refine (HYv.out 118 _ HRQ.out HD1.out).mono ?_
      rintro e w1 ⟨rfl, hr1, hb1⟩
      have HC := hid (HN.out w1 hr1)
      have HB1 := hid (HQ.out.trans hb1)
      clear hr1 hb1 HYv HRQ HN
      go_wp2_with fail
      refine HC.out.mono ?_
      rintro e w2 ⟨k, hna, rfl, hr2, hb2⟩
      have hk := hna.2.1
      have HW := hid (leaf_W (mk := fun n => Tm.var (n : Int)) (ns := ns) (kd := 2) (fun n => var_mk) HG.out hna (by omega))
      have HP := hid (specPut R (pos + 1 + k) text ns ⟨2, (pieceV text (pos + 1) (pos + 1 + k) : Int), 0, 0⟩ w2 hr2 (by omega))
      have HB2 := hid (HB1.out.trans hb2)
      clear hna hr2 hb2 HC HB1 HG
      generalize pieceV text (pos + 1) (pos + 1 + k) = pv at *
      generalize numOk text (pos + 1) k = ok at *
      go_wp2_with fail
      refine HP.out.mono ?_
      rintro e w3 ⟨rfl, hr3, hb3⟩
      have HR3 := hid hr3
      have HB3 := hid (HB2.out.trans hb3)
      clear hr3 hb3 HP HB2
      go_wp2
      go_ret2
      exact ⟨_, ok, pos + 1 + k, _, rfl, HR3.out, by omega, by omega, by rw [List.length_append, List.length_singleton]; omega, HW.out.1, HB3.out⟩
    by_cases d2 : text[pos] = 33
    · have HD : Hid (text.drop pos = 33 :: text.drop (pos + 1)) := hid (by rw [hdc, d2])
      have HN1 := hid (fun (w : World) (h : Sr w R text pos ns) => HNv.out 118 w h d1)
      have HY1 := hid (fun (w : World) (h : Sr w R text pos ns) => HYv.out 33 w h d2)
      have HI := hid (fun (w : World) (h : Sr w R text (pos + 1) ns) => IH.out (pos + 1) ns w (by omega) (by omega) (by omega) h)
      clear IH hdc d1 d2 HNv HYv
      go_enter Tryd.func33, Tryd.ntmps33
      go_wp2
      go_quiet (fail)
      have HQ := hid (Ints.below_drewN (Below.refl R w) nq)
      have HRQ := hid (HR.out.drewN nq)
      go_wp2_with fail
      refine (HN1.out _ HRQ.out).mono ?_
      rintro e w0 ⟨rfl, hr0, hb0⟩
      have HB0 := hid (HQ.out.trans (hb0.mono (Nat.le_of_lt HRQ.out.lt)))
      have HY := hid (HY1.out w0 hr0)
      clear hr0 hb0 HRQ HN1 HY1 HQ
      go_wp2_with fail
      refine HY.out.mono ?_
      rintro e w1 ⟨rfl, hr1, hb1⟩
      have HC := hid (HI.out w1 hr1)
      have HB1 := hid (HB0.out.trans hb1)
      clear hr1 hb1 HY HI HB0
      go_wp2_with fail
      refine HC.out.mono ?_
      rintro e w2 ⟨x, ok, p', ns', rfl, hr2, hp1, hp2, hn2, hW, hb2⟩
      have HB2 := hid (HB1.out.trans hb2)
      have HWW := hid hW
      have HR2 := hid hr2
      clear hW hr2 hb2 HC HB1
      cases ok
      · go_wp2
        go_ret2
        exact ⟨0, false, p', ns', rfl, HR2.out, by omega, hp2, by simp only [slack, Bool.false_eq_true, if_false] at hn2 ⊢; omega, not_Wf HD.out HWW.out, HB2.out⟩
      · simp only [slack, if_true] at hn2
        have HP := hid (specPut R p' text ns' ⟨10, 0, x, 0⟩ w2 HR2.out (by omega))
        go_wp2_with fail
        refine HP.out.mono ?_
        rintro e w3 ⟨rfl, hr3, hb3⟩
        have HR3 := hid hr3
        have HB3 := hid (HB2.out.trans hb3)
        clear hr3 hb3 HP HB2
        go_wp2
        go_ret2
        exact ⟨_, true, p', _, rfl, HR3.out, by omega, hp2, by rw [List.length_append, List.length_singleton]; omega, not_Wt HD.out HWW.out, HB3.out⟩
    by_cases d3 : text[pos] = 40
    · have HD : Hid (text.drop pos = 40 :: text.drop (pos + 1)) := hid (by rw [hdc, d3])
      have HN1 := hid (fun (w : World) (h : Sr w R text pos ns) => HNv.out 118 w h d1)
      have HN2 := hid (fun (w : World) (h : Sr w R text pos ns) => HNv.out 33 w h d2)
      have HY1 := hid (fun (w : World) (h : Sr w R text pos ns) => HYv.out 40 w h d3)
      have HI := hid (fun (w : World) (h : Sr w R text (pos + 1) ns) => IH.out (pos + 1) ns w (by omega) (by omega) (by omega) h)
      clear hdc d1 d2 d3 HNv HYv
      go_enter Tryd.func33, Tryd.ntmps33
      go_wp2
      go_quiet (fail)
      have HQ := hid (Ints.below_drewN (Below.refl R w) nq)
      have HRQ := hid (HR.out.drewN nq)
      go_wp2_with fail
      refine (HN1.out _ HRQ.out).mono ?_
      rintro e w0 ⟨rfl, hr0, hb0⟩
      have HB0 := hid (HQ.out.trans (hb0.mono (Nat.le_of_lt HRQ.out.lt)))
      have HNN := hid (HN2.out w0 hr0)
      have HL0 := hid hr0.lt
      clear hr0 hb0 HRQ HN1 HN2 HQ
      go_wp2_with fail
      refine HNN.out.mono ?_
      rintro e w0b ⟨rfl, hr0, hb0⟩
      have HB0b := hid (HB0.out.trans (hb0.mono (Nat.le_of_lt HL0.out)))
      have HY := hid (HY1.out w0b hr0)
      clear hr0 hb0 HNN HL0 HB0 HY1
      go_wp2_with fail
      refine HY.out.mono ?_
      rintro e w1 ⟨rfl, hr1, hb1⟩
      have HC := hid (HI.out w1 hr1)
      have HB1 := hid (HB0b.out.trans hb1)
      clear hr1 hb1 HY HI HB0b
      go_wp2_with fail
      refine HC.out.mono ?_
      rintro e w2 ⟨x, ok, p1, ns1, rfl, hr2, hp1, hp2, hn2, hW, hb2⟩
      have HB2 := hid (HB1.out.trans hb2)
      have HW1 := hid hW
      have HR2 := hid hr2
      clear hW hr2 hb2 HC HB1
      cases ok
      · go_wp2
        go_ret2
        exact ⟨0, false, p1, ns1, rfl, HR2.out, by omega, hp2, by simp only [slack, Bool.false_eq_true, if_false] at hn2 ⊢; omega, pair_W1 HD.out HW1.out, HB2.out⟩
      simp only [slack, if_true] at hn2
      have HS := hid (specSign R p1 text ns1 w2 HR2.out hl hp2)
      go_wp2_with fail
      refine HS.out.mono ?_
      rintro e w3 hsg
      clear HS HR2
      rcases hsg with ⟨k, hs, hlt1, rfl, hr3, hb3⟩ | ⟨hs, rfl, hr3, hb3⟩
      · have hk := sign_in hs
        have hk0 : (k == 0) = false := by simp; omega
        have HSG := hid hs
        have HB3 := hid (HB2.out.trans hb3)
        have HC2 := hid (IH.out (p1 + 1) ns1 w3 (by omega) (by omega) (by omega) hr3)
        clear hs hr3 hb3 HB2 hk IH
        go_wp2_with fail
        refine HC2.out.mono ?_
        rintro e w4 ⟨y, ok2, p2, ns2, rfl, hr4, hp3, hp4, hn4, hW2, hb4⟩
        have HB4 := hid (HB3.out.trans hb4)
        have HW2 := hid hW2
        have HR4 := hid hr4
        clear hW2 hr4 hb4 HC2 HB3
        cases ok2
        · simp only [slack, Bool.false_eq_true, if_false] at hn4
          go_wp2
          go_ret2
          exact ⟨0, false, p2, ns2, rfl, HR4.out, by omega, hp4, by simp only [slack, Bool.false_eq_true, if_false]; omega, pair_W4 HD.out HW1.out HSG.out hlt1 HW2.out, HB4.out⟩
        simp only [slack, if_true] at hn4
        by_cases d4 : ∃ hp : p2 < text.length, text[p2] = 41
        · obtain ⟨hp5, d4⟩ := d4
          have HT := hid (specTakeYes R p2 41 text ns2 w4 HR4.out hl hp5 d4)
          have HD4 := hid d4
          clear d4
          go_wp2_with fail
          refine HT.out.mono ?_
          rintro e w5 ⟨rfl, hr5, hb5⟩
          have HB5 := hid (HB4.out.trans hb5)
          have HP := hid (specPut R (p2 + 1) text ns2 ⟨k, 0, x, y⟩ w5 hr5 (by omega))
          clear hr5 hb5 HT HB4 HR4
          go_wp2_with fail
          refine HP.out.mono ?_
          rintro e w6 ⟨rfl, hr6, hb6⟩
          have HR6 := hid hr6
          have HB6 := hid (HB5.out.trans hb6)
          clear hr6 hb6 HP HB5
          go_wp2
          go_ret2
          exact ⟨_, true, p2 + 1, _, rfl, HR6.out, by omega, by omega, by rw [List.length_append, List.length_singleton]; omega, pair_W7 HD.out HW1.out HSG.out hlt1 HW2.out hp5 HD4.out, HB6.out⟩
        · have HT := hid (specTakeNo R p2 41 text ns2 w4 HR4.out hl hp4 (fun hp e => d4 ⟨hp, e⟩))
          have HD4 : Hid (∀ hp : p2 < text.length, text[p2] ≠ 41) := hid (fun hp e => d4 ⟨hp, e⟩)
          have HL4 := hid HR4.out.lt
          clear d4
          go_wp2_with fail
          refine HT.out.mono ?_
          rintro e w5 ⟨rfl, hr5, hb5⟩
          have HR5 := hid hr5
          have HB5 := hid (HB4.out.trans (hb5.mono (Nat.le_of_lt HL4.out)))
          clear hr5 hb5 HT HB4 HR4
          go_wp2
          go_ret2
          exact ⟨0, false, p2, ns2, rfl, HR5.out, by omega, hp4, by omega, pair_W5 HD.out HW1.out HSG.out hlt1 HW2.out HD4.out, HB5.out⟩
      · have HSG := hid hs
        have HB3 := hid (HB2.out.trans hb3)
        have HC2 := hid (IH.out p1 ns1 w3 (by omega) (by omega) (by omega) hr3)
        clear hs hr3 hb3 HB2 IH
        go_wp2_with fail
        refine HC2.out.mono ?_
        rintro e w4 ⟨y, ok2, p2, ns2, rfl, hr4, hp3, hp4, hn4, hW2, hb4⟩
        have HB4 := hid (HB3.out.trans hb4)
        have HR4 := hid hr4
        have hsl : slack ok2 ≤ 1 := by cases ok2 <;> decide
        clear hW2 hr4 hb4 HC2 HB3
        go_wp2
        go_ret2
        exact ⟨0, false, p2, ns2, rfl, HR4.out, by omega, hp4, by simp only [slack, Bool.false_eq_true, if_false]; omega, pair_W2 HD.out HW1.out HSG.out, HB4.out⟩
    have HG : Hid (gp (f + 1) (text.drop pos) = (num 4 (text.drop pos)).map fun p => (.const p.1, p.2)) := hid (by rw [hdc]; exact gp_const_eq d3 d2 d1)
    have HN1 := hid (fun (w : World) (h : Sr w R text pos ns) => HNv.out 118 w h d1)
    have HN2 := hid (fun (w : World) (h : Sr w R text pos ns) => HNv.out 33 w h d2)
    have HN3 := hid (fun (w : World) (h : Sr w R text pos ns) => HNv.out 40 w h d3)
    have HN := hid (fun (w : World) (h : Sr w R text pos ns) => specNum R pos 4 text ns w h hl (by omega) (by omega) (by omega))
    clear hdc d1 d2 d3 HNv HYv IH
    go_enter Tryd.func33, Tryd.ntmps33
    go_wp2
    go_quiet (fail)
    have HQ := hid (Ints.below_drewN (Below.refl R w) nq)
    have HRQ := hid (HR.out.drewN nq)
    go_wp2_with fail
    refine (HN1.out _ HRQ.out).mono ?_
    rintro e w0 ⟨rfl, hr0, hb0⟩
    have HB0 := hid (HQ.out.trans (hb0.mono (Nat.le_of_lt HRQ.out.lt)))
    have HNN := hid (HN2.out w0 hr0)
    have HL0 := hid hr0.lt
    clear hr0 hb0 HRQ HN1 HN2 HQ
    go_wp2_with fail
    refine HNN.out.mono ?_
    rintro e w0b ⟨rfl, hr0, hb0⟩
    have HB0b := hid (HB0.out.trans (hb0.mono (Nat.le_of_lt HL0.out)))
    have HNN2 := hid (HN3.out w0b hr0)
    have HL0b := hid hr0.lt
    clear hr0 hb0 HNN HL0 HB0 HN3
    go_wp2_with fail
    refine HNN2.out.mono ?_
    rintro e w1 ⟨rfl, hr1, hb1⟩
    have HC := hid (HN.out w1 hr1)
    have HB1 := hid (HB0b.out.trans (hb1.mono (Nat.le_of_lt HL0b.out)))
    clear hr1 hb1 HNN2 HL0b HB0b HN
    go_wp2_with fail
    refine HC.out.mono ?_
    rintro e w2 ⟨k, hna, rfl, hr2, hb2⟩
    have hk := hna.2.1
    have HW := hid (leaf_W (mk := fun n => Tm.const (n : Int)) (ns := ns) (kd := 1) (fun n => const_mk) HG.out hna (by omega))
    have HP := hid (specPut R (pos + k) text ns ⟨1, (pieceV text pos (pos + k) : Int), 0, 0⟩ w2 hr2 (by omega))
    have HB2 := hid (HB1.out.trans hb2)
    clear hna hr2 hb2 HC HB1 HG
    generalize pieceV text pos (pos + k) = pv at *
    generalize numOk text pos k = ok at *
    go_wp2_with fail
    refine HP.out.mono ?_
    rintro e w3 ⟨rfl, hr3, hb3⟩
    have HR3 := hid hr3
    have HB3 := hid (HB2.out.trans hb3)
    clear hr3 hb3 HP HB2
    go_wp2
    go_ret2
    refine ⟨_, ok, pos + k, _, rfl, HR3.out, by omega, by omega, ?_, HW.out.1, HB3.out⟩
    rw [List.length_append, List.length_singleton]
    have := HW.out.2
    cases ok
    · simp only [slack, Bool.false_eq_true, if_false]; omega
    · have := this rfl; omega
end Ex
end Go.Proofs.YtdidbnhfknpheaaDoor
