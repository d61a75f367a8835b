/- The law's marks in elements, and whether they hold. -/
import Derived.Test.YtgghigfflpbjiaaGreatDoorTfI
import Derived.Test.YtgghigfflpbjiaaGreatDoorPqA
namespace Go.Proofs.YtgghigfflpbjiaaGreatDoor
open Go.RowKit
set_option linter.unusedVariables false
namespace Tf
open Ex (hid)
open Tr (AttrD ElemD AttrsAt ElemsAt)
open Nst (own)
open St (Amid)
open Mk (mt markText')
open Pf (kept_cell)
def kAt (es : List ElemD) : Nat → Nat
  | 0 => 1
  | i + 1 => kAt es i + 2 + 2 * (EJ es i).attrs.length
theorem kAt_pos (es : List ElemD) : ∀ i, 0 < kAt es i
  | 0 => by simp [kAt]
  | i + 1 => by rw [kAt]; omega
theorem kAt_le {es : List ElemD} {n : Nat} (hm : ∀ j, j < n → (EJ es j).attrs.length ≤ 64) : ∀ i, i ≤ n → kAt es i ≤ 1 + 130 * i
  | 0, _ => by simp [kAt]
  | i + 1, h => by
    have := kAt_le hm i (by omega)
    have := hm i (by omega)
    rw [kAt]; omega
def mel (es : List ElemD) (i : Nat) : ElemD := ⟨mt (kAt es i), ((kAt es i + 1 : Nat) : Int), mkA (kAt es i + 2) (EJ es i).attrs.length⟩
def mkE (es : List ElemD) : List ElemD := (List.range es.length).map (mel es)
theorem mkE_len (es : List ElemD) : (mkE es).length = es.length := by simp [mkE]
theorem mkE_get (es : List ElemD) (i : Nat) (h : i < (mkE es).length) : (mkE es)[i] = mel es i := by simp [mkE]
theorem mkE_J {es : List ElemD} {i : Nat} (h : i < es.length) : EJ (mkE es) i = mel es i := by
  rw [EJ_eq (by rw [mkE_len]; exact h), mkE_get]
theorem amid_grown {w w' : World} {row : Option Nat} {B C : Nat} (h : w.grownBy w' row) (hr : ∀ b, row = some b → B ≤ b ∧ b < C) : Amid w w' B C :=
  ⟨h.os, h.tape, h.output, h.size, fun b hb ho => h.block b hb (fun e => by have := hr b e.symm; omega)⟩
abbrev ec (es : List ElemD) (F : Nat → Value) (j : Nat) : Nat → List Value := fun x => if x < j then ecell (mel es x) (F x) else ecell (EJ es x) (F x)
abbrev sc (es : List ElemD) (F : Nat → Value) (j : Nat) : Nat → Nst.Sub := fun x => if x < j then asub (F x) (mel es x).attrs else asub (F x) (EJ es x).attrs
abbrev EAj (w : World) (B : Nat) (v : Value) (es : List ElemD) (F : Nat → Value) (j : Nat) : Prop := Nst.At w B 53 3 v es.length (ec es F j) es.length (sc es F j)
theorem sub_mk (va : Value) (k : Nat) (l : List AttrD) : ({ asub va l with xs := avals (mkA k l.length) } : Nst.Sub) = asub va (mkA k l.length) := by
  unfold asub
  rw [mkA_len]
set_option maxRecDepth 100000 in
set_option maxHeartbeats 8000000 in
theorem markElems1 (B C g cap : Nat) (es : List ElemD) (F : Nat → Value) (w : World) (hn : es.length ≤ 64) (hm : ∀ j, j < es.length → (EJ es j).attrs.length ≤ 64) (h : EAt w B (.slice (some ⟨g, 0, none⟩) es.length cap) es F) (hgC : g < C) (hFC : ∀ j, j < es.length → ∀ b, own (F j) b → b < C) :
    Calls Tryz.prog 29 #[.slice (some ⟨g, 0, none⟩) es.length cap, .int .i64 1] w fun e w' => e = .returned (.int .i64 (kAt es es.length : Int)) ∧ EOwn w' B (.slice (some ⟨g, 0, none⟩) es.length cap) (mkE es) ∧ Amid w w' B C := by
  have hgB := (Nst.own_lt h.row (b := g) rfl).1
  have H0 : Hid (EAj w B (.slice (some ⟨g, 0, none⟩) es.length cap) es F 0) := hid (h.congr (fun j hj => by simp [ec]) (fun i hi => by simp [sc]))
  have HM := hid hm
  have HK := hid (fun i (hi : i ≤ es.length) => kAt_le hm i hi)
  have HP := hid (kAt_pos es)
  have HFC := hid hFC
  clear h hm hFC
  go_enter Tryz.func29, Tryz.ntmps29
  go_wp2
  go_loopw [1, 5] (fun q i wr => ∃ (j : Nat), i = .int .i64 j ∧ q = .int .i64 (kAt es j : Int) ∧ j ≤ es.length ∧ Hid (EAj wr B (.slice (some ⟨g, 0, none⟩) es.length cap) es F j) ∧ Hid (Amid w wr B C)) (fun _ i _ => es.length - (intOf i).toNat)
  case atStart => exact ⟨0, rfl, by simp [kAt], Nat.zero_le _, H0, hid (Amid.refl _ _ _)⟩
  case round =>
    obtain ⟨j, rfl, rfl, hj, HW, HA⟩ := hrel
    by_cases hlt : j < es.length
    · have q1 : (j : Int) < (es.length : Int) := by omega
      have hmj := HM.out j hlt
      have hkj := HK.out j (by omega)
      have hpj := HP.out j
      have HKS : Hid (kAt es (j + 1) = kAt es j + 2 + 2 * (EJ es j).attrs.length) := hid rfl
      have HME : Hid (mel es j = ⟨mt (kAt es j), ((kAt es j + 1 : Nat) : Int), mkA (kAt es j + 2) (EJ es j).attrs.length⟩) := hid rfl
      have hml : ∀ x, x < es.length → (ec es F j x).length = 3 := fun x hx => by unfold ec; split <;> rfl
      have HML := hid hml
      generalize hkk : kAt es j = k at *
      have HKK := hid hkk
      clear hml hkk
      go_wp2_with fail
      refine (markText' _ _ (by omega) (by omega)).mono ?_
      rintro e w1 ⟨rfl, hb1⟩
      rw [Int.toNat_natCast]
      have hr1 := HW.out.below hb1
      have hej : ec es F j j = ecell (EJ es j) (F j) := by simp [ec]
      have c0 := hr1.cell HML.out hlt (i := 0) (by omega)
      have c1 := hr1.cell HML.out hlt (i := 1) (by omega)
      have c2 := hr1.cell HML.out hlt (i := 2) (by omega)
      rw [hej] at c0 c1 c2
      replace c0 : w1.cell? ⟨g, j * 3, none⟩ = some (.string (EJ es j).tag) := c0
      replace c1 : w1.cell? ⟨g, j * 3 + 1, none⟩ = some (.int .i64 (EJ es j).parent) := c1
      replace c2 : w1.cell? ⟨g, j * 3 + 2, none⟩ = some (F j) := c2
      have z0 := hr1.free (j * 3)
      have z1 := hr1.free (j * 3 + 1)
      have hgl := (Nst.own_lt hr1.row (b := g) rfl).2
      have h2 := hr1.setRow HML.out hlt (i := 0) (by omega) (.string (mt k))
      have hml2 : ∀ x, x < es.length → ((fun x => if x = j then (ec es F j j).set 0 (.string (mt k)) else ec es F j x) x).length = 3 := fun x hx => by
        by_cases e : x = j
        · simp only [e, if_true, List.length_set]; exact HML.out j hlt
        · simp only [e, if_false]; exact HML.out x hx
      have h3 := h2.setRow hml2 hlt (i := 1) (by omega) (.int .i64 ((k : Int) + 1))
      have hsj : sc es F j j = asub (F j) (EJ es j).attrs := by simp [sc]
      have HSJ := hid hsj
      obtain ⟨af, cf, hFj⟩ : ∃ a c, F j = .slice a (EJ es j).attrs.length c := by
        have := hr1.sub j hlt
        rw [hsj] at this
        exact Nst.own_slice this
      rw [hFj] at c2
      have HFJ := hid hFj
      have HA3 : Hid (Amid w ((w1.setCell ⟨g, j * 3, none⟩ (.string (mt k))).setCell ⟨g, j * 3 + 1, none⟩ (.int .i64 ((k : Int) + 1))) B C) := hid (((HA.out.trans (Amid.of_below hb1)).trans (Amid.set w1 (j * 3) (.string (mt k)) hgB hgC)).trans (Amid.set _ (j * 3 + 1) (.int .i64 ((k : Int) + 1)) hgB hgC))
      have H3 : Hid (Nst.At ((w1.setCell ⟨g, j * 3, none⟩ (.string (mt k))).setCell ⟨g, j * 3 + 1, none⟩ (.int .i64 ((k : Int) + 1))) B 53 3 (.slice (some ⟨g, 0, none⟩) es.length cap) es.length (fun x => if x < j + 1 then ecell (mel es x) (F x) else ecell (EJ es x) (F x)) es.length (sc es F j)) := hid (h3.congr (fun x hx => by
        by_cases e : x = j
        · subst e
          rw [hej]
          simp [ecell, HME.out]
        · have e2 : (x < j + 1) = (x < j) := by simp only [eq_iff_iff]; omega
          simp only [ec, e, if_false, e2]) (fun i hi => rfl))
      clear hr1 h2 h3 hml2 hej hsj hFj
      go_wp2_with fail
      generalize (w1.setCell ⟨g, j * 3, none⟩ (.string (mt k))).setCell ⟨g, j * 3 + 1, none⟩ (.int .i64 ((k : Int) + 1)) = w3 at *
      have hsub : w3.ownsRow B 68 2 (.slice af (EJ es j).attrs.length cf) (EJ es j).attrs.length (avals (EJ es j).attrs) := by
        have := H3.out.sub j hlt
        rw [HSJ.out, HFJ.out] at this
        exact this
      have HCA := hid (markAttrsO B (k + 2) (EJ es j).attrs _ w3 (by omega) (by omega) (by omega) hsub)
      rw [show ((k + 2 : Nat) : Int) = (k : Int) + 1 + 1 by omega] at HCA
      clear hsub
      refine HCA.out.mono ?_
      rintro e w4 ⟨rfl, hx4, hg4⟩
      have hq4 := H3.out.setSub (q := j) hlt (xs := avals (mkA (k + 2) (EJ es j).attrs.length)) (by rw [HSJ.out, HFJ.out]; exact hx4) (by rw [HSJ.out, HFJ.out]; exact hg4)
      have H4 : Hid (EAj w4 B (.slice (some ⟨g, 0, none⟩) es.length cap) es F (j + 1)) := hid (hq4.congr (fun x hx => rfl) (fun x hx => by
        by_cases e : x = j
        · subst e
          simp only [sc, if_true, Nat.lt_succ_self, HME.out, Nat.lt_irrefl, if_false]
          exact (sub_mk _ _ _).symm
        · have e2 : (x < j + 1) = (x < j) := by simp only [eq_iff_iff]; omega
          simp only [sc, e, if_false, e2]))
      have HA4 : Hid (Amid w w4 B C) := hid (HA3.out.trans (amid_grown hg4 (fun b hb => by
        rw [← HFJ.out] at hb
        refine ⟨?_, HFC.out j hlt b hb⟩
        have := H3.out.sub j hlt
        rw [HSJ.out] at this
        exact (Nst.own_lt this hb).1)))
      clear hx4 hg4 hq4 HCA
      go_wp2
      exact ⟨⟨j + 1, by simp, by rw [HKS.out]; simp, by omega, H4, HA4⟩, by simp [intOf]; omega⟩
    · obtain rfl : j = es.length := by omega
      have HE : Hid (EOwn wr B (.slice (some ⟨g, 0, none⟩) es.length cap) (mkE es)) := hid ⟨F, by
        unfold EAt
        rw [mkE_len]
        exact HW.out.congr (fun x hx => by simp only [ec, hx, if_true, mkE_J hx]) (fun x hx => by simp only [sc, hx, if_true, mkE_J hx])⟩
      go_wp2
      go_ret
      exact ⟨rfl, HE.out, HA.out⟩
end Tf
end Go.Proofs.YtgghigfflpbjiaaGreatDoor
