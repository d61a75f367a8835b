/- Laid together: TfI, TfJ, TrD. -/
import Derived.Test.YtgghigfflpbjiaaGreatDoorJTreeOf15
import Derived.Test.YtgghigfflpbjiaaGreatDoorJTreeOf21
import Derived.Test.YtgghigfflpbjiaaGreatDoorJTreeOf12
import Derived.Test.YtgghigfflpbjiaaGreatDoorJTreeOf17
import Derived.Test.YtgghigfflpbjiaaGreatDoorJTreeOf14
import Derived.Deep.QuietTactic
import Derived.BigQuiet
import Derived.Deep.RegionWith
/- The law's marks in elements that a function has made itself, and whether they hold. -/
namespace Go.Proofs.YtgghigfflpbjiaaGreatDoor
open Go.RowKit
set_option linter.unusedVariables false
namespace Tf
open Ex (hid)
open Tr (AttrD ElemD AttrsAt ElemsAt)
open Nst (own)
open St (Amid)
open Mk (mt markText')
def AJ (l : List AttrD) (i : Nat) : AttrD := l[i]?.getD ⟨ByteArray.empty, ByteArray.empty⟩
theorem AJ_eq {l : List AttrD} {i : Nat} (h : i < l.length) : AJ l i = l[i] := by unfold AJ; rw [List.getElem?_eq_getElem h, Option.getD_some]
theorem avals_flat : ∀ (l : List AttrD), Nst.flat (fun i => aval (AJ l i)) l.length = avals l := by
  intro l
  have h : ∀ n, n ≤ l.length → Nst.flat (fun i => aval (AJ l i)) n = avals (l.take n) := by
    intro n
    induction n with
    | zero => intro _; rfl
    | succ n ih =>
      intro hn
      rw [Nst.flat_succ, ih (by omega), AJ_eq (by omega), ← List.take_append_getElem (by omega), avals_snoc]
  rw [h l.length (Nat.le_refl _), List.take_length]
/-- The marks of attrs: from k on. -/
def mkA (k m : Nat) : List AttrD := (List.range m).map fun i => ⟨mt (k + 2 * i), mt (k + 2 * i + 1)⟩
theorem mkA_len (k m : Nat) : (mkA k m).length = m := by simp [mkA]
theorem mkA_get (k m i : Nat) (h : i < (mkA k m).length) : (mkA k m)[i] = ⟨mt (k + 2 * i), mt (k + 2 * i + 1)⟩ := by simp [mkA]
theorem mkA_J {k m i : Nat} (h : i < m) : AJ (mkA k m) i = ⟨mt (k + 2 * i), mt (k + 2 * i + 1)⟩ := by
  rw [AJ_eq (by rw [mkA_len]; exact h), mkA_get]
theorem grown_trans {w w1 w2 : World} {row : Option Nat} (h : w.grownBy w1 row) (h2 : w1.grownBy w2 row) : w.grownBy w2 row :=
  ⟨h2.os.trans h.os, h2.tape.trans h.tape, h2.output.trans h.output, Nat.le_trans h.size h2.size, fun k hk hr => (h2.block k (Nat.lt_of_lt_of_le hk h.size) hr).trans (h.block k hk hr)⟩
theorem grown_below {w w1 : World} {row : Option Nat} (h : Below w.heap.size w w1) : w.grownBy w1 row := ⟨h.os, h.tape, h.output, h.size, fun k hk _ => h.block k hk⟩
theorem grown_set (w : World) (g i : Nat) (u : Value) : w.grownBy (w.setCell ⟨g, i, none⟩ u) (some g) :=
  ⟨rfl, rfl, rfl, by simp [World.setCell], fun k hk hr => Below.heap_setCell _ _ _ _ (fun e => hr (by rw [e]))⟩
abbrev Z0 : Nat → Nst.Sub := fun _ => ⟨0, 0, .slice none 0 0, 0, []⟩
abbrev mcell (k : Nat) (c : Nat → List Value) (j : Nat) : Nat → List Value := fun x => if x < j then [.string (mt (k + 2 * x)), .string (mt (k + 2 * x + 1))] else c x
set_option maxRecDepth 100000 in
set_option maxHeartbeats 4000000 in
theorem markAttrs (B g cap n k : Nat) (c : Nat → List Value) (w : World) (hn : n ≤ 1048576) (h0 : 0 < k) (hk : k ≤ 17592186044416) (hc : ∀ j, j < n → (c j).length = 2) (h : Nst.At w B 68 2 (.slice (some ⟨g, 0, none⟩) n cap) n c 0 Z0) :
    Calls Tryz.prog 53 #[.slice (some ⟨g, 0, none⟩) n cap, .int .i64 (k : Int)] w fun e w' => e = .returned (.int .i64 ((k + 2 * n : Nat) : Int)) ∧ Nst.At w' B 68 2 (.slice (some ⟨g, 0, none⟩) n cap) n (mcell k c n) 0 Z0 ∧ w.grownBy w' (some g) := by
  have H0 : Hid (Nst.At w B 68 2 (.slice (some ⟨g, 0, none⟩) n cap) n (mcell k c 0) 0 Z0) := hid (h.congr (fun j hj => by simp [mcell]) (fun i hi => rfl))
  have HC := hid hc
  clear h hc
  go_enter Tryz.func53, Tryz.ntmps53
  go_wp2
  go_loopw [1, 5] (fun q i wr => ∃ (j : Nat), i = .int .i64 j ∧ q = .int .i64 ((k + 2 * j : Nat) : Int) ∧ j ≤ n ∧ Hid (Nst.At wr B 68 2 (.slice (some ⟨g, 0, none⟩) n cap) n (mcell k c j) 0 Z0) ∧ Hid (w.grownBy wr (some g))) (fun _ i _ => n - (intOf i).toNat)
  case atStart => exact ⟨0, rfl, by simp, Nat.zero_le _, H0, hid (grown_below (Below.refl _ _))⟩
  case round =>
    obtain ⟨j, rfl, rfl, hj, HW, HG⟩ := hrel
    by_cases hlt : j < n
    · have q1 : (j : Int) < (n : Int) := by omega
      have hml : ∀ x, x < n → (mcell k c j x).length = 2 := fun x hx => by unfold mcell; split; rfl; exact HC.out x hx
      have HML := hid hml
      have e1 : ((k : Int) + 2 * (j : Int)).toNat = k + 2 * j := by omega
      have e2 : ((k : Int) + 2 * (j : Int) + 1).toNat = k + 2 * j + 1 := by omega
      have E1 := hid e1
      have E2 := hid e2
      clear hml e1 e2
      go_wp2_with fail
      refine (markText' _ _ (by omega) (by omega)).mono ?_
      rintro e w1 ⟨rfl, hb1⟩
      rw [E1.out]
      have hr1 := HW.out.below hb1
      have c0 : ∃ u, w1.cell? ⟨g, j * 2, none⟩ = some u := by
        have h1 := hr1.cell HML.out hlt (i := 0) (by omega)
        rw [List.getElem?_eq_getElem (by rw [HML.out j hlt]; omega)] at h1
        exact ⟨_, h1⟩
      obtain ⟨u0, c0⟩ := c0
      have z0 := hr1.free (j * 2)
      have HR2 := hid (hr1.setRow HML.out hlt (i := 0) (by omega) (.string (mt (k + 2 * j))))
      have HG2 := hid (grown_trans HG.out (grown_trans (grown_below hb1) (grown_set w1 g (j * 2) (.string (mt (k + 2 * j))))))
      have hgl := (Nst.own_lt hr1.row (b := g) rfl).2
      clear hr1
      go_wp2_with fail
      generalize w1.setCell ⟨g, j * 2, none⟩ (.string (mt (k + 2 * j))) = w1s at *
      refine (markText' _ _ (by omega) (by omega)).mono ?_
      rintro e w2 ⟨rfl, hb2⟩
      rw [E2.out]
      have HR2' : Hid (Nst.At w1s B 68 2 (.slice (some ⟨g, 0, none⟩) n cap) n (fun x => if x = j then (mcell k c j j).set 0 (.string (mt (k + 2 * j))) else mcell k c j x) 0 Z0) := HR2
      have hml2 : ∀ x, x < n → ((fun x => if x = j then (mcell k c j j).set 0 (.string (mt (k + 2 * j))) else mcell k c j x) x).length = 2 := fun x hx => by
        by_cases e : x = j
        · simp only [e, if_true, List.length_set]; exact HML.out j hlt
        · simp only [e, if_false]; exact HML.out x hx
      have hr2 := HR2'.out.below hb2
      have c1 : ∃ u, w2.cell? ⟨g, j * 2 + 1, none⟩ = some u := by
        have h1 := hr2.cell hml2 hlt (i := 1) (by omega)
        rw [List.getElem?_eq_getElem (by rw [hml2 j hlt]; omega)] at h1
        exact ⟨_, h1⟩
      obtain ⟨u1, c1⟩ := c1
      have z1 := hr2.free (j * 2 + 1)
      have hr3 := hr2.setRow hml2 hlt (i := 1) (by omega) (.string (mt (k + 2 * j + 1)))
      have HR3 : Hid (Nst.At (w2.setCell ⟨g, j * 2 + 1, none⟩ (.string (mt (k + 2 * j + 1)))) B 68 2 (.slice (some ⟨g, 0, none⟩) n cap) n (mcell k c (j + 1)) 0 Z0) := hid (hr3.congr (fun x hx => by
        by_cases e : x = j
        · subst e
          have hl2 := HC.out x hlt
          have hx2 : ∃ p q, c x = [p, q] := by
            match c x, hl2 with
            | [p, q], _ => exact ⟨p, q, rfl⟩
          obtain ⟨p, q, hpq⟩ := hx2
          simp [mcell, hpq]
        · have e2 : (x < j + 1) = (x < j) := by simp only [eq_iff_iff]; omega
          simp only [mcell, e, if_false, e2]) (fun i hi => rfl))
      have HG3 := hid (grown_trans HG2.out (grown_trans (grown_below hb2) (grown_set w2 g (j * 2 + 1) (.string (mt (k + 2 * j + 1))))))
      have hgl2 := (Nst.own_lt hr2.row (b := g) rfl).2
      clear hr2 hr3 hml2 HR2'
      go_wp2
      exact ⟨⟨j + 1, by simp, by simp; omega, by omega, HR3, HG3⟩, by simp [intOf]; omega⟩
    · obtain rfl : j = n := by omega
      go_wp2
      go_ret
      exact ⟨rfl, HW.out, HG.out⟩
theorem mcell_flat (k : Nat) (c : Nat → List Value) (n : Nat) : Nst.flat (mcell k c n) n = avals (mkA k n) := by
  have h := avals_flat (mkA k n)
  rw [mkA_len] at h
  rw [← h]
  refine Nst.flat_congr (fun j hj => ?_)
  rw [mkA_J hj]
  simp [mcell, hj, aval]
/-- The marks of one row of attrs, whatever row it is. -/
theorem markAttrsO (B k : Nat) (l : List AttrD) (v : Value) (w : World) (hn : l.length ≤ 1048576) (h0 : 0 < k) (hk : k ≤ 17592186044416) (h : w.ownsRow B 68 2 v l.length (avals l)) :
    Calls Tryz.prog 53 #[v, .int .i64 (k : Int)] w fun e w' => e = .returned (.int .i64 ((k + 2 * l.length : Nat) : Int)) ∧ w'.ownsRow B 68 2 v l.length (avals (mkA k l.length)) ∧ w.grownBy w' v.ownBlock := by
  rcases Nat.eq_zero_or_pos l.length with e | e
  · have e2 : l = [] := List.eq_nil_of_length_eq_zero e
    subst e2
    obtain ⟨a, cap, rfl⟩ := Nst.own_slice h
    have H := hid h
    clear h
    go_enter Tryz.func53, Tryz.ntmps53
    go_wp2
    refine wp_loop_rounds 2 ?_
    rw [rounds_succ]
    go_wp2
    go_ret
    exact ⟨by simp, H.out, grown_below (Below.refl _ _)⟩
  · obtain ⟨g, cap, rfl, hB, hg, hc, hm⟩ := Nst.own_some h e
    have hA : Nst.At w B 68 2 (.slice (some ⟨g, 0, none⟩) l.length cap) l.length (fun i => aval (AJ l i)) 0 Z0 := ⟨by rw [avals_flat]; exact h, fun i hi => by omega, fun i j hi => by omega, fun i hi => by omega⟩
    refine (markAttrs B g cap l.length k _ w hn h0 hk (fun _ _ => rfl) hA).mono ?_
    rintro e w' ⟨h1, h2, h3⟩
    refine ⟨h1, ?_, h3⟩
    have := h2.row
    rw [mcell_flat] at this
    exact this
end Tf
end Go.Proofs.YtgghigfflpbjiaaGreatDoor
/- The law's marks in elements, and whether they hold. -/
namespace Go.Proofs.YtgghigfflpbjiaaGreatDoor
open Go.RowKit
set_option linter.unusedVariables false
namespace Tf
open Ex (hid)
open Tr (AttrD ElemD AttrsAt ElemsAt)
open Nst (own)
open St (Amid)
open Mk (mt markText')
open Pf (kept_cell)
def kAt (es : List ElemD) : Nat → Nat
  | 0 => 1
  | i + 1 => kAt es i + 2 + 2 * (EJ es i).attrs.length
theorem kAt_pos (es : List ElemD) : ∀ i, 0 < kAt es i
  | 0 => by simp [kAt]
  | i + 1 => by rw [kAt]; omega
theorem kAt_le {es : List ElemD} {n : Nat} (hm : ∀ j, j < n → (EJ es j).attrs.length ≤ 64) : ∀ i, i ≤ n → kAt es i ≤ 1 + 130 * i
  | 0, _ => by simp [kAt]
  | i + 1, h => by
    have := kAt_le hm i (by omega)
    have := hm i (by omega)
    rw [kAt]; omega
def mel (es : List ElemD) (i : Nat) : ElemD := ⟨mt (kAt es i), ((kAt es i + 1 : Nat) : Int), mkA (kAt es i + 2) (EJ es i).attrs.length⟩
def mkE (es : List ElemD) : List ElemD := (List.range es.length).map (mel es)
theorem mkE_len (es : List ElemD) : (mkE es).length = es.length := by simp [mkE]
theorem mkE_get (es : List ElemD) (i : Nat) (h : i < (mkE es).length) : (mkE es)[i] = mel es i := by simp [mkE]
theorem mkE_J {es : List ElemD} {i : Nat} (h : i < es.length) : EJ (mkE es) i = mel es i := by
  rw [EJ_eq (by rw [mkE_len]; exact h), mkE_get]
theorem amid_grown {w w' : World} {row : Option Nat} {B C : Nat} (h : w.grownBy w' row) (hr : ∀ b, row = some b → B ≤ b ∧ b < C) : Amid w w' B C :=
  ⟨h.os, h.tape, h.output, h.size, fun b hb ho => h.block b hb (fun e => by have := hr b e.symm; omega)⟩
abbrev ec (es : List ElemD) (F : Nat → Value) (j : Nat) : Nat → List Value := fun x => if x < j then ecell (mel es x) (F x) else ecell (EJ es x) (F x)
abbrev sc (es : List ElemD) (F : Nat → Value) (j : Nat) : Nat → Nst.Sub := fun x => if x < j then asub (F x) (mel es x).attrs else asub (F x) (EJ es x).attrs
abbrev EAj (w : World) (B : Nat) (v : Value) (es : List ElemD) (F : Nat → Value) (j : Nat) : Prop := Nst.At w B 53 3 v es.length (ec es F j) es.length (sc es F j)
theorem sub_mk (va : Value) (k : Nat) (l : List AttrD) : ({ asub va l with xs := avals (mkA k l.length) } : Nst.Sub) = asub va (mkA k l.length) := by
  unfold asub
  rw [mkA_len]
set_option maxRecDepth 100000 in
set_option maxHeartbeats 8000000 in
theorem markElems1 (B C g cap : Nat) (es : List ElemD) (F : Nat → Value) (w : World) (hn : es.length ≤ 64) (hm : ∀ j, j < es.length → (EJ es j).attrs.length ≤ 64) (h : EAt w B (.slice (some ⟨g, 0, none⟩) es.length cap) es F) (hgC : g < C) (hFC : ∀ j, j < es.length → ∀ b, own (F j) b → b < C) :
    Calls Tryz.prog 29 #[.slice (some ⟨g, 0, none⟩) es.length cap, .int .i64 1] w fun e w' => e = .returned (.int .i64 (kAt es es.length : Int)) ∧ EOwn w' B (.slice (some ⟨g, 0, none⟩) es.length cap) (mkE es) ∧ Amid w w' B C := by
  have hgB := (Nst.own_lt h.row (b := g) rfl).1
  have H0 : Hid (EAj w B (.slice (some ⟨g, 0, none⟩) es.length cap) es F 0) := hid (h.congr (fun j hj => by simp [ec]) (fun i hi => by simp [sc]))
  have HM := hid hm
  have HK := hid (fun i (hi : i ≤ es.length) => kAt_le hm i hi)
  have HP := hid (kAt_pos es)
  have HFC := hid hFC
  clear h hm hFC
  go_enter Tryz.func29, Tryz.ntmps29
  go_wp2
  go_loopw [1, 5] (fun q i wr => ∃ (j : Nat), i = .int .i64 j ∧ q = .int .i64 (kAt es j : Int) ∧ j ≤ es.length ∧ Hid (EAj wr B (.slice (some ⟨g, 0, none⟩) es.length cap) es F j) ∧ Hid (Amid w wr B C)) (fun _ i _ => es.length - (intOf i).toNat)
  case atStart => exact ⟨0, rfl, by simp [kAt], Nat.zero_le _, H0, hid (Amid.refl _ _ _)⟩
  case round =>
    obtain ⟨j, rfl, rfl, hj, HW, HA⟩ := hrel
    by_cases hlt : j < es.length
    · have q1 : (j : Int) < (es.length : Int) := by omega
      have hmj := HM.out j hlt
      have hkj := HK.out j (by omega)
      have hpj := HP.out j
      have HKS : Hid (kAt es (j + 1) = kAt es j + 2 + 2 * (EJ es j).attrs.length) := hid rfl
      have HME : Hid (mel es j = ⟨mt (kAt es j), ((kAt es j + 1 : Nat) : Int), mkA (kAt es j + 2) (EJ es j).attrs.length⟩) := hid rfl
      have hml : ∀ x, x < es.length → (ec es F j x).length = 3 := fun x hx => by unfold ec; split <;> rfl
      have HML := hid hml
      generalize hkk : kAt es j = k at *
      have HKK := hid hkk
      clear hml hkk
      go_wp2_with fail
      refine (markText' _ _ (by omega) (by omega)).mono ?_
      rintro e w1 ⟨rfl, hb1⟩
      rw [Int.toNat_natCast]
      have hr1 := HW.out.below hb1
      have hej : ec es F j j = ecell (EJ es j) (F j) := by simp [ec]
      have c0 := hr1.cell HML.out hlt (i := 0) (by omega)
      have c1 := hr1.cell HML.out hlt (i := 1) (by omega)
      have c2 := hr1.cell HML.out hlt (i := 2) (by omega)
      rw [hej] at c0 c1 c2
      replace c0 : w1.cell? ⟨g, j * 3, none⟩ = some (.string (EJ es j).tag) := c0
      replace c1 : w1.cell? ⟨g, j * 3 + 1, none⟩ = some (.int .i64 (EJ es j).parent) := c1
      replace c2 : w1.cell? ⟨g, j * 3 + 2, none⟩ = some (F j) := c2
      have z0 := hr1.free (j * 3)
      have z1 := hr1.free (j * 3 + 1)
      have hgl := (Nst.own_lt hr1.row (b := g) rfl).2
      have h2 := hr1.setRow HML.out hlt (i := 0) (by omega) (.string (mt k))
      have hml2 : ∀ x, x < es.length → ((fun x => if x = j then (ec es F j j).set 0 (.string (mt k)) else ec es F j x) x).length = 3 := fun x hx => by
        by_cases e : x = j
        · simp only [e, if_true, List.length_set]; exact HML.out j hlt
        · simp only [e, if_false]; exact HML.out x hx
      have h3 := h2.setRow hml2 hlt (i := 1) (by omega) (.int .i64 ((k : Int) + 1))
      have hsj : sc es F j j = asub (F j) (EJ es j).attrs := by simp [sc]
      have HSJ := hid hsj
      obtain ⟨af, cf, hFj⟩ : ∃ a c, F j = .slice a (EJ es j).attrs.length c := by
        have := hr1.sub j hlt
        rw [hsj] at this
        exact Nst.own_slice this
      rw [hFj] at c2
      have HFJ := hid hFj
      have HA3 : Hid (Amid w ((w1.setCell ⟨g, j * 3, none⟩ (.string (mt k))).setCell ⟨g, j * 3 + 1, none⟩ (.int .i64 ((k : Int) + 1))) B C) := hid (((HA.out.trans (Amid.of_below hb1)).trans (Amid.set w1 (j * 3) (.string (mt k)) hgB hgC)).trans (Amid.set _ (j * 3 + 1) (.int .i64 ((k : Int) + 1)) hgB hgC))
      have H3 : Hid (Nst.At ((w1.setCell ⟨g, j * 3, none⟩ (.string (mt k))).setCell ⟨g, j * 3 + 1, none⟩ (.int .i64 ((k : Int) + 1))) B 53 3 (.slice (some ⟨g, 0, none⟩) es.length cap) es.length (fun x => if x < j + 1 then ecell (mel es x) (F x) else ecell (EJ es x) (F x)) es.length (sc es F j)) := hid (h3.congr (fun x hx => by
        by_cases e : x = j
        · subst e
          rw [hej]
          simp [ecell, HME.out]
        · have e2 : (x < j + 1) = (x < j) := by simp only [eq_iff_iff]; omega
          simp only [ec, e, if_false, e2]) (fun i hi => rfl))
      clear hr1 h2 h3 hml2 hej hsj hFj
      go_wp2_with fail
      generalize (w1.setCell ⟨g, j * 3, none⟩ (.string (mt k))).setCell ⟨g, j * 3 + 1, none⟩ (.int .i64 ((k : Int) + 1)) = w3 at *
      have hsub : w3.ownsRow B 68 2 (.slice af (EJ es j).attrs.length cf) (EJ es j).attrs.length (avals (EJ es j).attrs) := by
        have := H3.out.sub j hlt
        rw [HSJ.out, HFJ.out] at this
        exact this
      have HCA := hid (markAttrsO B (k + 2) (EJ es j).attrs _ w3 (by omega) (by omega) (by omega) hsub)
      rw [show ((k + 2 : Nat) : Int) = (k : Int) + 1 + 1 by omega] at HCA
      clear hsub
      refine HCA.out.mono ?_
      rintro e w4 ⟨rfl, hx4, hg4⟩
      have hq4 := H3.out.setSub (q := j) hlt (xs := avals (mkA (k + 2) (EJ es j).attrs.length)) (by rw [HSJ.out, HFJ.out]; exact hx4) (by rw [HSJ.out, HFJ.out]; exact hg4)
      have H4 : Hid (EAj w4 B (.slice (some ⟨g, 0, none⟩) es.length cap) es F (j + 1)) := hid (hq4.congr (fun x hx => rfl) (fun x hx => by
        by_cases e : x = j
        · subst e
          simp only [sc, if_true, Nat.lt_succ_self, HME.out, Nat.lt_irrefl, if_false]
          exact (sub_mk _ _ _).symm
        · have e2 : (x < j + 1) = (x < j) := by simp only [eq_iff_iff]; omega
          simp only [sc, e, if_false, e2]))
      have HA4 : Hid (Amid w w4 B C) := hid (HA3.out.trans (amid_grown hg4 (fun b hb => by
        rw [← HFJ.out] at hb
        refine ⟨?_, HFC.out j hlt b hb⟩
        have := H3.out.sub j hlt
        rw [HSJ.out] at this
        exact (Nst.own_lt this hb).1)))
      clear hx4 hg4 hq4 HCA
      go_wp2
      exact ⟨⟨j + 1, by simp, by rw [HKS.out]; simp, by omega, H4, HA4⟩, by simp [intOf]; omega⟩
    · obtain rfl : j = es.length := by omega
      have HE : Hid (EOwn wr B (.slice (some ⟨g, 0, none⟩) es.length cap) (mkE es)) := hid ⟨F, by
        unfold EAt
        rw [mkE_len]
        exact HW.out.congr (fun x hx => by simp only [ec, hx, if_true, mkE_J hx]) (fun x hx => by simp only [sc, hx, if_true, mkE_J hx])⟩
      go_wp2
      go_ret
      exact ⟨rfl, HE.out, HA.out⟩
end Tf
end Go.Proofs.YtgghigfflpbjiaaGreatDoor
/- The law's comparisons of elements: what is the same is told to be the same. -/
namespace Go.Proofs.YtgghigfflpbjiaaGreatDoor
open Go.RowKit
set_option linter.unusedVariables false
namespace Tr
theorem str_ne (s : ByteArray) : (s.toList != s.toList) = false := by simp
set_option maxRecDepth 100000 in
set_option maxHeartbeats 400000 in
theorem eqAttr (a : AttrD) (w : World) :
    Calls Tryz.prog 109 #[.agg #[.string a.name, .string a.value], .agg #[.string a.name, .string a.value]] w fun e w' => e = .returned (.bool true) ∧ Below w.heap.size w w' := by
  have h1 := str_ne a.name
  have h2 := str_ne a.value
  go_enter Tryz.func109, Tryz.ntmps109
  go_wp2
  go_ret
  exact ⟨rfl, ((Below.refl _ w).alloc (Nat.le_refl _) _).alloc (by simp) _⟩
set_option maxRecDepth 100000 in
set_option maxHeartbeats 2000000 in
theorem eqAttrS (B1 B2 : Nat) (ats : List AttrD) (v1 v2 : Value) (w : World) (hl : ats.length ≤ 1048576) (h1 : AttrsAt w B1 v1 ats) (h2 : AttrsAt w B2 v2 ats) :
    Calls Tryz.prog 84 #[v1, v2] w fun e w' => e = .returned (.bool true) ∧ Below w.heap.size w w' := by
  obtain ⟨a1, c1, rfl⟩ := h1.slice
  obtain ⟨a2, c2, rfl⟩ := h2.slice
  have H1 : Hid (AttrsAt w B1 (.slice a1 ats.length c1) ats) := h1
  have H2 : Hid (AttrsAt w B2 (.slice a2 ats.length c2) ats) := h2
  clear h1 h2
  have hb : ((ats.length : Int) != (ats.length : Int)) = false := by simp
  go_enter Tryz.func84, Tryz.ntmps84
  go_wp2
  go_loopw [5] (fun i wr => ∃ k : Nat, i = .int .i64 k ∧ k ≤ ats.length ∧ Below w.heap.size w wr) (fun i _ => ats.length - (intOf i).toNat)
  case atStart => exact ⟨0, rfl, Nat.zero_le _, Below.refl _ _⟩
  case round =>
    obtain ⟨k, rfl, hk, hbel⟩ := hrel
    by_cases hlt : k < ats.length
    · obtain ⟨g1, o1, rfl, hg1, p1, q1⟩ := (H1.out.below hbel).at hlt
      obtain ⟨g2, o2, rfl, hg2, p2, q2⟩ := (H2.out.below hbel).at hlt
      have r1 : (k : Int) < (ats.length : Int) := by omega
      have HE : Hid (∀ w : World, Calls Tryz.prog 109 #[.agg #[.string ats[k].name, .string ats[k].value], .agg #[.string ats[k].name, .string ats[k].value]] w fun e w' => e = .returned (.bool true) ∧ Below w.heap.size w w') := fun w => eqAttr ats[k] w
      go_wp2
      go_region_with ((go_at_call 109; refine (HE.out _).mono ?_; rintro e w1 ⟨rfl, hb1⟩; have hbb : Below wr.heap.size wr w1 := ((Below.refl wr.heap.size wr).drew).trans hb1))
      all_goals go_wp2
      all_goals exact ⟨⟨k + 1, by simp, by omega, hbel.trans (hbb.mono hbel.size)⟩, by simp [intOf]; omega⟩
    · go_wp2
      go_ret
      exact ⟨rfl, hbel⟩
set_option maxRecDepth 100000 in
set_option maxHeartbeats 400000 in
theorem eqElem (B1 B2 : Nat) (x : ElemD) (v1 v2 : Value) (w : World) (hl : x.attrs.length ≤ 1048576) (h1 : AttrsAt w B1 v1 x.attrs) (h2 : AttrsAt w B2 v2 x.attrs) :
    Calls Tryz.prog 51 #[.agg #[.string x.tag, .int .i64 x.parent, v1], .agg #[.string x.tag, .int .i64 x.parent, v2]] w fun e w' => e = .returned (.bool true) ∧ Below w.heap.size w w' := by
  obtain ⟨a1, c1, rfl⟩ := h1.slice
  obtain ⟨a2, c2, rfl⟩ := h2.slice
  have H1 : Hid (AttrsAt w B1 (.slice a1 x.attrs.length c1) x.attrs) := h1
  have H2 : Hid (AttrsAt w B2 (.slice a2 x.attrs.length c2) x.attrs) := h2
  clear h1 h2
  have h1 := str_ne x.tag
  have h2 : (x.parent != x.parent) = false := by simp
  go_enter Tryz.func51, Tryz.ntmps51
  go_wp2_with fail
  have hB : Below w.heap.size w ((w.alloc (.cells #[.string x.tag, .int .i64 x.parent, .slice a1 x.attrs.length c1] 53)).alloc (.cells #[.string x.tag, .int .i64 x.parent, .slice a2 x.attrs.length c2] 53)) := ((Below.refl _ w).alloc (Nat.le_refl _) _).alloc (by simp) _
  refine (eqAttrS B1 B2 x.attrs _ _ _ hl (H1.out.below hB) (H2.out.below hB)).mono ?_
  rintro e w1 ⟨rfl, hb1⟩
  go_wp2
  go_ret
  exact ⟨rfl, hB.trans (hb1.mono (by simp; omega))⟩
set_option maxRecDepth 100000 in
set_option maxHeartbeats 2000000 in
theorem eqElemS (B1 B2 : Nat) (es : List ElemD) (v1 v2 : Value) (w : World) (hl : SmallE 1048576 es) (h1 : ElemsAt w B1 v1 es) (h2 : ElemsAt w B2 v2 es) :
    Calls Tryz.prog 25 #[v1, v2] w fun e w' => e = .returned (.bool true) ∧ Below w.heap.size w w' := by
  obtain ⟨a1, c1, rfl⟩ := h1.slice
  obtain ⟨a2, c2, rfl⟩ := h2.slice
  have H1 : Hid (ElemsAt w B1 (.slice a1 es.length c1) es) := h1
  have H2 : Hid (ElemsAt w B2 (.slice a2 es.length c2) es) := h2
  have HL : Hid (SmallE 1048576 es) := hl
  have hlen := hl.1
  clear h1 h2 hl
  have hb : ((es.length : Int) != (es.length : Int)) = false := by simp
  go_enter Tryz.func25, Tryz.ntmps25
  go_wp2
  go_loopw [5] (fun i wr => ∃ k : Nat, i = .int .i64 k ∧ k ≤ es.length ∧ Below w.heap.size w wr) (fun i _ => es.length - (intOf i).toNat)
  case atStart => exact ⟨0, rfl, Nat.zero_le _, Below.refl _ _⟩
  case round =>
    obtain ⟨k, rfl, hk, hbel⟩ := hrel
    by_cases hlt : k < es.length
    · obtain ⟨g1, o1, va, rfl, hg1, p1, q1, r1, hva⟩ := (H1.out.below hbel).at hlt
      obtain ⟨g2, o2, vb, rfl, hg2, p2, q2, r2, hvb⟩ := (H2.out.below hbel).at hlt
      have hsm : es[k].attrs.length ≤ 1048576 := by have := (HL.out.2 es[k] (List.getElem_mem hlt)).2.1; omega
      have HE : Hid (∀ w1 : World, Below wr.heap.size wr w1 → Calls Tryz.prog 51 #[.agg #[.string es[k].tag, .int .i64 es[k].parent, va], .agg #[.string es[k].tag, .int .i64 es[k].parent, vb]] w1 fun e w' => e = .returned (.bool true) ∧ Below w1.heap.size w1 w') := fun w1 h => eqElem B1 B2 es[k] va vb w1 hsm (hva.below h) (hvb.below h)
      obtain ⟨a3, c3, rfl⟩ := hva.slice
      obtain ⟨a4, c4, rfl⟩ := hvb.slice
      clear hva hvb
      have t1 : (k : Int) < (es.length : Int) := by omega
      go_wp2
      go_region_with ((go_at_call 51; refine (HE.out _ ?_).mono ?_; exact (Below.refl wr.heap.size wr).drew; rintro e w1 ⟨rfl, hb1⟩; have hbb : Below wr.heap.size wr w1 := ((Below.refl wr.heap.size wr).drew).trans hb1))
      all_goals go_wp2
      all_goals exact ⟨⟨k + 1, by simp, by omega, hbel.trans (hbb.mono hbel.size)⟩, by simp [intOf]; omega⟩
    · go_wp2
      go_ret
      exact ⟨rfl, hbel⟩
end Tr
end Go.Proofs.YtgghigfflpbjiaaGreatDoor
