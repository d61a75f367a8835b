/- Laid together: GkF, GnC, FlC. -/
import Derived.Test.YtfgckeoigkoflaaGreatDoorJGraphOf25
import Derived.Test.YtfgckeoigkoflaaGreatDoorJGraphOf3
import Derived.Deep.RegionHeld3
import Derived.Test.YtfgckeoigkoflaaGreatDoorJGraphOf2
/- The law's marks in rows of Flow that own their memory, and whether they hold. -/
namespace Go.Proofs.YtfgckeoigkoflaaGreatDoor
open Go.RowKit
set_option linter.unusedVariables false
namespace FlK
open Ex (hid nvals)
open Nd (NodeD)
open Gn (GNodeD)
open Fl (FlowD)
open Nst (own)
open Mk (mt markText markText')
open Nk (mkN mkN_len kept_cell heldNodes)
open Gr (NJ NJ_eq FJ FJ_eq gncell flcell nsub GnOAt FlOAt)
open Gk
def kAt (k0 : Nat) (ss : List FlowD) : Nat → Nat
  | 0 => k0
  | i + 1 => kAt k0 ss i + 2 + 4 * (FJ ss i).cond.length
theorem kAt_pos {k0 : Nat} (h : 0 < k0) (ss : List FlowD) : ∀ i, 0 < kAt k0 ss i
  | 0 => h
  | i + 1 => by rw [kAt]; omega
theorem kAt_le {k0 : Nat} {ss : List FlowD} {n : Nat} (hm : ∀ j, j < n → (FJ ss j).cond.length ≤ 16) : ∀ i, i ≤ n → kAt k0 ss i ≤ k0 + 66 * i
  | 0, _ => by simp [kAt]
  | i + 1, h => by
    have := kAt_le (k0 := k0) hm i (by omega)
    have := hm i (by omega)
    rw [kAt]; omega
def mst (k0 : Nat) (ss : List FlowD) (i : Nat) : FlowD := ⟨(kAt k0 ss i : Int), ((kAt k0 ss i + 1 : Nat) : Int), mkN (kAt k0 ss i + 2) (FJ ss i).cond.length⟩
def mkS (k0 : Nat) (ss : List FlowD) : List FlowD := (List.range ss.length).map (mst k0 ss)
theorem mkS_len (k0 : Nat) (ss : List FlowD) : (mkS k0 ss).length = ss.length := by simp [mkS]
theorem mkS_get (k0 : Nat) (ss : List FlowD) (i : Nat) (h : i < (mkS k0 ss).length) : (mkS k0 ss)[i] = mst k0 ss i := by simp [mkS]
theorem mkS_J {k0 : Nat} {ss : List FlowD} {i : Nat} (h : i < ss.length) : FJ (mkS k0 ss) i = mst k0 ss i := by
  rw [FJ_eq (by rw [mkS_len]; exact h), mkS_get]
abbrev ec (k0 : Nat) (ss : List FlowD) (E : Nat → Value) (j : Nat) : Nat → List Value := fun x => if x < j then flcell (mst k0 ss x) (E x) else flcell (FJ ss x) (E x)
abbrev sc (k0 : Nat) (ss : List FlowD) (E : Nat → Value) (j : Nat) : Nat → Nst.Sub := fun i => if i < j then nsub (E i) (mst k0 ss i).cond else nsub (E i) (FJ ss i).cond
abbrev SAj (w : World) (B : Nat) (v : Value) (k0 : Nat) (ss : List FlowD) (E : Nat → Value) (j : Nat) : Prop := Nst.At w B 101 3 v ss.length (ec k0 ss E j) ss.length (sc k0 ss E j)
/-- The blocks of the row and of the rows inside. -/
def Bl (v : Value) (n : Nat) (E : Nat → Value) (b : Nat) : Prop := own v b ∨ ∃ j, j < n ∧ own (E j) b
set_option maxRecDepth 100000 in
set_option maxHeartbeats 8000000 in
theorem mark1 (B g cap k0 : Nat) (ss : List FlowD) (E : Nat → Value) (w : World) (hn : ss.length ≤ 700000000000) (h0 : 0 < k0) (hk0 : k0 ≤ 100000000000000) (hm : ∀ j, j < ss.length → (FJ ss j).cond.length ≤ 16) (h : FlOAt w B (.slice (some ⟨g, 0, none⟩) ss.length cap) ss E) :
    Calls Tryz.prog 53 #[(.slice (some ⟨g, 0, none⟩) ss.length cap), .int .i64 (k0 : Int)] w fun e w' => e = .returned (.int .i64 (kAt k0 ss ss.length : Int)) ∧ FlOAt w' B (.slice (some ⟨g, 0, none⟩) ss.length cap) (mkS k0 ss) E ∧ Sav w w' (Bl (.slice (some ⟨g, 0, none⟩) ss.length cap) ss.length E) := by
  have hgB := (Nst.own_lt h.row (b := g) rfl).1
  have hSg : Bl (.slice (some ⟨g, 0, none⟩) ss.length cap) ss.length E g := .inl rfl
  have H0 : Hid (SAj w B (.slice (some ⟨g, 0, none⟩) ss.length cap) k0 ss E 0) := hid (h.congr (fun j hj => by simp [ec]) (fun i hi => by simp [sc]))
  have HM := hid hm
  have HK := hid (fun i (hi : i ≤ ss.length) => kAt_le (k0 := k0) hm i hi)
  have HP := hid (kAt_pos h0 ss)
  have HSG := hid hSg
  clear h hm hSg
  go_enter Tryz.func53, Tryz.ntmps53
  go_wp2
  go_loopw [1, 5] (fun q i wr => ∃ (j : Nat), i = .int .i64 j ∧ q = .int .i64 (kAt k0 ss j : Int) ∧ j ≤ ss.length ∧ Hid (SAj wr B (.slice (some ⟨g, 0, none⟩) ss.length cap) k0 ss E j) ∧ Hid (Sav w wr (Bl (.slice (some ⟨g, 0, none⟩) ss.length cap) ss.length E))) (fun _ i _ => ss.length - (intOf i).toNat)
  case atStart => exact ⟨0, rfl, by simp [kAt], Nat.zero_le _, H0, hid (Sav.refl _ _)⟩
  case round =>
    obtain ⟨j, rfl, rfl, hj, HW, HA⟩ := hrel
    by_cases hlt : j < ss.length
    · have q1 : (j : Int) < (ss.length : Int) := by omega
      have hmj := HM.out j hlt
      have hkj := HK.out j (by omega)
      have hpj := HP.out j
      have HKS : Hid (kAt k0 ss (j + 1) = kAt k0 ss j + 2 + 4 * (FJ ss j).cond.length) := hid rfl
      have HME : Hid (mst k0 ss j = ⟨(kAt k0 ss j : Int), ((kAt k0 ss j + 1 : Nat) : Int), mkN (kAt k0 ss j + 2) (FJ ss j).cond.length⟩) := hid rfl
      have hml : ∀ x, x < ss.length → (ec k0 ss E j x).length = 3 := fun x hx => by unfold ec; split <;> rfl
      have HML := hid hml
      have hej : ec k0 ss E j j = [.int .i64 (FJ ss j).src, .int .i64 (FJ ss j).dst, E j] := by simp [ec, flcell]
      have step : ∀ (wx : World) (L : List Value) (s : Nat → Nst.Sub) (i : Nat) (u : Value), Nst.At wx B 101 3 (.slice (some ⟨g, 0, none⟩) ss.length cap) ss.length (fun x => if x = j then L else ec k0 ss E j x) ss.length s → L.length = 3 → i < 3 → Nst.At (wx.setCell ⟨g, j * 3 + i, none⟩ u) B 101 3 (.slice (some ⟨g, 0, none⟩) ss.length cap) ss.length (fun x => if x = j then L.set i u else ec k0 ss E j x) ss.length s := by
        intro wx L s i u ha hL hi
        have := ha.setRow (fun x hx => by
          by_cases e : x = j
          · simp only [e, if_true]; exact hL
          · simp only [e, if_false]; exact HML.out x hx) hlt hi u
        refine this.congr (fun x hx => ?_) (fun _ _ => rfl)
        by_cases e : x = j <;> simp only [e, if_true, if_false]
      have HSTEP := hid step
      have cut : ∀ (wx : World) (L : List Value) (s : Nat → Nst.Sub) (u : Value) (i : Nat), Nst.At wx B 101 3 (.slice (some ⟨g, 0, none⟩) ss.length cap) ss.length (fun x => if x = j then L else ec k0 ss E j x) ss.length s → L.length = 3 → i < 3 → L[i]? = some u → wx.cell? ⟨g, j * 3 + i, none⟩ = some u := by
        intro wx L s u i ha hL hi hu
        have := ha.cell (fun x hx => by
          by_cases e : x = j
          · simp only [e, if_true]; exact hL
          · simp only [e, if_false]; exact HML.out x hx) hlt hi
        simp only [if_true] at this
        rw [this]; exact hu
      have HCUT := hid cut
      clear step cut
      have HS0 : Hid (Nst.At wr B 101 3 (.slice (some ⟨g, 0, none⟩) ss.length cap) ss.length (fun x => if x = j then [.int .i64 (FJ ss j).src, .int .i64 (FJ ss j).dst, E j] else ec k0 ss E j x) ss.length (sc k0 ss E j)) := hid (HW.out.congr (fun x hx => by
        by_cases e : x = j
        · subst e; rw [if_pos rfl]; exact hej.symm
        · rw [if_neg e]) (fun _ _ => rfl))
      generalize hkk : kAt k0 ss j = k at *
      clear hml hkk hej
      have c0 := HCUT.out _ _ _ _ 0 HS0.out rfl (by omega) rfl
      replace c0 : wr.cell? ⟨g, j * 3, none⟩ = some (.int .i64 (FJ ss j).src) := c0
      have z0 := HS0.out.free (j * 3)
      have c1 := HCUT.out _ _ _ _ 1 HS0.out rfl (by omega) rfl
      have z1 := HS0.out.free (j * 3 + 1)
      have hgl0 := (Nst.own_lt HS0.out.row (b := g) rfl).2
      have HS1 : Hid (Nst.At ((wr.setCell ⟨g, j * 3, none⟩ (.int .i64 ((k : Int)))).setCell ⟨g, j * 3 + 1, none⟩ (.int .i64 ((k : Int) + 1))) B 101 3 (.slice (some ⟨g, 0, none⟩) ss.length cap) ss.length (fun x => if x = j then [.int .i64 ((k : Int)), .int .i64 ((k : Int) + 1), E j] else ec k0 ss E j x) ss.length (sc k0 ss E j)) := hid (HSTEP.out _ _ _ 1 (.int .i64 ((k : Int) + 1)) (HSTEP.out _ _ _ 0 (.int .i64 ((k : Int))) (HS0.out) rfl (by omega)) rfl (by omega))
      have HA1 : Hid (Sav w ((wr.setCell ⟨g, j * 3, none⟩ (.int .i64 ((k : Int)))).setCell ⟨g, j * 3 + 1, none⟩ (.int .i64 ((k : Int) + 1))) (Bl (.slice (some ⟨g, 0, none⟩) ss.length cap) ss.length E)) := hid (((HA.out).trans (Sav.set wr (j * 3) (.int .i64 ((k : Int))) HSG.out)).trans (Sav.set _ (j * 3 + 1) (.int .i64 ((k : Int) + 1)) HSG.out))
      have hsc : sc k0 ss E j j = nsub (E j) (FJ ss j).cond := by simp only [sc, Nat.lt_irrefl, if_false]
      have HSC := hid hsc
      obtain ⟨ae, ce, hEj⟩ : ∃ a c, E j = .slice a (FJ ss j).cond.length c := by
        have := HS1.out.sub j hlt
        rw [hsc] at this
        exact Nst.own_slice this
      have HEJ := hid hEj
      have cS : ((wr.setCell ⟨g, j * 3, none⟩ (.int .i64 ((k : Int)))).setCell ⟨g, j * 3 + 1, none⟩ (.int .i64 ((k : Int) + 1))).cell? ⟨g, j * 3 + 2, none⟩ = some (.slice ae (FJ ss j).cond.length ce) := by rw [← hEj]; exact HCUT.out _ _ _ _ 2 HS1.out rfl (by omega) rfl
      have cS2 : wr.cell? ⟨g, j * 3 + 2, none⟩ = some (.slice ae (FJ ss j).cond.length ce) := by rw [← hEj]; exact HCUT.out _ _ _ _ 2 HS0.out rfl (by omega) rfl
      clear hsc hEj
      go_wp2_with fail
      generalize ((wr.setCell ⟨g, j * 3, none⟩ (.int .i64 ((k : Int)))).setCell ⟨g, j * 3 + 1, none⟩ (.int .i64 ((k : Int) + 1))) = wS at *
      have hsub : wS.ownsRow B 115 4 (.slice ae (FJ ss j).cond.length ce) (FJ ss j).cond.length (nvals (FJ ss j).cond) := by
        have := HS1.out.sub j hlt
        rw [HSC.out, HEJ.out] at this
        exact this
      have HCA := hid (Nk.markNodesO B (k + 2) (FJ ss j).cond _ wS (by omega) (by omega) hsub)
      rw [show ((k + 2 : Nat) : Int) = (k : Int) + 1 + 1 by omega] at HCA
      clear hsub
      refine HCA.out.mono ?_
      rintro e wT ⟨rfl, hx5, hg5⟩
      have hq5 := HS1.out.setSub (q := j) hlt (xs := nvals (mkN (k + 2) (FJ ss j).cond.length)) (by rw [HSC.out, HEJ.out]; exact hx5) (by rw [HSC.out, HEJ.out]; exact hg5)
      have HS6 : Hid (SAj wT B (.slice (some ⟨g, 0, none⟩) ss.length cap) k0 ss E (j + 1)) := hid (hq5.congr (fun x hx => by
        by_cases e : x = j
        · subst e
          simp only [ec, Nat.lt_succ_self, if_true, HME.out, flcell]
          push_cast
          rfl
        · have e2 : (x < j + 1) = (x < j) := by simp only [eq_iff_iff]; omega
          simp only [ec, e, if_false, e2]) (fun i hi => by
        by_cases e1 : i = j
        · subst e1
          simp only [sc, Nat.lt_succ_self, if_true, if_false, HME.out, Nat.lt_irrefl]
          exact (sub_mk (E i) (k + 2) (FJ ss i).cond).symm
        · have a1 : (i < j + 1) = (i < j) := by simp only [eq_iff_iff]; omega
          simp only [sc, e1, if_false, a1]))
      have HA6 : Hid (Sav w wT (Bl (.slice (some ⟨g, 0, none⟩) ss.length cap) ss.length E)) := hid (HA1.out.trans (Sav.grown hg5 (fun b hb => by
        rw [← HEJ.out] at hb
        exact .inr ⟨j, hlt, hb⟩)))
      clear hx5 hg5 hq5 HCA
      go_wp2
      exact ⟨⟨j + 1, by simp, by rw [HKS.out]; simp, by omega, HS6, HA6⟩, by simp [intOf]; omega⟩
    · obtain rfl : j = ss.length := by omega
      have HE : Hid (FlOAt wr B (.slice (some ⟨g, 0, none⟩) ss.length cap) (mkS k0 ss) E) := hid (by
        unfold FlOAt
        rw [mkS_len]
        exact HW.out.congr (fun x hx => by simp only [ec, hx, if_true, mkS_J hx]) (fun i hi => by simp only [sc, hi, if_true, mkS_J hi]))
      go_wp2
      go_ret
      exact ⟨rfl, HE.out, HA.out⟩
set_option maxRecDepth 100000 in
set_option maxHeartbeats 2000000 in
theorem markAll (B k0 : Nat) (ss : List FlowD) (E : Nat → Value) (v : Value) (w : World) (hn : ss.length ≤ 700000000000) (h0 : 0 < k0) (hk0 : k0 ≤ 100000000000000) (hm : ∀ j, j < ss.length → (FJ ss j).cond.length ≤ 16) (h : FlOAt w B v ss E) :
    Calls Tryz.prog 53 #[v, .int .i64 (k0 : Int)] w fun e w' => e = .returned (.int .i64 (kAt k0 ss ss.length : Int)) ∧ FlOAt w' B v (mkS k0 ss) E ∧ Sav w w' (Bl v ss.length E) := by
  by_cases hz : 0 < ss.length
  · obtain ⟨g, cap, rfl, _, _, _, _⟩ := Nst.own_some h.row hz
    exact mark1 B g cap k0 ss E w hn h0 hk0 hm h
  · have e : ss = [] := List.eq_nil_of_length_eq_zero (by omega)
    subst e
    have H := hid h
    obtain ⟨a, cap, rfl⟩ := Nst.own_slice h.row
    clear h hm hz
    go_enter Tryz.func53, Tryz.ntmps53
    go_wp2
    go_loopw [1, 5] (fun q i wr => q = .int .i64 (k0 : Int) ∧ i = .int .i64 0 ∧ Hid (wr = w)) (fun _ _ _ => 0)
    case atStart => exact ⟨rfl, rfl, hid rfl⟩
    case round =>
      obtain ⟨rfl, rfl, HW⟩ := hrel
      go_wp2
      go_ret
      have e : wr = w := HW.out
      rw [e]
      exact ⟨rfl, H.out, Sav.refl _ _⟩
theorem mt_ne (k : Nat) : ((mt k).toList != (mt k).toList) = false := by simp
set_option maxRecDepth 100000 in
set_option maxHeartbeats 8000000 in
theorem heldAll (B k0 : Nat) (ss : List FlowD) (v : Value) (w : World) (hn : ss.length ≤ 700000000000) (h0 : 0 < k0) (hk0 : k0 ≤ 100000000000000) (hm : ∀ j, j < ss.length → (FJ ss j).cond.length ≤ 16) (ha : Fl.At w B v (mkS k0 ss)) :
    Calls Tryz.prog 55 #[v, .int .i64 (k0 : Int)] w fun e w' => e = .returned (.int .i64 (kAt k0 ss ss.length : Int)) ∧ Below w.heap.size w w' := by
  obtain ⟨a, cap, rfl⟩ := ha.slice
  have HA := hid ha
  have HM := hid hm
  have HK := hid (fun i (hi : i ≤ ss.length) => kAt_le (k0 := k0) hm i hi)
  have HP := hid (kAt_pos h0 ss)
  have hml := mkS_len k0 ss
  have HML := hid hml
  clear ha hm hml
  go_enter Tryz.func55, Tryz.ntmps55
  go_wp2
  go_loopw [1, 5] (fun q i wr => ∃ (j : Nat), i = .int .i64 j ∧ q = .int .i64 (kAt k0 ss j : Int) ∧ j ≤ ss.length ∧ Hid (Below w.heap.size w wr)) (fun _ i _ => ss.length - (intOf i).toNat)
  case atStart => exact ⟨0, rfl, by simp [kAt], Nat.zero_le _, hid (Below.refl _ _)⟩
  case round =>
    obtain ⟨j, rfl, rfl, hj, HB⟩ := hrel
    by_cases hlt : j < ss.length
    · have q1 : (j : Int) < ((mkS k0 ss).length : Int) := by have := HML.out; omega
      have hlt2 : j < (mkS k0 ss).length := by have := HML.out; omega
      obtain ⟨g, o, ve, rfl, hg, c0, c1, cS, hve⟩ := (HA.out.below HB.out).at (i := j) hlt2
      rw [mkS_get] at c0 c1 hve
      have hkj := HK.out j (by omega)
      have hpj := HP.out j
      have hmj := HM.out j hlt
      have HKS : Hid (kAt k0 ss (j + 1) = kAt k0 ss j + 2 + 4 * (FJ ss j).cond.length) := hid rfl
      replace c0 : wr.cell? ⟨g, o + j * 3, none⟩ = some (.int .i64 (kAt k0 ss j : Int)) := c0
      replace c1 : wr.cell? ⟨g, o + j * 3 + 1, none⟩ = some (.int .i64 ((kAt k0 ss j + 1 : Nat) : Int)) := c1
      replace hve : Nd.At wr B ve (mkN (kAt k0 ss j + 2) (FJ ss j).cond.length) := hve
      obtain ⟨a3, cap3, rfl⟩ := hve.slice
      have HVE := hid hve
      generalize hkk : kAt k0 ss j = k at *
      clear hkk hve
      have b0 : ((k : Int) != (k : Int)) = false := by simp
      have d1 : (((k + 1 : Nat) : Int) != (k : Int) + 1) = false := by simp; try omega
      have f1 : ((k : Int) + 1 != (k : Int) + 1) = false := by simp; try omega
      have HB1 := HB
      have HHC := hid (heldNodes B (FJ ss j).cond.length (k + 2) _ wr (by omega) (by omega) HVE.out)
      rw [show ((k + 2 : Nat) : Int) = (k : Int) + 1 + 1 by omega] at HHC
      go_wp2_with fail
      refine HHC.out.mono ?_
      rintro e w2 ⟨rfl, hb2⟩
      have HB2 := hid (HB1.out.trans (hb2.mono HB1.out.size))
      have b6 : ¬ ((k + 2 + 4 * (FJ ss j).cond.length : Nat) : Int) < 0 := by omega
      clear hb2 HHC
      go_wp2
      exact ⟨⟨j + 1, by simp, by rw [HKS.out]; simp, by omega, HB2⟩, by simp [intOf]; omega⟩
    · obtain rfl : j = ss.length := by omega
      have q1 : ¬ (ss.length : Int) < ((mkS k0 ss).length : Int) := by have := HML.out; omega
      go_wp2
      go_ret
      exact ⟨rfl, HB.out⟩
end FlK
end Go.Proofs.YtfgckeoigkoflaaGreatDoor
/- The law's comparisons of records (GNode); an argument that is a list of them, as it lies in memory. -/
namespace Go.Proofs.YtfgckeoigkoflaaGreatDoor
open Go.RowKit Go.Deep
set_option linter.unusedVariables false
namespace Gn
open Ex (hid)
open Nd (NodeD cellsI64 lt_of_cell)
open Rc
set_option maxRecDepth 100000 in
set_option maxHeartbeats 1000000 in
theorem eqOne (B1 B2 : Nat) (x : GNodeD) (c1 c2 : Value) (w : World) (hl : Small1 1048576 x) (h1 : Nd.At w B1 c1 x.expr) (h2 : Nd.At w B2 c2 x.expr) :
    Calls Tryz.prog 84 #[.agg #[.int .i64 x.kind, .int .i64 x.step, .string x.name, .int .i64 x.arg, c1], .agg #[.int .i64 x.kind, .int .i64 x.step, .string x.name, .int .i64 x.arg, c2]] w fun e w' => e = .returned (.bool true) ∧ Below w.heap.size w w' := by
  obtain ⟨a1, k1, rfl⟩ := h1.slice
  obtain ⟨a2, k2, rfl⟩ := h2.slice
  have hs1 := hl.2
  have hB : Below w.heap.size w ((w.alloc (.cells #[.int .i64 x.kind, .int .i64 x.step, .string x.name, .int .i64 x.arg, .slice a1 x.expr.length k1] 78)).alloc (.cells #[.int .i64 x.kind, .int .i64 x.step, .string x.name, .int .i64 x.arg, .slice a2 x.expr.length k2] 78)) := ((Below.refl _ w).alloc (Nat.le_refl _) _).alloc (by simp) _
  have H1 := hid (h1.below hB)
  have H2 := hid (h2.below hB)
  have HB := hid hB
  clear h1 h2 hB hl
  have g0 : (x.kind != x.kind) = false := by simp
  have g1 : (x.step != x.step) = false := by simp
  have g2 := str_ne x.name
  have g3 : (x.arg != x.arg) = false := by simp
  go_enter Tryz.func84, Tryz.ntmps84
  go_wp2_with fail
  refine (Nd.eqS B1 B2 x.expr _ _ _ (by omega) H1.out H2.out).mono ?_
  rintro e w1 ⟨rfl, hb1⟩
  have HB1 := hid (HB.out.trans (hb1.mono HB.out.size))
  clear hb1
  go_wp2
  go_ret
  exact ⟨rfl, HB1.out⟩
set_option maxRecDepth 100000 in
set_option maxHeartbeats 2000000 in
theorem eqS (B1 B2 : Nat) (ss : List GNodeD) (v1 v2 : Value) (w : World) (hl : Small 1048576 ss) (h1 : At w B1 v1 ss) (h2 : At w B2 v2 ss) :
    Calls Tryz.prog 49 #[v1, v2] w fun e w' => e = .returned (.bool true) ∧ Below w.heap.size w w' := by
  obtain ⟨a1, c1, rfl⟩ := h1.slice
  obtain ⟨a2, c2, rfl⟩ := h2.slice
  have H1 := hid h1
  have H2 := hid h2
  have HL := hid hl
  have hlen := hl.1
  clear h1 h2 hl
  have hb : ((ss.length : Int) != (ss.length : Int)) = false := by simp
  go_enter Tryz.func49, Tryz.ntmps49
  go_wp2
  go_loopw [5] (fun i wr => ∃ k : Nat, i = .int .i64 k ∧ k ≤ ss.length ∧ Below w.heap.size w wr) (fun i _ => ss.length - (intOf i).toNat)
  case atStart => exact ⟨0, rfl, Nat.zero_le _, Below.refl _ _⟩
  case round =>
    obtain ⟨k, rfl, hk, hbel⟩ := hrel
    by_cases hlt : k < ss.length
    · obtain ⟨g1, o1, c1', rfl, hg1, p0, p1, p2, p3, px, hc1⟩ := (H1.out.below hbel).at hlt
      obtain ⟨g2, o2, c2', rfl, hg2, u0, u1, u2, u3, ux, hc2⟩ := (H2.out.below hbel).at hlt
      have hsm := HL.out.at hlt
      have HE : Hid (∀ w1 : World, Below wr.heap.size wr w1 → Calls Tryz.prog 84 #[.agg #[.int .i64 ss[k].kind, .int .i64 ss[k].step, .string ss[k].name, .int .i64 ss[k].arg, c1'], .agg #[.int .i64 ss[k].kind, .int .i64 ss[k].step, .string ss[k].name, .int .i64 ss[k].arg, c2']] w1 fun e w' => e = .returned (.bool true) ∧ Below w1.heap.size w1 w') := fun w1 h => eqOne B1 B2 ss[k] c1' c2' w1 hsm (hc1.below h) (hc2.below h)
      obtain ⟨a3, c3, rfl⟩ := hc1.slice
      obtain ⟨a5, c5, rfl⟩ := hc2.slice
      clear hc1 hc2 hsm
      have t1 : (k : Int) < (ss.length : Int) := by omega
      go_wp2
      go_region_with ((go_at_call 84; refine (HE.out _ ?_).mono ?_; exact (Below.refl wr.heap.size wr).drew; rintro e w1 ⟨rfl, hb1⟩; have hbb : Below wr.heap.size wr w1 := ((Below.refl wr.heap.size wr).drew).trans hb1))
      all_goals go_wp2
      all_goals exact ⟨⟨k + 1, by simp, by omega, hbel.trans (hbb.mono hbel.size)⟩, by simp [intOf]; omega⟩
    · go_wp2
      go_ret
      exact ⟨rfl, hbel⟩
end Gn
end Go.Proofs.YtfgckeoigkoflaaGreatDoor
/- The law's comparisons of records (Flow); an argument that is a list of them, as it lies in memory. -/
namespace Go.Proofs.YtfgckeoigkoflaaGreatDoor
open Go.RowKit Go.Deep
set_option linter.unusedVariables false
namespace Fl
open Ex (hid)
open Nd (NodeD cellsI64 lt_of_cell)
open Rc
set_option maxRecDepth 100000 in
set_option maxHeartbeats 1000000 in
theorem eqOne (B1 B2 : Nat) (x : FlowD) (c1 c2 : Value) (w : World) (hl : Small1 1048576 x) (h1 : Nd.At w B1 c1 x.cond) (h2 : Nd.At w B2 c2 x.cond) :
    Calls Tryz.prog 85 #[.agg #[.int .i64 x.src, .int .i64 x.dst, c1], .agg #[.int .i64 x.src, .int .i64 x.dst, c2]] w fun e w' => e = .returned (.bool true) ∧ Below w.heap.size w w' := by
  obtain ⟨a1, k1, rfl⟩ := h1.slice
  obtain ⟨a2, k2, rfl⟩ := h2.slice
  have hs1 := (show (x.cond.length : Int) ≤ 1048576 from hl)
  have hB : Below w.heap.size w ((w.alloc (.cells #[.int .i64 x.src, .int .i64 x.dst, .slice a1 x.cond.length k1] 101)).alloc (.cells #[.int .i64 x.src, .int .i64 x.dst, .slice a2 x.cond.length k2] 101)) := ((Below.refl _ w).alloc (Nat.le_refl _) _).alloc (by simp) _
  have H1 := hid (h1.below hB)
  have H2 := hid (h2.below hB)
  have HB := hid hB
  clear h1 h2 hB hl
  have g0 : (x.src != x.src) = false := by simp
  have g1 : (x.dst != x.dst) = false := by simp
  go_enter Tryz.func85, Tryz.ntmps85
  go_wp2_with fail
  refine (Nd.eqS B1 B2 x.cond _ _ _ (by omega) H1.out H2.out).mono ?_
  rintro e w1 ⟨rfl, hb1⟩
  have HB1 := hid (HB.out.trans (hb1.mono HB.out.size))
  clear hb1
  go_wp2
  go_ret
  exact ⟨rfl, HB1.out⟩
set_option maxRecDepth 100000 in
set_option maxHeartbeats 2000000 in
theorem eqS (B1 B2 : Nat) (ss : List FlowD) (v1 v2 : Value) (w : World) (hl : Small 1048576 ss) (h1 : At w B1 v1 ss) (h2 : At w B2 v2 ss) :
    Calls Tryz.prog 50 #[v1, v2] w fun e w' => e = .returned (.bool true) ∧ Below w.heap.size w w' := by
  obtain ⟨a1, c1, rfl⟩ := h1.slice
  obtain ⟨a2, c2, rfl⟩ := h2.slice
  have H1 := hid h1
  have H2 := hid h2
  have HL := hid hl
  have hlen := hl.1
  clear h1 h2 hl
  have hb : ((ss.length : Int) != (ss.length : Int)) = false := by simp
  go_enter Tryz.func50, Tryz.ntmps50
  go_wp2
  go_loopw [5] (fun i wr => ∃ k : Nat, i = .int .i64 k ∧ k ≤ ss.length ∧ Below w.heap.size w wr) (fun i _ => ss.length - (intOf i).toNat)
  case atStart => exact ⟨0, rfl, Nat.zero_le _, Below.refl _ _⟩
  case round =>
    obtain ⟨k, rfl, hk, hbel⟩ := hrel
    by_cases hlt : k < ss.length
    · obtain ⟨g1, o1, c1', rfl, hg1, p0, p1, px, hc1⟩ := (H1.out.below hbel).at hlt
      obtain ⟨g2, o2, c2', rfl, hg2, u0, u1, ux, hc2⟩ := (H2.out.below hbel).at hlt
      have hsm := HL.out.at hlt
      have HE : Hid (∀ w1 : World, Below wr.heap.size wr w1 → Calls Tryz.prog 85 #[.agg #[.int .i64 ss[k].src, .int .i64 ss[k].dst, c1'], .agg #[.int .i64 ss[k].src, .int .i64 ss[k].dst, c2']] w1 fun e w' => e = .returned (.bool true) ∧ Below w1.heap.size w1 w') := fun w1 h => eqOne B1 B2 ss[k] c1' c2' w1 hsm (hc1.below h) (hc2.below h)
      obtain ⟨a3, c3, rfl⟩ := hc1.slice
      obtain ⟨a5, c5, rfl⟩ := hc2.slice
      clear hc1 hc2 hsm
      have t1 : (k : Int) < (ss.length : Int) := by omega
      go_wp2
      go_region_with ((go_at_call 85; refine (HE.out _ ?_).mono ?_; exact (Below.refl wr.heap.size wr).drew; rintro e w1 ⟨rfl, hb1⟩; have hbb : Below wr.heap.size wr w1 := ((Below.refl wr.heap.size wr).drew).trans hb1))
      all_goals go_wp2
      all_goals exact ⟨⟨k + 1, by simp, by omega, hbel.trans (hbb.mono hbel.size)⟩, by simp [intOf]; omega⟩
    · go_wp2
      go_ret
      exact ⟨rfl, hbel⟩
end Fl
end Go.Proofs.YtfgckeoigkoflaaGreatDoor
