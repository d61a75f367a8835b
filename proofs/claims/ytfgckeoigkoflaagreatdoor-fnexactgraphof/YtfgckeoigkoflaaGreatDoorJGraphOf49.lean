/- The law's marks in rows of GNode that own their memory, and whether they hold. -/
import Derived.Test.YtfgckeoigkoflaaGreatDoorJGraphOf25
import Derived.Test.YtfgckeoigkoflaaGreatDoorJGraphOf3
import Derived.Deep.RegionHeld3
namespace Go.Proofs.YtfgckeoigkoflaaGreatDoor
open Go.RowKit
set_option linter.unusedVariables false
namespace GnK
open Ex (hid nvals)
open Nd (NodeD)
open Gn (GNodeD)
open Fl (FlowD)
open Nst (own)
open Mk (mt markText markText')
open Nk (mkN mkN_len kept_cell heldNodes)
open Gr (NJ NJ_eq FJ FJ_eq gncell flcell nsub GnOAt FlOAt)
open Gk
def kAt (k0 : Nat) (ss : List GNodeD) : Nat → Nat
  | 0 => k0
  | i + 1 => kAt k0 ss i + 4 + 4 * (NJ ss i).expr.length
theorem kAt_pos {k0 : Nat} (h : 0 < k0) (ss : List GNodeD) : ∀ i, 0 < kAt k0 ss i
  | 0 => h
  | i + 1 => by rw [kAt]; omega
theorem kAt_le {k0 : Nat} {ss : List GNodeD} {n : Nat} (hm : ∀ j, j < n → (NJ ss j).expr.length ≤ 16) : ∀ i, i ≤ n → kAt k0 ss i ≤ k0 + 68 * i
  | 0, _ => by simp [kAt]
  | i + 1, h => by
    have := kAt_le (k0 := k0) hm i (by omega)
    have := hm i (by omega)
    rw [kAt]; omega
def mst (k0 : Nat) (ss : List GNodeD) (i : Nat) : GNodeD := ⟨(kAt k0 ss i : Int), ((kAt k0 ss i + 1 : Nat) : Int), mt (kAt k0 ss i + 2), ((kAt k0 ss i + 3 : Nat) : Int), mkN (kAt k0 ss i + 4) (NJ ss i).expr.length⟩
def mkS (k0 : Nat) (ss : List GNodeD) : List GNodeD := (List.range ss.length).map (mst k0 ss)
theorem mkS_len (k0 : Nat) (ss : List GNodeD) : (mkS k0 ss).length = ss.length := by simp [mkS]
theorem mkS_get (k0 : Nat) (ss : List GNodeD) (i : Nat) (h : i < (mkS k0 ss).length) : (mkS k0 ss)[i] = mst k0 ss i := by simp [mkS]
theorem mkS_J {k0 : Nat} {ss : List GNodeD} {i : Nat} (h : i < ss.length) : NJ (mkS k0 ss) i = mst k0 ss i := by
  rw [NJ_eq (by rw [mkS_len]; exact h), mkS_get]
abbrev ec (k0 : Nat) (ss : List GNodeD) (E : Nat → Value) (j : Nat) : Nat → List Value := fun x => if x < j then gncell (mst k0 ss x) (E x) else gncell (NJ ss x) (E x)
abbrev sc (k0 : Nat) (ss : List GNodeD) (E : Nat → Value) (j : Nat) : Nat → Nst.Sub := fun i => if i < j then nsub (E i) (mst k0 ss i).expr else nsub (E i) (NJ ss i).expr
abbrev SAj (w : World) (B : Nat) (v : Value) (k0 : Nat) (ss : List GNodeD) (E : Nat → Value) (j : Nat) : Prop := Nst.At w B 78 5 v ss.length (ec k0 ss E j) ss.length (sc k0 ss E j)
/-- The blocks of the row and of the rows inside. -/
def Bl (v : Value) (n : Nat) (E : Nat → Value) (b : Nat) : Prop := own v b ∨ ∃ j, j < n ∧ own (E j) b
set_option maxRecDepth 100000 in
set_option maxHeartbeats 8000000 in
theorem mark1 (B g cap k0 : Nat) (ss : List GNodeD) (E : Nat → Value) (w : World) (hn : ss.length ≤ 200000000002) (h0 : 0 < k0) (hk0 : k0 ≤ 1000) (hm : ∀ j, j < ss.length → (NJ ss j).expr.length ≤ 16) (h : GnOAt w B (.slice (some ⟨g, 0, none⟩) ss.length cap) ss E) :
    Calls Tryz.prog 52 #[(.slice (some ⟨g, 0, none⟩) ss.length cap), .int .i64 (k0 : Int)] w fun e w' => e = .returned (.int .i64 (kAt k0 ss ss.length : Int)) ∧ GnOAt w' B (.slice (some ⟨g, 0, none⟩) ss.length cap) (mkS k0 ss) E ∧ Sav w w' (Bl (.slice (some ⟨g, 0, none⟩) ss.length cap) ss.length E) := by
  have hgB := (Nst.own_lt h.row (b := g) rfl).1
  have hSg : Bl (.slice (some ⟨g, 0, none⟩) ss.length cap) ss.length E g := .inl rfl
  have H0 : Hid (SAj w B (.slice (some ⟨g, 0, none⟩) ss.length cap) k0 ss E 0) := hid (h.congr (fun j hj => by simp [ec]) (fun i hi => by simp [sc]))
  have HM := hid hm
  have HK := hid (fun i (hi : i ≤ ss.length) => kAt_le (k0 := k0) hm i hi)
  have HP := hid (kAt_pos h0 ss)
  have HSG := hid hSg
  clear h hm hSg
  go_enter Tryz.func52, Tryz.ntmps52
  go_wp2
  go_loopw [1, 5] (fun q i wr => ∃ (j : Nat), i = .int .i64 j ∧ q = .int .i64 (kAt k0 ss j : Int) ∧ j ≤ ss.length ∧ Hid (SAj wr B (.slice (some ⟨g, 0, none⟩) ss.length cap) k0 ss E j) ∧ Hid (Sav w wr (Bl (.slice (some ⟨g, 0, none⟩) ss.length cap) ss.length E))) (fun _ i _ => ss.length - (intOf i).toNat)
  case atStart => exact ⟨0, rfl, by simp [kAt], Nat.zero_le _, H0, hid (Sav.refl _ _)⟩
  case round =>
    obtain ⟨j, rfl, rfl, hj, HW, HA⟩ := hrel
    by_cases hlt : j < ss.length
    · have q1 : (j : Int) < (ss.length : Int) := by omega
      have hmj := HM.out j hlt
      have hkj := HK.out j (by omega)
      have hpj := HP.out j
      have HKS : Hid (kAt k0 ss (j + 1) = kAt k0 ss j + 4 + 4 * (NJ ss j).expr.length) := hid rfl
      have HME : Hid (mst k0 ss j = ⟨(kAt k0 ss j : Int), ((kAt k0 ss j + 1 : Nat) : Int), mt (kAt k0 ss j + 2), ((kAt k0 ss j + 3 : Nat) : Int), mkN (kAt k0 ss j + 4) (NJ ss j).expr.length⟩) := hid rfl
      have hml : ∀ x, x < ss.length → (ec k0 ss E j x).length = 5 := fun x hx => by unfold ec; split <;> rfl
      have HML := hid hml
      have hej : ec k0 ss E j j = [.int .i64 (NJ ss j).kind, .int .i64 (NJ ss j).step, .string (NJ ss j).name, .int .i64 (NJ ss j).arg, E j] := by simp [ec, gncell]
      have step : ∀ (wx : World) (L : List Value) (s : Nat → Nst.Sub) (i : Nat) (u : Value), Nst.At wx B 78 5 (.slice (some ⟨g, 0, none⟩) ss.length cap) ss.length (fun x => if x = j then L else ec k0 ss E j x) ss.length s → L.length = 5 → i < 5 → Nst.At (wx.setCell ⟨g, j * 5 + i, none⟩ u) B 78 5 (.slice (some ⟨g, 0, none⟩) ss.length cap) ss.length (fun x => if x = j then L.set i u else ec k0 ss E j x) ss.length s := by
        intro wx L s i u ha hL hi
        have := ha.setRow (fun x hx => by
          by_cases e : x = j
          · simp only [e, if_true]; exact hL
          · simp only [e, if_false]; exact HML.out x hx) hlt hi u
        refine this.congr (fun x hx => ?_) (fun _ _ => rfl)
        by_cases e : x = j <;> simp only [e, if_true, if_false]
      have HSTEP := hid step
      have cut : ∀ (wx : World) (L : List Value) (s : Nat → Nst.Sub) (u : Value) (i : Nat), Nst.At wx B 78 5 (.slice (some ⟨g, 0, none⟩) ss.length cap) ss.length (fun x => if x = j then L else ec k0 ss E j x) ss.length s → L.length = 5 → i < 5 → L[i]? = some u → wx.cell? ⟨g, j * 5 + i, none⟩ = some u := by
        intro wx L s u i ha hL hi hu
        have := ha.cell (fun x hx => by
          by_cases e : x = j
          · simp only [e, if_true]; exact hL
          · simp only [e, if_false]; exact HML.out x hx) hlt hi
        simp only [if_true] at this
        rw [this]; exact hu
      have HCUT := hid cut
      clear step cut
      have HS0 : Hid (Nst.At wr B 78 5 (.slice (some ⟨g, 0, none⟩) ss.length cap) ss.length (fun x => if x = j then [.int .i64 (NJ ss j).kind, .int .i64 (NJ ss j).step, .string (NJ ss j).name, .int .i64 (NJ ss j).arg, E j] else ec k0 ss E j x) ss.length (sc k0 ss E j)) := hid (HW.out.congr (fun x hx => by
        by_cases e : x = j
        · subst e; rw [if_pos rfl]; exact hej.symm
        · rw [if_neg e]) (fun _ _ => rfl))
      generalize hkk : kAt k0 ss j = k at *
      clear hml hkk hej
      have c0 := HCUT.out _ _ _ _ 0 HS0.out rfl (by omega) rfl
      replace c0 : wr.cell? ⟨g, j * 5, none⟩ = some (.int .i64 (NJ ss j).kind) := c0
      have z0 := HS0.out.free (j * 5)
      have c1 := HCUT.out _ _ _ _ 1 HS0.out rfl (by omega) rfl
      have z1 := HS0.out.free (j * 5 + 1)
      have hgl0 := (Nst.own_lt HS0.out.row (b := g) rfl).2
      have HS1 : Hid (Nst.At ((wr.setCell ⟨g, j * 5, none⟩ (.int .i64 ((k : Int)))).setCell ⟨g, j * 5 + 1, none⟩ (.int .i64 ((k : Int) + 1))) B 78 5 (.slice (some ⟨g, 0, none⟩) ss.length cap) ss.length (fun x => if x = j then [.int .i64 ((k : Int)), .int .i64 ((k : Int) + 1), .string (NJ ss j).name, .int .i64 (NJ ss j).arg, E j] else ec k0 ss E j x) ss.length (sc k0 ss E j)) := hid (HSTEP.out _ _ _ 1 (.int .i64 ((k : Int) + 1)) (HSTEP.out _ _ _ 0 (.int .i64 ((k : Int))) (HS0.out) rfl (by omega)) rfl (by omega))
      have HA1 : Hid (Sav w ((wr.setCell ⟨g, j * 5, none⟩ (.int .i64 ((k : Int)))).setCell ⟨g, j * 5 + 1, none⟩ (.int .i64 ((k : Int) + 1))) (Bl (.slice (some ⟨g, 0, none⟩) ss.length cap) ss.length E)) := hid (((HA.out).trans (Sav.set wr (j * 5) (.int .i64 ((k : Int))) HSG.out)).trans (Sav.set _ (j * 5 + 1) (.int .i64 ((k : Int) + 1)) HSG.out))
      go_wp2_with fail
      generalize ((wr.setCell ⟨g, j * 5, none⟩ (.int .i64 ((k : Int)))).setCell ⟨g, j * 5 + 1, none⟩ (.int .i64 ((k : Int) + 1))) = w2 at *
      refine (markText' _ _ (by omega) (by omega)).mono ?_
      rintro e w3 ⟨rfl, hb1⟩
      have ek : ((k : Int) + 1 + 1).toNat = k + 2 := by omega
      rw [ek]
      have HT1 := hid (HS1.out.below hb1)
      have HB1 : Hid (Sav w w3 (Bl (.slice (some ⟨g, 0, none⟩) ss.length cap) ss.length E)) := hid (HA1.out.trans (Sav.of_below hb1))
      clear hb1
      have c2 := HCUT.out _ _ _ _ 2 HT1.out rfl (by omega) rfl
      have z2 := HT1.out.free (j * 5 + 2)
      have c3 := HCUT.out _ _ _ _ 3 HT1.out rfl (by omega) rfl
      have z3 := HT1.out.free (j * 5 + 3)
      have hgl1 := (Nst.own_lt HT1.out.row (b := g) rfl).2
      have HS2 : Hid (Nst.At ((w3.setCell ⟨g, j * 5 + 2, none⟩ (.string (mt (k + 2)))).setCell ⟨g, j * 5 + 3, none⟩ (.int .i64 ((k : Int) + 1 + 1 + 1))) B 78 5 (.slice (some ⟨g, 0, none⟩) ss.length cap) ss.length (fun x => if x = j then [.int .i64 ((k : Int)), .int .i64 ((k : Int) + 1), .string (mt (k + 2)), .int .i64 ((k : Int) + 1 + 1 + 1), E j] else ec k0 ss E j x) ss.length (sc k0 ss E j)) := hid (HSTEP.out _ _ _ 3 (.int .i64 ((k : Int) + 1 + 1 + 1)) (HSTEP.out _ _ _ 2 (.string (mt (k + 2))) (HT1.out) rfl (by omega)) rfl (by omega))
      have HA2 : Hid (Sav w ((w3.setCell ⟨g, j * 5 + 2, none⟩ (.string (mt (k + 2)))).setCell ⟨g, j * 5 + 3, none⟩ (.int .i64 ((k : Int) + 1 + 1 + 1))) (Bl (.slice (some ⟨g, 0, none⟩) ss.length cap) ss.length E)) := hid (((HB1.out).trans (Sav.set w3 (j * 5 + 2) (.string (mt (k + 2))) HSG.out)).trans (Sav.set _ (j * 5 + 3) (.int .i64 ((k : Int) + 1 + 1 + 1)) HSG.out))
      have hsc : sc k0 ss E j j = nsub (E j) (NJ ss j).expr := by simp only [sc, Nat.lt_irrefl, if_false]
      have HSC := hid hsc
      obtain ⟨ae, ce, hEj⟩ : ∃ a c, E j = .slice a (NJ ss j).expr.length c := by
        have := HS2.out.sub j hlt
        rw [hsc] at this
        exact Nst.own_slice this
      have HEJ := hid hEj
      have cS : ((w3.setCell ⟨g, j * 5 + 2, none⟩ (.string (mt (k + 2)))).setCell ⟨g, j * 5 + 3, none⟩ (.int .i64 ((k : Int) + 1 + 1 + 1))).cell? ⟨g, j * 5 + 4, none⟩ = some (.slice ae (NJ ss j).expr.length ce) := by rw [← hEj]; exact HCUT.out _ _ _ _ 4 HS2.out rfl (by omega) rfl
      have cS2 : w3.cell? ⟨g, j * 5 + 4, none⟩ = some (.slice ae (NJ ss j).expr.length ce) := by rw [← hEj]; exact HCUT.out _ _ _ _ 4 HT1.out rfl (by omega) rfl
      clear hsc hEj
      go_wp2_with fail
      generalize ((w3.setCell ⟨g, j * 5 + 2, none⟩ (.string (mt (k + 2)))).setCell ⟨g, j * 5 + 3, none⟩ (.int .i64 ((k : Int) + 1 + 1 + 1))) = wS at *
      have hsub : wS.ownsRow B 115 4 (.slice ae (NJ ss j).expr.length ce) (NJ ss j).expr.length (nvals (NJ ss j).expr) := by
        have := HS2.out.sub j hlt
        rw [HSC.out, HEJ.out] at this
        exact this
      have HCA := hid (Nk.markNodesO B (k + 4) (NJ ss j).expr _ wS (by omega) (by omega) hsub)
      rw [show ((k + 4 : Nat) : Int) = (k : Int) + 1 + 1 + 1 + 1 by omega] at HCA
      clear hsub
      refine HCA.out.mono ?_
      rintro e wT ⟨rfl, hx5, hg5⟩
      have hq5 := HS2.out.setSub (q := j) hlt (xs := nvals (mkN (k + 4) (NJ ss j).expr.length)) (by rw [HSC.out, HEJ.out]; exact hx5) (by rw [HSC.out, HEJ.out]; exact hg5)
      have HS6 : Hid (SAj wT B (.slice (some ⟨g, 0, none⟩) ss.length cap) k0 ss E (j + 1)) := hid (hq5.congr (fun x hx => by
        by_cases e : x = j
        · subst e
          simp only [ec, Nat.lt_succ_self, if_true, HME.out, gncell]
          push_cast
          simp only [Int.add_assoc]
        · have e2 : (x < j + 1) = (x < j) := by simp only [eq_iff_iff]; omega
          simp only [ec, e, if_false, e2]) (fun i hi => by
        by_cases e1 : i = j
        · subst e1
          simp only [sc, Nat.lt_succ_self, if_true, if_false, HME.out, Nat.lt_irrefl]
          exact (sub_mk (E i) (k + 4) (NJ ss i).expr).symm
        · have a1 : (i < j + 1) = (i < j) := by simp only [eq_iff_iff]; omega
          simp only [sc, e1, if_false, a1]))
      have HA6 : Hid (Sav w wT (Bl (.slice (some ⟨g, 0, none⟩) ss.length cap) ss.length E)) := hid (HA2.out.trans (Sav.grown hg5 (fun b hb => by
        rw [← HEJ.out] at hb
        exact .inr ⟨j, hlt, hb⟩)))
      clear hx5 hg5 hq5 HCA
      go_wp2
      exact ⟨⟨j + 1, by simp, by rw [HKS.out]; simp, by omega, HS6, HA6⟩, by simp [intOf]; omega⟩
    · obtain rfl : j = ss.length := by omega
      have HE : Hid (GnOAt wr B (.slice (some ⟨g, 0, none⟩) ss.length cap) (mkS k0 ss) E) := hid (by
        unfold GnOAt
        rw [mkS_len]
        exact HW.out.congr (fun x hx => by simp only [ec, hx, if_true, mkS_J hx]) (fun i hi => by simp only [sc, hi, if_true, mkS_J hi]))
      go_wp2
      go_ret
      exact ⟨rfl, HE.out, HA.out⟩
set_option maxRecDepth 100000 in
set_option maxHeartbeats 2000000 in
theorem markAll (B k0 : Nat) (ss : List GNodeD) (E : Nat → Value) (v : Value) (w : World) (hn : ss.length ≤ 200000000002) (h0 : 0 < k0) (hk0 : k0 ≤ 1000) (hm : ∀ j, j < ss.length → (NJ ss j).expr.length ≤ 16) (h : GnOAt w B v ss E) :
    Calls Tryz.prog 52 #[v, .int .i64 (k0 : Int)] w fun e w' => e = .returned (.int .i64 (kAt k0 ss ss.length : Int)) ∧ GnOAt w' B v (mkS k0 ss) E ∧ Sav w w' (Bl v ss.length E) := by
  by_cases hz : 0 < ss.length
  · obtain ⟨g, cap, rfl, _, _, _, _⟩ := Nst.own_some h.row hz
    exact mark1 B g cap k0 ss E w hn h0 hk0 hm h
  · have e : ss = [] := List.eq_nil_of_length_eq_zero (by omega)
    subst e
    have H := hid h
    obtain ⟨a, cap, rfl⟩ := Nst.own_slice h.row
    clear h hm hz
    go_enter Tryz.func52, Tryz.ntmps52
    go_wp2
    go_loopw [1, 5] (fun q i wr => q = .int .i64 (k0 : Int) ∧ i = .int .i64 0 ∧ Hid (wr = w)) (fun _ _ _ => 0)
    case atStart => exact ⟨rfl, rfl, hid rfl⟩
    case round =>
      obtain ⟨rfl, rfl, HW⟩ := hrel
      go_wp2
      go_ret
      have e : wr = w := HW.out
      rw [e]
      exact ⟨rfl, H.out, Sav.refl _ _⟩
theorem mt_ne (k : Nat) : ((mt k).toList != (mt k).toList) = false := by simp
set_option maxRecDepth 100000 in
set_option maxHeartbeats 8000000 in
theorem heldAll (B k0 : Nat) (ss : List GNodeD) (v : Value) (w : World) (hn : ss.length ≤ 200000000002) (h0 : 0 < k0) (hk0 : k0 ≤ 1000) (hm : ∀ j, j < ss.length → (NJ ss j).expr.length ≤ 16) (ha : Gn.At w B v (mkS k0 ss)) :
    Calls Tryz.prog 54 #[v, .int .i64 (k0 : Int)] w fun e w' => e = .returned (.int .i64 (kAt k0 ss ss.length : Int)) ∧ Below w.heap.size w w' := by
  obtain ⟨a, cap, rfl⟩ := ha.slice
  have HA := hid ha
  have HM := hid hm
  have HK := hid (fun i (hi : i ≤ ss.length) => kAt_le (k0 := k0) hm i hi)
  have HP := hid (kAt_pos h0 ss)
  have hml := mkS_len k0 ss
  have HML := hid hml
  clear ha hm hml
  go_enter Tryz.func54, Tryz.ntmps54
  go_wp2
  go_loopw [1, 5] (fun q i wr => ∃ (j : Nat), i = .int .i64 j ∧ q = .int .i64 (kAt k0 ss j : Int) ∧ j ≤ ss.length ∧ Hid (Below w.heap.size w wr)) (fun _ i _ => ss.length - (intOf i).toNat)
  case atStart => exact ⟨0, rfl, by simp [kAt], Nat.zero_le _, hid (Below.refl _ _)⟩
  case round =>
    obtain ⟨j, rfl, rfl, hj, HB⟩ := hrel
    by_cases hlt : j < ss.length
    · have q1 : (j : Int) < ((mkS k0 ss).length : Int) := by have := HML.out; omega
      have hlt2 : j < (mkS k0 ss).length := by have := HML.out; omega
      obtain ⟨g, o, ve, rfl, hg, c0, c1, c2, c3, cS, hve⟩ := (HA.out.below HB.out).at (i := j) hlt2
      rw [mkS_get] at c0 c1 c2 c3 hve
      have hkj := HK.out j (by omega)
      have hpj := HP.out j
      have hmj := HM.out j hlt
      have HKS : Hid (kAt k0 ss (j + 1) = kAt k0 ss j + 4 + 4 * (NJ ss j).expr.length) := hid rfl
      replace c0 : wr.cell? ⟨g, o + j * 5, none⟩ = some (.int .i64 (kAt k0 ss j : Int)) := c0
      replace c1 : wr.cell? ⟨g, o + j * 5 + 1, none⟩ = some (.int .i64 ((kAt k0 ss j + 1 : Nat) : Int)) := c1
      replace c2 : wr.cell? ⟨g, o + j * 5 + 2, none⟩ = some (.string (mt (kAt k0 ss j + 2))) := c2
      replace c3 : wr.cell? ⟨g, o + j * 5 + 3, none⟩ = some (.int .i64 ((kAt k0 ss j + 3 : Nat) : Int)) := c3
      replace hve : Nd.At wr B ve (mkN (kAt k0 ss j + 4) (NJ ss j).expr.length) := hve
      obtain ⟨a3, cap3, rfl⟩ := hve.slice
      have HVE := hid hve
      generalize hkk : kAt k0 ss j = k at *
      clear hkk hve
      have b0 : ((k : Int) != (k : Int)) = false := by simp
      have d1 : (((k + 1 : Nat) : Int) != (k : Int) + 1) = false := by simp; try omega
      have f1 : ((k : Int) + 1 != (k : Int) + 1) = false := by simp; try omega
      have d3 : (((k + 3 : Nat) : Int) != (k : Int) + 1 + 1 + 1) = false := by simp; try omega
      have f3 : ((k : Int) + 3 != (k : Int) + 1 + 1 + 1) = false := by simp; try omega
      have HM1 := hid (fun wx => markText' ((k : Int) + 1 + 1) wx (by omega) (by omega))
      rw [show ((k : Int) + 1 + 1).toNat = k + 2 by omega] at HM1
      have hn1 := mt_ne (k + 2)
      go_wp2_with fail
      have t0 : wr.drew.cell? ⟨g, o + j * 5 + 2, none⟩ = some (.string (mt (k + 2))) := c2
      have t3d : wr.drew.cell? ⟨g, o + j * 5 + 3, none⟩ = some (.int .i64 ((k + 3 : Nat) : Int)) := c3
      have tSd : wr.drew.cell? ⟨g, o + j * 5 + 4, none⟩ = some (.slice a3 (mkN (k + 4) (NJ ss j).expr.length).length cap3) := cS
      have hgd : g < wr.drew.heap.size := hg
      have HBd : Hid (Below w.heap.size w wr.drew) := hid HB.out.drew
      have hDr : Below wr.heap.size wr wr.drew := (Below.refl _ wr).drew
      have hWd : w.heap.size ≤ wr.drew.heap.size := HB.out.size
      refine wp_region_held_drew (S := fun wx => wx.cell? ⟨g, o + j * 5 + 2, none⟩ = some (.string (mt (k + 2))) ∧ Below w.heap.size w wx) (by kernel_rfl) ⟨t0, HBd.out⟩ (fun hHeld => ?_)
      refine wpAnyH_take (i := 0) (oi := { dst := some 30, op := Go.Op.move (Go.Operand.tmp 0), type := 24, pos := "exact.go:851", after := #[], guard := none }) (v := .slice (some ⟨g, o, none⟩) (mkS k0 ss).length cap) rfl (by kernel_rfl) (by kernel_rfl) (by kernel_rfl) (fun _ _ _ h => h) (Or.inl ⟨by rfl, by intro w hSw; (try dsimp only at hSw); go_simp⟩) (by assumption) ?_
      simp only [Act.put, List.setIfInBounds_toArray, List.set_cons_zero, List.set_cons_succ]
      refine wpAnyH_take (i := 1) (oi := { dst := some 31, op := Go.Op.move (Go.Operand.tmp 5), type := 3, pos := "exact.go:851", after := #[], guard := none }) (v := .int .i64 (j : Int)) rfl (by kernel_rfl) (by kernel_rfl) (by kernel_rfl) (fun _ _ _ h => h) (Or.inl ⟨by rfl, by intro w hSw; (try dsimp only at hSw); go_simp⟩) (by assumption) ?_
      simp only [Act.put, List.setIfInBounds_toArray, List.set_cons_zero, List.set_cons_succ]
      refine wpAnyH_take (i := 2) (oi := { dst := some 32, op := Go.Op.indexAddr 24 (Go.Operand.tmp 30) (Go.Operand.tmp 31), type := 0, pos := "exact.go:851", after := #[{ on := 0, ground := Go.Ground.data }, { on := 1, ground := Go.Ground.data }], guard := none }) (v := .pointer (some ⟨g, o + j * 5, none⟩)) rfl (by kernel_rfl) (by kernel_rfl) (by kernel_rfl) (fun _ _ _ h => h) (Or.inl ⟨by rfl, by intro w hSw; (try dsimp only at hSw); go_simp⟩) (by assumption) ?_
      simp only [Act.put, List.setIfInBounds_toArray, List.set_cons_zero, List.set_cons_succ]
      refine wpAnyH_take (i := 3) (oi := { dst := some 33, op := Go.Op.fieldAddr 78 (Go.Operand.tmp 32) 2, type := 0, pos := "exact.go:851", after := #[{ on := 2, ground := Go.Ground.data }], guard := none }) (v := .pointer (some ⟨g, o + j * 5 + 2, none⟩)) rfl (by kernel_rfl) (by kernel_rfl) (by kernel_rfl) (fun _ _ _ h => h) (Or.inl ⟨by rfl, by intro w hSw; (try dsimp only at hSw); go_simp⟩) (by assumption) ?_
      simp only [Act.put, List.setIfInBounds_toArray, List.set_cons_zero, List.set_cons_succ]
      refine wpAnyH_take (i := 4) (oi := { dst := some 34, op := Go.Op.load 9 (Go.Operand.tmp 33), type := 9, pos := "exact.go:851", after := #[{ on := 3, ground := Go.Ground.data }], guard := none }) (v := .string (mt (k + 2))) rfl (by kernel_rfl) (by kernel_rfl) (by kernel_rfl) (fun _ _ _ h => h) (Or.inl ⟨by rfl, by intro w hSw; (try dsimp only at hSw); go_simp⟩) (by assumption) ?_
      simp only [Act.put, List.setIfInBounds_toArray, List.set_cons_zero, List.set_cons_succ]
      refine wpAnyH_take (i := 5) (oi := { dst := some 35, op := Go.Op.move (Go.Operand.tmp 1), type := 3, pos := "exact.go:851", after := #[], guard := none }) (v := .int .i64 ((k : Int) + 1 + 1)) rfl (by kernel_rfl) (by kernel_rfl) (by kernel_rfl) (fun _ _ _ h => h) (Or.inl ⟨by rfl, by intro w hSw; (try dsimp only at hSw); go_simp⟩) (by assumption) ?_
      simp only [Act.put, List.setIfInBounds_toArray, List.set_cons_zero, List.set_cons_succ]
      refine wpAnyH_ready (rs := [6]) (by kernel_rfl) (by simp) ?_
      refine AllReadyH.cons (o := { dst := some 36, op := Go.Op.call { callee := Go.Callee.value (Go.Operand.func 24), args := #[Go.Operand.tmp 35], argTypes := #[3] }, type := 9, pos := "exact.go:851", after := #[{ on := 5, ground := Go.Ground.data }], guard := none }) rfl (fun K hK => ?_) AllReadyH.nil
      go_simp
      go_at_call 24
      refine (HM1.out _).mono ?_
      rintro e w1 ⟨rfl, hb1⟩
      have g0 := kept_cell hb1 hgd t0
      have HB1 := hid (HBd.out.trans (hb1.mono hWd))
      have hbr : Below wr.heap.size wr w1 := hDr.trans hb1
      have l1 : wr.heap.size ≤ w1.heap.size := hb1.size
      have t3 := kept_cell hb1 hgd t3d
      have tS := kept_cell hb1 hgd tSd
      clear hb1
      go_wp2_with fail
      refine hK.out _ _ ⟨g0, HB1.out⟩ (fun hHeld => ?_)
      clear hK K
      try simp only [Act.put, List.setIfInBounds_toArray, List.set_cons_zero, List.set_cons_succ]
      refine wpAnyH_take (i := 7) (oi := { dst := some 37, op := Go.Op.binOp Go.BinOp.neq 9 (Go.Operand.tmp 34) (Go.Operand.tmp 36) 9, type := 4, pos := "exact.go:851", after := #[{ on := 4, ground := Go.Ground.data }, { on := 6, ground := Go.Ground.data }], guard := none }) (v := .bool false) rfl (by kernel_rfl) (by kernel_rfl) (by kernel_rfl) (fun _ _ _ h => h) (Or.inl ⟨by rfl, by intro w hSw; (try dsimp only at hSw); go_simp⟩) (by assumption) ?_
      simp only [Act.put, List.setIfInBounds_toArray, List.set_cons_zero, List.set_cons_succ]
      refine wpAnyH_done (by kernel_rfl) ?_ _
      have hg1 : g < w1.heap.size := Nat.lt_of_lt_of_le hg l1
      have HHC := hid (heldNodes B (NJ ss j).expr.length (k + 4) _ w1 (by omega) (by omega) (HVE.out.below hbr))
      rw [show ((k + 4 : Nat) : Int) = (k : Int) + 1 + 1 + 1 + 1 by omega] at HHC
      go_wp2_with fail
      refine HHC.out.mono ?_
      rintro e w2 ⟨rfl, hb2⟩
      have HB2 := hid (HB1.out.trans (hb2.mono HB1.out.size))
      have b6 : ¬ ((k + 4 + 4 * (NJ ss j).expr.length : Nat) : Int) < 0 := by omega
      clear hb2 HHC
      go_wp2
      exact ⟨⟨j + 1, by simp, by rw [HKS.out]; simp, by omega, HB2⟩, by simp [intOf]; omega⟩
    · obtain rfl : j = ss.length := by omega
      have q1 : ¬ (ss.length : Int) < ((mkS k0 ss).length : Int) := by have := HML.out; omega
      go_wp2
      go_ret
      exact ⟨rfl, HB.out⟩
end GnK
end Go.Proofs.YtfgckeoigkoflaaGreatDoor
