/- VarsIn of the program and of the specification. -/
import Derived.Test.YtpegbiggmjepgaaVaA
namespace Go.Proofs.Ytpegbiggmjepgaa
open Go.RowKit
set_option linter.unusedVariables false
namespace Ex
open Nd (NodeD)
open Ints (vals IntsAt)
theorem grown_cell {w w' : World} {row : Option Nat} {b o : Nat} {v : Value} (h : w.grownBy w' row) (hc : w.cell? ⟨b, o, none⟩ = some v) (hr : row ≠ some b) : w'.cell? ⟨b, o, none⟩ = some v := by
  have hb : b < w.heap.size := by
    rcases Nat.lt_or_ge b w.heap.size with h1 | h1
    · exact h1
    · simp [World.cell?, Array.getElem?_eq_none h1] at hc
  simp only [World.cell?] at hc ⊢
  rw [h.block b hb (fun e => hr e.symm)]
  exact hc
theorem grown_free {w w' : World} {row : Option Nat} {b o : Nat} (h : w.grownBy w' row) (hb : b < w.heap.size) (hc : w.frozen? ⟨b, o, none⟩ = false) (hr : row ≠ some b) : w'.frozen? ⟨b, o, none⟩ = false := by
  simp only [World.frozen?] at hc ⊢
  rw [h.block b hb (fun e => hr e.symm)]
  exact hc
theorem set_cell {w : World} {g c b o : Nat} {u v : Value} (hne : b ≠ g) (hc : w.cell? ⟨b, o, none⟩ = some v) : (w.setCell ⟨g, c, none⟩ u).cell? ⟨b, o, none⟩ = some v := by
  simp only [World.cell?] at hc ⊢
  rw [Below.heap_setCell _ _ _ _ hne]
  exact hc
theorem set_free {w : World} {g c b o : Nat} {u : Value} (hne : b ≠ g) (hc : w.frozen? ⟨b, o, none⟩ = false) : (w.setCell ⟨g, c, none⟩ u).frozen? ⟨b, o, none⟩ = false := by
  simp only [World.frozen?] at hc ⊢
  rw [Below.heap_setCell _ _ _ _ hne]
  exact hc
theorem own_set {w : World} {B n b c sz : Nat} {e : TypeId} {v u : Value} {xs : List Value} (h : w.ownsRow B e sz v n xs) (hb : b < B) : (w.setCell ⟨b, c, none⟩ u).ownsRow B e sz v n xs := ownsRow_setCell_below h (a := ⟨b, c, none⟩) hb u
theorem own_mono {w : World} {B B' n : Nat} {e : TypeId} {sz : Nat} {v : Value} {xs : List Value} (h : w.ownsRow B e sz v n xs) (hb : B' ≤ B) : w.ownsRow B' e sz v n xs := by
  refine ⟨h.1, ?_⟩
  rcases h.2 with h | ⟨g, cap, cur, rfl, h1, r⟩
  · exact .inl h
  · exact .inr ⟨g, cap, cur, rfl, Nat.le_trans hb h1, r⟩
theorem ret_ints {c d : Int} {v : Value} (h : c = d) : Ending.returned (.agg #[.int .i64 c, v]) = .returned (.agg #[.int .i64 d, v]) := by rw [h]
theorem varList_ok {ns : List NodeD} (h : eFault ns = 0) : varList ns = varsTo ns 4 := by unfold varList; rw [if_pos h]
theorem varList_bad {ns : List NodeD} (h : eFault ns ≠ 0) : varList ns = [] := by unfold varList; rw [if_neg h]
theorem vals_snoc (l : List Int) (x : Int) : vals (l ++ [x]) = vals l ++ [.int .i64 x] := by simp [vals]
set_option maxRecDepth 100000 in
set_option maxHeartbeats 4000000 in
theorem implVarsIn (B : Nat) (ns : List NodeD) (v : Value) (w : World) (hl : ns.length ≤ 1048576) (ha : Nd.At w B v ns) :
    Calls Try.prog 10 #[v] w fun e w' => (∃ u, e = .returned (.agg #[.int .i64 (eFault ns), u]) ∧ w'.ownsRow (w.heap.size + 1) 2 1 u (varList ns).length (vals (varList ns))) ∧ Below w.heap.size w w' := by
  obtain ⟨a, cap, rfl⟩ := ha.slice
  obtain ⟨j0, hj, hy0, hy1, hy2⟩ := info_parts infoI64
  have hb0 : Below w.heap.size w (w.alloc (.cells #[.int .i64 0, .slice none 0 0] 33)) := (Below.refl _ w).alloc (Nat.le_refl _) _
  have HF := hid (implExprFault B ns _ (w.alloc (.cells #[.int .i64 0, .slice none 0 0] 33)) hl (ha.below hb0))
  have HA := hid ha
  clear ha
  go_enter Try.func10, Try.ntmps10
  go_wp2_with fail
  refine HF.out.mono ?_
  rintro e w1 ⟨rfl, hb1⟩
  have B1 : Below w.heap.size w w1 := hb0.trans (hb1.mono (by simp))
  simp only [World.size_alloc] at hb1
  have l1 : w.heap.size < w1.heap.size := by have := hb1.size; simp at this; omega
  have r0 := kept_cell hb1 (b := w.heap.size) (o := 0) (v := .int .i64 0) (by omega) (by go_simp)
  have r1 := kept_cell hb1 (b := w.heap.size) (o := 1) (v := .slice none 0 0) (by omega) (by go_simp)
  have f0 := kept_free hb1 (b := w.heap.size) (o := 0) (by omega) (by go_simp)
  have f1 := kept_free hb1 (b := w.heap.size) (o := 1) (by omega) (by go_simp)
  clear HF
  by_cases hf : eFault ns = 0
  · have b1 : (eFault ns != 0) = false := by simp [hf]
    have HFZ := hid hf
    have HVL := hid (varList_ok hf)
    have HAN := hid (fun (x : Int) => any_eqN (of_e hf).2.2 x)
    clear hf
    generalize hef : eFault ns = ef at *
    have HEF := hid hef
    clear hef
    go_wp2
    go_loopw [4, 5, 12] (fun t _ x wr => ∃ k : Nat, x = .int .i64 k ∧ k ≤ 4 ∧ (∃ a5 c5, t = .slice a5 (varsTo ns k).length c5) ∧ Hid (wr.ownsRow (w.heap.size + 1) 2 1 t (varsTo ns k).length (vals (varsTo ns k))) ∧ Hid (Below w.heap.size w wr) ∧ w.heap.size < wr.heap.size ∧ wr.cell? ⟨w.heap.size, 0, none⟩ = some (.int .i64 0) ∧ wr.cell? ⟨w.heap.size, 1, none⟩ = some (.slice none 0 0) ∧ wr.frozen? ⟨w.heap.size, 0, none⟩ = false ∧ wr.frozen? ⟨w.heap.size, 1, none⟩ = false) (fun _ _ x _ => 4 - (intOf x).toNat)
    case atStart => exact ⟨0, rfl, by omega, ⟨_, _, rfl⟩, hid (World.ownsRow_nil w1 _ _ 1), hid B1, l1, r0, r1, f0, f1⟩
    case round =>
      obtain ⟨k, rfl, hk, ⟨a5, c5, rfl⟩, HO, HB, lr, c0, c1, d0, d1⟩ := hrel
      have hvl := varsTo_len ns k
      clear r0 r1 f0 f1
      by_cases hlt : k < 4
      · have q1 : (k : Int) < 4 := by omega
        have HC := hid (implContains B ns ⟨2, (k : Int), 0, 0⟩ _ wr hl (HA.out.below HB.out))
        rw [HAN.out (k : Int)] at HC
        cases hh : hasVar ns k
        · have HV := hid (vars_no hh)
          rw [hh] at HC
          clear hh
          go_wp2_with fail
          refine HC.out.mono ?_
          rintro e w2 ⟨rfl, hb2⟩
          have e0 := kept_cell hb2 lr c0
          have e1 := kept_cell hb2 lr c1
          have g0 := kept_free hb2 lr d0
          have g1 := kept_free hb2 lr d1
          have HB2 := hid (HB.out.trans (hb2.mono HB.out.size))
          have HO2 := hid (Ints.owns_below HO.out hb2)
          have l2 : w.heap.size < w2.heap.size := by have := hb2.size; omega
          clear HC c0 c1 d0 d1
          go_wp2
          exact ⟨⟨k + 1, by simp, by omega, ⟨a5, c5, by rw [HV.out]⟩, hid (by rw [HV.out]; exact HO2.out), HB2, l2, e0, e1, g0, g1⟩, by simp [intOf]; omega⟩
        · have HV := hid (vars_yes hh)
          rw [hh] at HC
          clear hh
          go_wp2_with fail
          refine HC.out.mono ?_
          rintro e w2 ⟨rfl, hb2⟩
          have e0 := kept_cell hb2 lr c0
          have e1 := kept_cell hb2 lr c1
          have g0 := kept_free hb2 lr d0
          have g1 := kept_free hb2 lr d1
          have HB2 := hid (HB.out.trans (hb2.mono HB.out.size))
          have hown := Ints.owns_below HO.out hb2
          have hz := HB2.out.size
          have l2 : w.heap.size < w2.heap.size := by have := hb2.size; omega
          clear HC c0 c1 d0 d1
          generalize varsTo ns k = ks at *
          go_wp2_with (at_builtin; go_must (refine wpList_append_own _ rfl _ _ 25 rfl (w.heap.size + 1) 2 j0 (.int .i64 0) 1 8 Try.underlying25 hj hy0 hy1 hy2 rfl (by decide) _ _ _ rfl (hown.alloc _) ⟨w2.heap.size, 0, none⟩ 1 1 [.int .i64 (k : Int)] rfl rfl (cell_one_new _ _ _) (by simp [Value.oneCell']) (by unfold maxLen; omega) (by omega) (by simp; omega) ?_); intro v' w3 hown' hgrow _; obtain ⟨g9, c9, rfl⟩ := ownsRow_succ hown')
          have hne : (Value.slice a5 ks.length c5).ownBlock ≠ some w.heap.size := fun e => by have := (own_lt hown e).1; omega
          have hal : Below w2.heap.size w2 (w2.alloc (.cells #[.int .i64 (k : Int)] 2)) := (Below.refl _ w2).alloc (Nat.le_refl _) _
          have hB3 : Below w.heap.size w w3 := (HB2.out.alloc hz _).grown hgrow (by simp; omega) (fun b e => Nat.le_trans (Nat.le_succ _) (own_lt hown e).1)
          have l3 : w.heap.size < w3.heap.size := by have := hgrow.size; simp at this; omega
          refine ⟨⟨k + 1, by simp, by omega, ⟨some ⟨g9, 0, none⟩, c9, by rw [HV.out, List.length_append]; rfl⟩, hid ?_, hid hB3, l3, grown_cell hgrow (kept_cell hal l2 e0) hne, grown_cell hgrow (kept_cell hal l2 e1) hne, grown_free hgrow (by simp; omega) (kept_free hal l2 g0) hne, grown_free hgrow (by simp; omega) (kept_free hal l2 g1) hne⟩, by simp [intOf]; omega⟩
          rw [HV.out, vals_snoc, List.length_append]
          exact hown'
      · have hk4 : k = 4 := by omega
        have HK := hid hk4
        clear hk4
        have HO4 : Hid ((wr.setCell ⟨w.heap.size, 0, none⟩ (.int .i64 0)).setCell ⟨w.heap.size, 1, none⟩ (.slice a5 (varsTo ns k).length c5) |>.ownsRow (w.heap.size + 1) 2 1 (.slice a5 (varsTo ns k).length c5) (varsTo ns k).length (vals (varsTo ns k))) := hid (own_set (own_set HO.out (by omega)) (by omega))
        go_wp2
        refine bodyPost_ret (v := .agg #[.int .i64 0, .slice a5 (varsTo ns k).length c5]) (by simp [results, Try.results10, go_sem, c0, c1]) rfl ⟨⟨_, ret_ints (HFZ.out.symm.trans HEF.out.symm), ?_⟩, setB (setB HB.out (Nat.le_refl _) _) (Nat.le_refl _) _⟩
        rw [HVL.out, ← HK.out]
        exact HO4.out
  · have b1 : (eFault ns != 0) = true := by simpa using hf
    have HVL := hid (varList_bad hf)
    clear hf
    generalize hef : eFault ns = ef at *
    have HEF := hid hef
    clear hef
    go_wp2
    refine bodyPost_ret (v := .agg #[.int .i64 ef, .slice none 0 0]) (by simp [results, Try.results10, go_sem, r0, r1]) rfl ⟨⟨_, ret_ints HEF.out.symm, ?_⟩, setB (setB B1 (Nat.le_refl _) _) (Nat.le_refl _) _⟩
    rw [HVL.out]
    exact World.ownsRow_nil _ _ _ 1
end Ex
end Go.Proofs.Ytpegbiggmjepgaa
