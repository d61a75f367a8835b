/- VarsIn of the specification. -/
import Derived.Test.YtalplnbkijmahaiVaB
namespace Go.Proofs.Ytalplnbkijmahai
open Go.RowKit
set_option linter.unusedVariables false
namespace Ex
open Nd (NodeD)
open Ints (vals IntsAt)
set_option maxRecDepth 100000 in
set_option maxHeartbeats 8000000 in
theorem specVarsIn (B : Nat) (ns : List NodeD) (v : Value) (w : World) (hl : ns.length ≤ 1048576) (ha : Nd.At w B v ns) :
    Calls Try.prog 17 #[v] w fun e w' => (∃ u, e = .returned (.agg #[.int .i64 (eFault ns), u]) ∧ w'.ownsRow (w.heap.size + 1) 2 1 u (varList ns).length (vals (varList ns))) ∧ Below w.heap.size w w' := by
  obtain ⟨a, cap, rfl⟩ := ha.slice
  obtain ⟨j0, hj, hy0, hy1, hy2⟩ := info_parts infoI64
  have hb0 : Below w.heap.size w (w.alloc (.cells #[.int .i64 0, .slice none 0 0] 38)) := (Below.refl _ w).alloc (Nat.le_refl _) _
  have HF := hid (specFault1 B ns _ (w.alloc (.cells #[.int .i64 0, .slice none 0 0] 38)) hl (ha.below hb0))
  have HA := hid ha
  clear ha
  go_enter Try.func17, Try.ntmps17
  go_wp2_with fail
  refine HF.out.mono ?_
  rintro e w1 ⟨rfl, hb1⟩
  have B1 : Below w.heap.size w w1 := hb0.trans (hb1.mono (by simp))
  simp only [World.size_alloc] at hb1
  have l1 : w.heap.size < w1.heap.size := by have := hb1.size; simp at this; omega
  have r0 := kept_cell hb1 (b := w.heap.size) (o := 0) (v := .int .i64 0) (by omega) (by go_simp)
  have r1 := kept_cell hb1 (b := w.heap.size) (o := 1) (v := .slice none 0 0) (by omega) (by go_simp)
  have f0 := kept_free hb1 (b := w.heap.size) (o := 0) (by omega) (by go_simp)
  have f1 := kept_free hb1 (b := w.heap.size) (o := 1) (by omega) (by go_simp)
  clear HF
  by_cases hf : eFault ns = 0
  · have b1 : (eFault ns != 0) = false := by simp [hf]
    have HFZ := hid hf
    have HVL := hid (varList_ok hf)
    have hl16 := (of_e hf).2.1
    clear hf
    generalize hef : eFault ns = ef at *
    have HEF := hid hef
    clear hef
    have hal : Below w1.heap.size w1 (w1.alloc (.cells #[.int .i64 0, .slice none 0 0] 38)) := (Below.refl _ w1).alloc (Nat.le_refl _) _
    have B2 : Below w.heap.size w (w1.alloc (.cells #[.int .i64 0, .slice none 0 0] 38)) := B1.trans (hal.mono B1.size)
    have m0 := kept_cell hal l1 r0
    have m1 := kept_cell hal l1 r1
    have n0 := kept_free hal l1 f0
    have n1 := kept_free hal l1 f1
    have o0 : (w1.alloc (.cells #[.int .i64 0, .slice none 0 0] 38)).cell? ⟨w1.heap.size, 0, none⟩ = some (.int .i64 0) := by go_simp
    have o1 : (w1.alloc (.cells #[.int .i64 0, .slice none 0 0] 38)).cell? ⟨w1.heap.size, 1, none⟩ = some (.slice none 0 0) := by go_simp
    have p1 : (w1.alloc (.cells #[.int .i64 0, .slice none 0 0] 38)).frozen? ⟨w1.heap.size, 1, none⟩ = false := by go_simp
    have l2 : w1.heap.size < (w1.alloc (.cells #[.int .i64 0, .slice none 0 0] 38)).heap.size := by simp
    go_wp2
    generalize w1.alloc (.cells #[.int .i64 0, .slice none 0 0] 38) = w2 at *
    generalize w1.heap.size = G at *
    clear r0 r1 f0 f1 hal hb1
    go_loopw [5, 6] (fun x _ wr => ∃ k : Nat, x = .int .i64 k ∧ k ≤ 4 ∧ (∃ a5 c5, wr.cell? ⟨G, 1, none⟩ = some (.slice a5 (varsTo ns k).length c5) ∧ Hid (wr.ownsRow (G + 1) 2 1 (.slice a5 (varsTo ns k).length c5) (varsTo ns k).length (vals (varsTo ns k)))) ∧ Hid (Below w.heap.size w wr) ∧ G < wr.heap.size ∧ wr.cell? ⟨w.heap.size, 0, none⟩ = some (.int .i64 0) ∧ wr.cell? ⟨w.heap.size, 1, none⟩ = some (.slice none 0 0) ∧ wr.frozen? ⟨w.heap.size, 0, none⟩ = false ∧ wr.frozen? ⟨w.heap.size, 1, none⟩ = false ∧ wr.cell? ⟨G, 0, none⟩ = some (.int .i64 0) ∧ wr.frozen? ⟨G, 1, none⟩ = false) (fun x _ _ => 4 - (intOf x).toNat)
    case atStart => exact ⟨0, rfl, by omega, ⟨_, _, o1, hid (World.ownsRow_nil w2 _ _ 1)⟩, hid B2, l2, m0, m1, n0, n1, o0, p1⟩
    case round =>
      obtain ⟨k, rfl, hk, ⟨a5, c5, ct, HO⟩, HB, lr, c0, c1, d0, d1, e0, e1⟩ := hrel
      have hvl := varsTo_len ns k
      have hrw : w.heap.size < wr.heap.size := by omega
      clear m0 m1 n0 n1 o0 o1 p1
      by_cases hlt : k < 4
      · have q1 : (k : Int) < 4 := by omega
        go_wp2
        go_loop [6] (fun y => ∃ i : Nat, y = .int .i64 i ∧ i ≤ ns.length ∧ Hid (∀ j (hj : j < ns.length), j < i → isVar k ns[j] = false)) (fun y => ns.length - (intOf y).toNat)
        case atStart => exact ⟨0, rfl, Nat.zero_le _, hid (fun j _ h => by omega)⟩
        case round =>
          obtain ⟨i, rfl, hi, HJ⟩ := hrel
          by_cases hli : i < ns.length
          · obtain ⟨g, o, rfl, hg, x0, x1, x2, x3⟩ := (HA.out.below HB.out).at hli
            have q2 : (i : Int) < (ns.length : Int) := by omega
            have HVE : Hid (isVar k ns[i] = ((ns[i].kind == 2) && (ns[i].value == (k : Int)))) := hid rfl
            have HJ2 : Hid (isVar k ns[i] = false → ∀ j (hj : j < ns.length), j < i + 1 → isVar k ns[j] = false) := hid (fun h j hj hji => by
              by_cases e : j = i
              · subst e; exact h
              · exact HJ.out j hj (by omega))
            have HV := hid (fun (h : isVar k ns[i] = true) => vars_yes (ns := ns) (v := k) (any_at hli h))
            generalize ns[i] = nd at *
            cases y1 : (nd.kind == 2)
            · have HJ3 := hid (HJ2.out (by rw [HVE.out, y1]; rfl))
              clear HVE HJ2 HV
              go_wp2
              exact ⟨⟨i + 1, by simp, by omega, HJ3⟩, by simp [intOf]; omega⟩
            · cases y2 : (nd.value == (k : Int))
              · have HJ3 := hid (HJ2.out (by rw [HVE.out, y1, y2]; rfl))
                clear HVE HJ2 HV
                go_wp2
                exact ⟨⟨i + 1, by simp, by omega, HJ3⟩, by simp [intOf]; omega⟩
              · have HV3 := hid (HV.out (by rw [HVE.out, y1, y2]; rfl))
                clear HVE HJ2 HV
                have hown := HO.out
                have hz := HB.out.size
                generalize varsTo ns k = ks at *
                have halw : Below wr.heap.size wr (wr.alloc (.cells #[.int .i64 (k : Int)] 2)) := (Below.refl _ wr).alloc (Nat.le_refl _) _
                have hneG : (Value.slice a5 ks.length c5).ownBlock ≠ some G := fun e => by have := (own_lt hown e).1; omega
                have hneW : (Value.slice a5 ks.length c5).ownBlock ≠ some w.heap.size := fun e => by have := (own_lt hown e).1; omega
                go_wp2_with (at_builtin; go_must (refine wpList_append_own _ rfl _ _ 32 rfl (G + 1) 2 j0 (.int .i64 0) 1 8 Try.underlying32 hj hy0 hy1 hy2 rfl (by decide) _ _ _ rfl (hown.alloc _) ⟨wr.heap.size, 0, none⟩ 1 1 [.int .i64 (k : Int)] rfl rfl (cell_one_new _ _ _) (by simp [Value.oneCell']) (by unfold maxLen; omega) (by omega) (by simp; omega) ?_); intro v' w3 hown' hgrow _; obtain ⟨g9, c9, rfl⟩ := ownsRow_succ hown'; have z1 := grown_cell hgrow (kept_cell halw lr ct) hneG; have z2 := grown_free hgrow (by simp; omega) (kept_free halw lr e1) hneG)
                have hB3 : Below w.heap.size w w3 := (HB.out.alloc hz _).grown hgrow (by simp; omega) (fun b e => by have := (own_lt hown e).1; omega)
                have l3 : G < w3.heap.size := by have := hgrow.size; simp at this; omega
                refine ⟨⟨k + 1, by simp, by omega, ⟨some ⟨g9, 0, none⟩, c9, ?_, hid ?_⟩, hid (setB hB3 (by omega) _), by simpa [World.setCell] using l3, set_cell (by omega) (grown_cell hgrow (kept_cell halw hrw c0) hneW), set_cell (by omega) (grown_cell hgrow (kept_cell halw hrw c1) hneW), set_free (by omega) (grown_free hgrow (by simp; omega) (kept_free halw hrw d0) hneW), set_free (by omega) (grown_free hgrow (by simp; omega) (kept_free halw hrw d1) hneW), ?_, ?_⟩, by simp [intOf]; omega⟩
                · rw [HV3.out, List.length_append]
                  apply World.cell?_setCell_same
                  exact z1
                · rw [HV3.out, vals_snoc, List.length_append]
                  exact own_set hown' (by omega)
                · refine Eq.trans (World.cell?_setCell_other _ _ _ _ (by simp)) ?_
                  exact grown_cell hgrow (kept_cell halw lr e0) hneG
                · rw [World.frozen?_setCell]
                  exact z2
          · have HV := hid (vars_no (ns := ns) (v := k) (any_none (fun j hj => HJ.out j hj (by omega))))
            go_wp2
            exact ⟨⟨k + 1, by simp, by omega, ⟨a5, c5, by rw [HV.out]; exact ct, hid (by rw [HV.out]; exact HO.out)⟩, HB, lr, c0, c1, d0, d1, e0, e1⟩, by simp [intOf]; omega⟩
      · have hk4 : k = 4 := by omega
        have HK := hid hk4
        clear hk4
        have HO4 : Hid ((wr.setCell ⟨w.heap.size, 0, none⟩ (.int .i64 0)).setCell ⟨w.heap.size, 1, none⟩ (.slice a5 (varsTo ns k).length c5) |>.ownsRow (w.heap.size + 1) 2 1 (.slice a5 (varsTo ns k).length c5) (varsTo ns k).length (vals (varsTo ns k))) := hid (own_mono (own_set (own_set HO.out (by omega)) (by omega)) (by omega))
        go_wp2
        refine bodyPost_ret (v := .agg #[.int .i64 0, .slice a5 (varsTo ns k).length c5]) (by simp [results, Try.results17, go_sem, c0, c1]) rfl ⟨⟨_, ret_ints (HFZ.out.symm.trans HEF.out.symm), ?_⟩, setB (setB HB.out (Nat.le_refl _) _) (Nat.le_refl _) _⟩
        rw [HVL.out, ← HK.out]
        exact HO4.out
  · have b1 : (eFault ns != 0) = true := by simpa using hf
    have HVL := hid (varList_bad hf)
    clear hf
    generalize hef : eFault ns = ef at *
    have HEF := hid hef
    clear hef
    go_wp2
    refine bodyPost_ret (v := .agg #[.int .i64 ef, .slice none 0 0]) (by simp [results, Try.results17, go_sem, r0, r1]) rfl ⟨⟨_, ret_ints HEF.out.symm, ?_⟩, setB (setB B1 (Nat.le_refl _) _) (Nat.le_refl _) _⟩
    rw [HVL.out]
    exact World.ownsRow_nil _ _ _ 1
end Ex
end Go.Proofs.Ytalplnbkijmahai
