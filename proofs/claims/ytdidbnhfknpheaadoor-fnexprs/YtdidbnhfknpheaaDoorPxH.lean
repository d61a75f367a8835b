/- The program's ParseExpr. -/
import Derived.Test.YtdidbnhfknpheaaDoorPxG
namespace Go.Proofs.YtdidbnhfknpheaaDoor
open Go.RowKit
set_option linter.unusedVariables false
namespace Ex
open Nd (NodeD)
theorem Rd.c1 {w : World} {R : Nat} {rest : List UInt8} {ns : List NodeD} (h : Rd w R rest ns) : ∃ a cap, w.cell? ⟨R, 0, none⟩ = some (.string (str rest)) ∧ w.cell? ⟨R, 1, none⟩ = some (.slice a ns.length cap) ∧ w.ownsRow (R + 1) 35 4 (.slice a ns.length cap) ns.length (nvals ns) := by
  obtain ⟨v, h1, h2⟩ := h
  obtain ⟨a, cap, rfl⟩ := own4_slice h2
  exact ⟨a, cap, by simp [World.cell?, h1], by simp [World.cell?, h1], h2⟩
theorem own_mono2 {w : World} {B B' n : Nat} {e : TypeId} {sz : Nat} {v : Value} {xs : List Value} (h : w.ownsRow B e sz v n xs) (hb : B' ≤ B) : w.ownsRow B' e sz v n xs := by
  refine ⟨h.1, ?_⟩
  rcases h.2 with h | ⟨g, cap, cur, rfl, h1, r⟩
  · exact .inl h
  · exact .inr ⟨g, cap, cur, rfl, Nat.le_trans hb h1, r⟩
theorem own_set2 {w : World} {B n b c sz : Nat} {e : TypeId} {v u : Value} {xs : List Value} (h : w.ownsRow B e sz v n xs) (hb : b < B) : (w.setCell ⟨b, c, none⟩ u).ownsRow B e sz v n xs := ownsRow_setCell_below h (a := ⟨b, c, none⟩) hb u
theorem ret_expr {c d : Int} {v : Value} (h : c = d) : Ending.returned (.agg #[.int .i64 c, v]) = .returned (.agg #[.int .i64 d, v]) := by rw [h]
set_option maxRecDepth 100000 in
set_option maxHeartbeats 4000000 in
theorem implParse (l : List UInt8) (w : World) (hl : l.length ≤ 1048576) : Calls Tryd.prog 6 #[.string (str l)] w (PxPost l w) := by
  have e1 : (str l).size = l.length := str_size l
  have hb0 : Below w.heap.size w (w.alloc (.cells #[.int .i64 0, .slice none 0 0] 27)) := (Below.refl _ w).alloc (Nat.le_refl _) _
  unfold PxPost
  by_cases h200 : 200 < l.length
  · have q : (200 : Int) < (l.length : Int) := by omega
    have HV := hid (p_many h200)
    have HB := hid hb0
    clear h200 hb0
    generalize str l = sl at *
    go_enter Tryd.func6, Tryd.ntmps6
    go_wp2
    refine bodyPost_ret (v := .agg #[.int .i64 2, .slice none 0 0]) (by simp [results, Tryd.results6, go_sem]) rfl ⟨⟨_, ret_expr HV.out.1.symm, ?_⟩, (Below.refl _ w).alloc (Nat.le_refl _) _⟩
    rw [HV.out.2]
    exact World.ownsRow_nil _ _ _ 4
  have q : ¬ (200 : Int) < (l.length : Int) := by omega
  have hb1 : Below w.heap.size w ((w.alloc (.cells #[.int .i64 0, .slice none 0 0] 27)).alloc (.cells #[.string (str l), .slice none 0 0] 43)) := hb0.alloc (by simp) _
  have HRD : Hid (Rd ((w.alloc (.cells #[.int .i64 0, .slice none 0 0] 27)).alloc (.cells #[.string (str l), .slice none 0 0] 43)) (w.heap.size + 1) l []) := hid ⟨.slice none 0 0, by have h := World.alloc_heap_new (w.alloc (.cells #[.int .i64 0, .slice none 0 0] 27)) (.cells #[.string (str l), .slice none 0 0] 43); rw [World.size_alloc] at h; exact h, World.ownsRow_nil _ _ _ 4⟩
  have HT := hid (implTake (w.heap.size + 1) (l.length + 1) l [] _ (by omega) (by omega) (by simp) HRD.out)
  have r0 : ((w.alloc (.cells #[.int .i64 0, .slice none 0 0] 27)).alloc (.cells #[.string (str l), .slice none 0 0] 43)).cell? ⟨w.heap.size, 0, none⟩ = some (.int .i64 0) := by go_simp
  have r1 : ((w.alloc (.cells #[.int .i64 0, .slice none 0 0] 27)).alloc (.cells #[.string (str l), .slice none 0 0] 43)).cell? ⟨w.heap.size, 1, none⟩ = some (.slice none 0 0) := by go_simp
  have f0 : ((w.alloc (.cells #[.int .i64 0, .slice none 0 0] 27)).alloc (.cells #[.string (str l), .slice none 0 0] 43)).frozen? ⟨w.heap.size, 0, none⟩ = false := by go_simp
  have f1 : ((w.alloc (.cells #[.int .i64 0, .slice none 0 0] 27)).alloc (.cells #[.string (str l), .slice none 0 0] 43)).frozen? ⟨w.heap.size, 1, none⟩ = false := by go_simp
  have HB := hid hb1
  have R0 := hid r0
  have R1 := hid r1
  have F0 := hid f0
  have F1 := hid f1
  have HNO := hid (p_none h200)
  have HSO := hid (fun (t : Tm) => p_some (t := t) h200)
  clear r0 r1 f0 f1 HRD hb0 hb1 h200
  go_enter Tryd.func6, Tryd.ntmps6
  go_wp2_with fail
  refine HT.out.mono ?_
  rintro e w1 ⟨hp, hb1⟩
  have c0 := kept_cell hb1 (b := w.heap.size) (by omega) R0.out
  have c1 := kept_cell hb1 (b := w.heap.size) (by omega) R1.out
  have d0 := kept_free hb1 (b := w.heap.size) (by omega) F0.out
  have d1 := kept_free hb1 (b := w.heap.size) (by omega) F1.out
  have HB1 : Hid (Below w.heap.size w w1) := hid (HB.out.trans (hb1.mono (by omega)))
  clear HT R0 R1 F0 F1 hb1 HB
  rcases hp with ⟨t, r, hg, hok, hsz, rfl, hr⟩ | ⟨hno, x, rfl⟩
  · obtain ⟨a, cap, m0, m1, ho⟩ := hr.c1
    have HO := hid ho
    simp only [List.length_nil, List.nil_append, Nat.zero_add] at m1 hsz ho
    cases hrr : r with
    | nil =>
      rw [hrr] at m0 hg
      have HP := hid (HSO.out t (parse_some hg ⟨hok, hsz⟩))
      have hemp : (str []).toList.isEmpty = true := by rw [str_toList]; rfl
      have HOO : Hid (((w1.setCell ⟨w.heap.size, 0, none⟩ (.int .i64 0)).setCell ⟨w.heap.size, 1, none⟩ (.slice a (t.nodes 0).length cap)).ownsRow (w.heap.size + 1) 35 4 (.slice a (t.nodes 0).length cap) (t.nodes 0).length (nvals (t.nodes 0))) := hid (own_set2 (own_set2 (own_mono2 ho (by omega)) (by omega)) (by omega))
      clear hg hok hsz hr ho HO hrr
      generalize str [] = se at *
      go_wp2
      refine bodyPost_ret (v := .agg #[.int .i64 0, .slice a (t.nodes 0).length cap]) (by simp [results, Tryd.results6, go_sem, c0, c1]) rfl ⟨⟨_, ret_expr HP.out.1.symm, ?_⟩, setB (setB HB1.out (Nat.le_refl _) _) (Nat.le_refl _) _⟩
      rw [HP.out.2]
      exact HOO.out
    | cons b rs =>
      rw [hrr] at m0 hg
      have HP := hid (HNO.out (parse_none (fun t' ht' => by rw [hg] at ht'; cases ht')))
      have hemp : (str (b :: rs)).toList.isEmpty = false := by rw [str_toList]; rfl
      clear hg hok hsz hr ho HO hrr
      generalize str (b :: rs) = se at *
      go_wp2
      refine bodyPost_ret (v := .agg #[.int .i64 5, .slice none 0 0]) (by simp [results, Tryd.results6, go_sem, c0, c1]) rfl ⟨⟨_, ret_expr HP.out.1.symm, ?_⟩, setB (setB HB1.out (Nat.le_refl _) _) (Nat.le_refl _) _⟩
      rw [HP.out.2]
      exact World.ownsRow_nil _ _ _ 4
  · have HP := hid (HNO.out (parse_none (fun t' ht' h => hno t' [] ht' (by simpa using h))))
    clear hno
    go_wp2
    refine bodyPost_ret (v := .agg #[.int .i64 5, .slice none 0 0]) (by simp [results, Tryd.results6, go_sem, c0, c1]) rfl ⟨⟨_, ret_expr HP.out.1.symm, ?_⟩, setB (setB HB1.out (Nat.le_refl _) _) (Nat.le_refl _) _⟩
    rw [HP.out.2]
    exact World.ownsRow_nil _ _ _ 4
end Ex
end Go.Proofs.YtdidbnhfknpheaaDoor
