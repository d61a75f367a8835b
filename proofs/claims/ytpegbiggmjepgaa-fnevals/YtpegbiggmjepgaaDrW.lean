/- What the specification draws of variables: DrawVarsFault. -/
import Derived.Test.YtpegbiggmjepgaaDrV
import Derived.Test.YtpegbiggmjepgaaNu
namespace Go.Proofs.Ytpegbiggmjepgaa
open Go.RowKit
set_option linter.unusedVariables false
namespace DrE
open Ex
theorem own4v {w : World} {B : Nat} {e : TypeId} {u : Value} {xs : List Int} (hx : xs.length = 4) (h : w.ownsRow B e 1 u 4 (ivals xs)) :
    ∃ g c, u = .slice (some ⟨g, 0, none⟩) 4 c ∧ B ≤ g ∧ g < w.heap.size ∧ 4 ≤ c ∧ c ≤ maxLen ∧ (∀ i, w.frozen? ⟨g, i, none⟩ = false) ∧ ∀ j (hj : j < xs.length), w.cell? ⟨g, j, none⟩ = some (.int .i64 xs[j]) := by
  obtain ⟨hl, ⟨_, h0⟩ | ⟨g, cap, cur, rfl, hB, hh, hle, hm, hs, hcur⟩⟩ := h
  · omega
  · refine ⟨g, cap, rfl, hB, (Array.getElem?_eq_some_iff.1 hh).1, hle, hm, fun i => by simp [World.frozen?, hh], fun j hj => ?_⟩
    rw [cell_of_row w g j cur e (0, 0) hh]
    have e1 : (ivals xs)[j]? = some (.int .i64 xs[j]) := by simp [ivals, List.getElem?_eq_getElem hj]
    rw [← hcur, List.getElem?_take] at e1
    split at e1
    · simpa using e1
    · cases e1
theorem threeV {w : World} : ∀ (i : Nat) (z : Int), ([1000001, -1000001, -1000000] : List Int)[i]? = some z → (w.alloc (.cells #[.int .i64 1000001, .int .i64 (-1000001), .int .i64 (-1000000)] 2)).cell? ⟨w.heap.size, i, none⟩ = some (.int .i64 z)
  | 0, z, h => by cases h; go_simp
  | 1, z, h => by cases h; go_simp
  | 2, z, h => by cases h; go_simp
  | i + 3, z, h => by simp at h
set_option maxRecDepth 100000 in
set_option maxHeartbeats 8000000 in
theorem drawVars (len cap : Nat) (a : Option Addr) (w : World) (hln : len ≤ 2000000) (hc : Drw.CodeAt w.heap.size w a len) :
    Calls Try.prog 15 #[.slice a len cap] w fun e w' => ∃ (xs : List Int) (u : Value), xs.length ≤ 4 ∧ e = .returned u ∧ Nu.At w' w.heap.size u xs ∧ Below w.heap.size w w' := by
  have HC := hid hc
  clear hc
  go_enter Try.func15, Try.ntmps15
  go_wp2_with fail
  refine (Drw.source a len cap w).mono ?_
  rintro e w1 ⟨rfl, hw1⟩
  have HS1 : Hid (Drw.Src w1 w.heap.size a len cap 0) := hid (by rw [hw1]; exact heap_alloc_new w _)
  have HB1 : Hid (Below w.heap.size w w1) := hid (by rw [hw1]; exact (Below.refl _ w).alloc (Nat.le_refl _) _)
  have HC1 := hid (code_below HC.out HB1.out (Nat.le_refl _))
  clear hw1 HC
  go_wp2_with fail
  refine (vars w.heap.size w.heap.size len cap 0 a w1 (Nat.le_refl _) hln HS1.out HC1.out (by omega)).mono ?_
  rintro e w2 ⟨xs, u, hx4, hxb, rfl, hown, hs2, hb2⟩
  have HB2 := hid (HB1.out.trans hb2)
  have HC2 := hid (code_below HC1.out hb2 (Nat.le_refl _))
  have HS2 := hid hs2
  have HOW := hid hown
  obtain ⟨g, c, rfl, hg, _⟩ := own4v hx4 hown
  clear hs2 hb2 HS1 HB1 HC1 hown
  go_wp2_with fail
  refine (Drw.next w.heap.size w.heap.size len cap (0 + 8) 6 a _ HS2.out HC2.out (Nat.le_refl _) hln (by omega) (by omega) (by omega)).mono ?_
  rintro e w3 ⟨r, hr, rfl, hs3, hg3⟩
  have hl2 := HS2.out.lt
  have HB3 := hid (HB2.out.trans (below_src hg3 hl2))
  have HC3 := hid (code_below HC2.out (below_src hg3 hl2) (Nat.le_refl _))
  have HO3 := own_src HOW.out hg3
  have hl3 := hs3.lt
  obtain ⟨g', c', e', _, hgl, hc4, hcm, hfz, hcs⟩ := own4v hx4 HO3
  cases e'
  obtain ⟨x0, x1, x2, x3, rfl⟩ : ∃ x0 x1 x2 x3, xs = [x0, x1, x2, x3] := by
    match xs, hx4 with
    | [x0, x1, x2, x3], _ => exact ⟨_, _, _, _, rfl⟩
  have m0 : w3.cell? ⟨g, 0, none⟩ = some (.int .i64 x0) := hcs 0 (by simp)
  have m1 : w3.cell? ⟨g, 1, none⟩ = some (.int .i64 x1) := hcs 1 (by simp)
  have m2 : w3.cell? ⟨g, 2, none⟩ = some (.int .i64 x2) := hcs 2 (by simp)
  have m3 : w3.cell? ⟨g, 3, none⟩ = some (.int .i64 x3) := hcs 3 (by simp)
  clear hcs HOW HS2 HC2 HB2 hg3
  by_cases r0 : r = 0
  · subst r0
    have HSa := hid (src_alloc hs3 (.cells #[.int .i64 1000001, .int .i64 (-1000001), .int .i64 (-1000000)] 2))
    have HBa : Hid (Below w.heap.size w3 (w3.alloc (.cells #[.int .i64 1000001, .int .i64 (-1000001), .int .i64 (-1000000)] 2))) := hid ((Below.refl _ w3).alloc (Nat.le_of_lt hl3) _)
    have HCa := hid (code_below HC3.out HBa.out (Nat.le_refl _))
    have ha : (w3.alloc (.cells #[.int .i64 1000001, .int .i64 (-1000001), .int .i64 (-1000000)] 2)).heap.size = w3.heap.size + 1 := by simp
    go_wp2_with fail
    refine (Drw.pick w.heap.size w.heap.size len cap (0 + 8 + 1) w3.heap.size 3 [1000001, -1000001, -1000000] a _ HSa.out HCa.out (Nat.le_refl _) hln (by omega) rfl (by omega) (by omega) (by omega) (by simp) threeV).mono ?_
    rintro e w4 ⟨z, hz, rfl, hs4, hg4⟩
    have hne : some w.heap.size ≠ some g := by intro e; cases e; omega
    have n0 := grown_cell2 hg4 ((World.cell?_alloc_lt w3 (.cells #[.int .i64 1000001, .int .i64 (-1000001), .int .i64 (-1000000)] 2) _ hgl).trans m0) hne
    have n1 := grown_cell2 hg4 ((World.cell?_alloc_lt w3 (.cells #[.int .i64 1000001, .int .i64 (-1000001), .int .i64 (-1000000)] 2) _ hgl).trans m1) hne
    have n2 := grown_cell2 hg4 ((World.cell?_alloc_lt w3 (.cells #[.int .i64 1000001, .int .i64 (-1000001), .int .i64 (-1000000)] 2) _ hgl).trans m2) hne
    have n3 := grown_cell2 hg4 ((World.cell?_alloc_lt w3 (.cells #[.int .i64 1000001, .int .i64 (-1000001), .int .i64 (-1000000)] 2) _ hgl).trans m3) hne
    have nf := grown_free2 hg4 (b := g) (o := 0) (by omega) ((World.frozen?_alloc_past (.cells #[.int .i64 1000001, .int .i64 (-1000001), .int .i64 (-1000000)] 2) g 0 hgl).trans (hfz 0)) hne
    have HB4 := hid ((HB3.out.trans HBa.out).trans (below_src hg4 HSa.out.lt))
    have hg4l : g < w4.heap.size := by have := hg4.size; omega
    clear m0 m1 m2 m3 hfz HSa HBa HCa hs3 HC3
    go_wp2
    go_ret
    refine ⟨[z, x1, x2, x3], _, by simp, rfl, ⟨_, c, rfl, by simp; omega, by omega, .inr ⟨g, 0, rfl, by omega, by simp [World.setCell]; omega, fun i hi => ?_⟩⟩, HB4.out.setCell (p := ⟨g, 0, none⟩) (by show w.heap.size ≤ g; omega) _⟩
    match i, hi with
    | 0, _ => exact World.cell?_setCell_same _ _ _ n0
    | 1, _ => exact (World.cell?_setCell_other _ _ _ _ (by simp)).trans n1
    | 2, _ => exact (World.cell?_setCell_other _ _ _ _ (by simp)).trans n2
    | 3, _ => exact (World.cell?_setCell_other _ _ _ _ (by simp)).trans n3
  · have b0 : ((r : Int) == 0) = false := by simp; omega
    by_cases r1 : r = 1
    · subst r1
      have hcne : ¬ c = 1 := by omega
      have hcle : 1 < c := by omega
      clear b0
      go_wp2
      go_ret
      refine ⟨[x1, x2, x3], _, by simp, rfl, ⟨_, c - 1, rfl, by simp; omega, by omega, .inr ⟨g, 1, rfl, by omega, hgl, fun i hi => ?_⟩⟩, HB3.out⟩
      match i, hi with
      | 0, _ => exact m1
      | 1, _ => exact m2
      | 2, _ => exact m3
    · have b1 : ((r : Int) == 1) = false := by simp; omega
      go_wp2
      go_ret
      refine ⟨[x0, x1, x2, x3], _, by simp, rfl, ⟨_, c, rfl, by simp; omega, by omega, .inr ⟨g, 0, rfl, by omega, hgl, fun i hi => ?_⟩⟩, HB3.out⟩
      match i, hi with
      | 0, _ => exact m0
      | 1, _ => exact m1
      | 2, _ => exact m2
      | 3, _ => exact m3
end DrE
end Go.Proofs.Ytpegbiggmjepgaa
