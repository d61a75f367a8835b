/- What the specification draws of an expression and its variables: DrawEvalExpr. -/
import Derived.Test.YtpegbiggmjepgaaDrW
import Derived.Test.YtpegbiggmjepgaaDrD
import Derived.Laws.AppendOwnNone
namespace Go.Proofs.Ytpegbiggmjepgaa
open Go.RowKit
set_option linter.unusedVariables false
namespace DrE
open Ex
open Nd (NodeD)
theorem infoU8 : (Try.prog.info? 5).map (fun i => (i.zero, i.size, i.bytes)) = some (some (.int .u8 0), 1, 1) := by kernel_rfl
/-- A row of bytes is a code. -/
theorem code_own {w : World} {B n cap : Nat} {a : Option Addr} {zs : List Nat} (hz : ∀ z ∈ zs, z ≤ 255) (h : w.ownsRow B 5 1 (.slice a n cap) n (zs.map fun (z : Nat) => Value.int .u8 (z : Int))) : Drw.CodeAt w.heap.size w a n := by
  obtain ⟨hl, ⟨_, h0⟩ | ⟨g, cap', cur, e', hB, hh, hle, hm, hs, hcur⟩⟩ := h
  · exact .inl h0
  · cases e'
    refine .inr ⟨g, 0, rfl, (Array.getElem?_eq_some_iff.1 hh).1, fun i hi => ?_⟩
    have hi' : i < zs.length := by simp at hl; omega
    refine ⟨zs[i], hz _ (List.getElem_mem hi'), ?_⟩
    rw [cell_of_row w g (0 + i) cur _ (0, 0) hh]
    have e1 : (zs.map fun (z : Nat) => Value.int .u8 (z : Int))[i]? = some (.int .u8 (zs[i] : Int)) := by simp [List.getElem?_eq_getElem hi']
    rw [← hcur, List.getElem?_take] at e1
    split at e1
    · rw [Nat.zero_add]; simpa using e1
    · cases e1
/-- The bytes of a code, as a list. -/
theorem code_list {w : World} {b off : Nat} : ∀ n, (∀ i, i < n → ∃ z : Nat, z ≤ 255 ∧ w.cell? ⟨b, off + i, none⟩ = some (.int .u8 z)) → ∃ zs : List Nat, zs.length = n ∧ (∀ z ∈ zs, z ≤ 255) ∧ ∀ (j : Nat) z, zs[j]? = some z → w.cell? ⟨b, off + j, none⟩ = some (.int .u8 (z : Int))
  | 0, _ => ⟨[], rfl, by simp, by simp⟩
  | n + 1, h => by
    obtain ⟨zs, h1, h2, h3⟩ := code_list n (fun i hi => h i (by omega))
    obtain ⟨z, hz, hc⟩ := h n (by omega)
    refine ⟨zs ++ [z], by simp [h1], fun x hx => ?_, fun j x hx => ?_⟩
    · rcases List.mem_append.1 hx with hx | hx
      · exact h2 x hx
      · simp at hx; omega
    · by_cases hj : j < zs.length
      · rw [List.getElem?_append_left hj] at hx; exact h3 j x hx
      · by_cases e : j = n
        · subst e; rw [List.getElem?_append_right (by omega)] at hx; simp [h1] at hx; subst hx; exact hc
        · rw [List.getElem?_eq_none (by simp; omega)] at hx; cases hx
set_option maxRecDepth 100000 in
set_option maxHeartbeats 8000000 in
theorem drawEval (len cap : Nat) (a : Option Addr) (w : World) (hln : len ≤ 1048576) (hnil : a = none → len = 0 ∧ cap = 0) (hc : Drw.CodeAt w.heap.size w a len) :
    Calls Try.prog 5 #[.slice a len cap] w fun e w' => ∃ (ns : List NodeD) (xs : List Int) (u v : Value), ns.length ≤ 17 ∧ xs.length ≤ 4 ∧ e = .returned (.tuple #[u, v]) ∧ Nd.At w' 0 u ns ∧ Nu.At w' 0 v xs ∧ Below w.heap.size w w' := by
  have HC := hid hc
  obtain ⟨j0, hj, hy0, hy1, hy2⟩ := info_parts infoU8
  clear hc
  go_enter Try.func5, Try.ntmps5
  go_wp2_with fail
  refine (Drw.source a len cap w).mono ?_
  rintro e w1 ⟨rfl, hw1⟩
  have HS1 : Hid (Drw.Src w1 w.heap.size a len cap 0) := hid (by rw [hw1]; exact heap_alloc_new w _)
  have HB1 : Hid (Below w.heap.size w w1) := hid (by rw [hw1]; exact (Below.refl _ w).alloc (Nat.le_refl _) _)
  have HC1 := hid (code_below HC.out HB1.out (Nat.le_refl _))
  have l1 : w.heap.size < w1.heap.size := HS1.out.lt
  clear hw1
  go_wp2_with fail
  refine (bent w.heap.size w.heap.size len cap 0 a w1 (Nat.le_refl _) (by omega) HS1.out HC1.out (by omega)).mono ?_
  rintro e w2 ⟨ns, u, hns, rfl, hat, hb2⟩
  have HAT := hid (hat.mono (Nat.zero_le _))
  have HB2 := hid (HB1.out.trans hb2)
  have HC2 := hid (code_below HC1.out hb2 (Nat.le_refl _))
  obtain ⟨au, cu, rfl⟩ := hat.slice
  have l2 : w.heap.size ≤ w2.heap.size := HB2.out.size
  clear hat hb2 HS1 HB1 HC1
  have HO : Hid ((w2.alloc (.cells #[.int .u8 3] 5)).ownsRow w2.heap.size 5 1 (.slice (some ⟨w2.heap.size, 0, none⟩) 1 1) 1 [.int .u8 3]) := hid ⟨by simp, .inr ⟨w2.heap.size, 1, #[.int .u8 3], rfl, Nat.le_refl _, heap_alloc_new w2 _, Nat.le_refl _, by decide, by simp, by simp⟩⟩
  have HBa : Hid (Below w2.heap.size w2 (w2.alloc (.cells #[.int .u8 3] 5))) := hid ((Below.refl _ w2).alloc (Nat.le_refl _) _)
  cases a with
  | none =>
    obtain ⟨rfl, rfl⟩ := hnil rfl
    go_wp2_with (at_builtin; go_must (refine wpList_append_own_none rfl _ _ 22 rfl w2.heap.size 5 j0 1 Try.underlying22 hj _ _ _ rfl HO.out rfl ?_))
    refine (drawVars 1 1 _ _ (by omega) (code_own (zs := [3]) (by simp) HO.out)).mono ?_
    rintro e w4 ⟨xs, v, hxs, rfl, hnu, hb4⟩
    obtain ⟨av, cv, rfl⟩ := hnu.slice
    have B4 := HBa.out.trans (hb4.mono HBa.out.size)
    go_wp2
    refine bodyPost_ret (v := .tuple #[.slice au ns.length cu, .slice av xs.length cv]) (by simp [results, Try.results5, go_sem]) rfl ?_
    exact ⟨ns, xs, _, _, hns, hxs, rfl, HAT.out.below B4, hnu.mono (Nat.zero_le _), HB2.out.trans (B4.mono l2)⟩
  | some ad =>
    obtain ⟨zs, hzl, hzb, hzc⟩ : ∃ zs : List Nat, zs.length = len ∧ (∀ z ∈ zs, z ≤ 255) ∧ ∀ (j : Nat) u, (zs.map fun (z : Nat) => Value.int .u8 (z : Int))[j]? = some u → (w2.alloc (.cells #[.int .u8 3] 5)).cell? (ad.add j) = some u := by
      rcases HC2.out with h0 | ⟨b, off, e, hb, hcs⟩
      · exact ⟨[], by simp [h0], by simp, by simp⟩
      · cases e
        obtain ⟨zs, h1, h2, h3⟩ := code_list len hcs
        refine ⟨zs, h1, h2, fun j u hu => ?_⟩
        rw [Go.WideShapes.add_plain]
        rw [List.getElem?_map] at hu
        cases hzj : zs[j]? with
        | none => rw [hzj] at hu; cases hu
        | some z =>
          rw [hzj] at hu
          cases hu
          exact (HBa.out.cell (p := ⟨b, off + j, none⟩) (Nat.lt_of_lt_of_le hb l2)).trans (h3 j z hzj)
    go_wp2_with (at_builtin; go_must (refine wpList_append_own _ rfl _ _ 22 rfl w2.heap.size 5 j0 (.int .u8 0) 1 1 Try.underlying22 hj hy0 hy1 hy2 rfl (by decide) _ _ _ rfl HO.out ad len cap (zs.map fun (z : Nat) => Value.int .u8 (z : Int)) rfl (by simp [hzl]) hzc (by simp [Value.oneCell']) (by unfold maxLen; omega) (by omega) (by simp) ?_); intro v3 w3 hown3 hg3 _; rw [show 1 + len = len + 1 by omega] at hown3; obtain ⟨g3, c3, rfl⟩ := ownsRow_succ hown3)
    have B3 : Below w2.heap.size w2 w3 := HBa.out.grown hg3 (by simp) (fun b e => by have := own_lt' HO.out e; omega)
    refine (drawVars (len + 1) c3 _ _ (by omega) (code_own (zs := 3 :: zs) (by intro z hz; rcases List.mem_cons.1 hz with h | h; omega; exact hzb z h) (by simpa using hown3))).mono ?_
    rintro e w4 ⟨xs, v, hxs, rfl, hnu, hb4⟩
    obtain ⟨av, cv, rfl⟩ := hnu.slice
    have B4 := B3.trans (hb4.mono B3.size)
    go_wp2
    refine bodyPost_ret (v := .tuple #[.slice au ns.length cu, .slice av xs.length cv]) (by simp [results, Try.results5, go_sem]) rfl ?_
    exact ⟨ns, xs, _, _, hns, hxs, rfl, HAT.out.below B4, hnu.mono (Nat.zero_le _), HB2.out.trans (B4.mono l2)⟩
end DrE
end Go.Proofs.Ytpegbiggmjepgaa
